import Derived.Test.YtpkjkjhanlbcoaaGreatJ10
import Derived.Lib.SliceRun
namespace Go.Proofs.YtpkjkjhanlbcoaaGreat
set_option maxRecDepth 100000
set_option maxHeartbeats 4000000
open Tryz
open Go.RowKit W Kp ck
theorem yY {P:Prop}(h:P:=by unfold dE;rw[aI c];show((k.ma t.1.1 _,t.1.2.set i ((t.1.2.getD i (0,0)).1,(t.1.2.getD i (0,0)).2)),true)=_;rw[(F_ _ _ _)]):P:=h
theorem yZ {P:Prop}(h:P:=by
 obtain⟨j1,j2,cH⟩:=h1.ma _;refine⟨j1,h2.trans j2,fun i hi=>?_⟩
 by_cases e:i=n
 ·rw[e];exact cH
 ·exact j2.cX (h3 i aa)):P:=h
def cf.jd (s:cy)(t:cf×Int)(a:Int):cf×Int:=(t.1.lL (s.f a).toNat a.toNat (1+(pf (t.1.ld a)).toNat),t.2+(1+pf (t.1.ld a)))
def cf.lM (k:cf)(s:cy)(l:List Int):cf×Int:=hJ (fun _ a=>s.f a) (cf.jd s) (k,0) l
def cf.pt (k:cf)(s:cy)(l:List Int):cf:=hJ (fun(_:cf) a=>s.f a) (fun k a=>k.cop a) k l
def cf.t1 (k:cf):cf:={k with s:={k.s with M:=[]}}
def cf.sl1 (k:cf)(s:cy):cf:=(k.lM s k.G).1.ar (k.lM s k.G).1.s.y (k.lM s k.G).2.toNat (k.lM s k.G).1.s.ws
def cf.sl2 (k:cf)(s:cy):cf:=(k.sl1 s).pt s k.Y
def cf.sl (k:cf)(s:cy):cf:=((k.sl2 s).ar 0 (k.sl2 s).s.g (k.sl2 s).s.ws).t1
theorem Ga:dS 161:=gw func161 ah rfl
theorem Gb:dS 164:=gw func164 ah rfl
section
variable {c:ft}{k0 k:cf}{vt cx:Value}{F:Nat->Prop}{s:cy}{w:az}{bp gg:Nat}
theorem Ge (h:(dp c k0 s vt cx).J F k w)(n:Int)(h0:0<=n)(d:n<=k0.a.O):Calls prog 163 #[aq k0.a.p,ak n] w fun e w'=>∃b,e=.returned (.tuple #[])/\(dp c k0 s vt cx).J b (k.ar k.s.y n.toNat k.s.ws) w'/\cg F w b w':=by obtain⟨h,ea,tU,tW⟩:=h;obtain⟨f,hU⟩:=oo h;rw[<-ea];refine(CF n w f h0 ((ea▸d))).mono ?_;exact tT
theorem Gf (h:(dp c k0 s vt cx).J F k w):Calls prog 114 #[aq k0.a.p] w fun e w'=>∃b,e=.returned (.tuple #[])/\(dp c k0 s vt cx).J b (k.ar 0 k.s.g k.s.ws) w'/\cg F w b w':=by obtain⟨h,ea,tU,tW⟩:=h;obtain⟨d,hU⟩:=oo h;rw[<-ea];refine(wC w d).mono ?_;exact tT
theorem Gg (h:(dp c k0 s vt cx).J F k w):w.cell? (av k0.a.pw 1)=some (aq k0.a.pc)/\Calls prog 115 #[aq k0.a.pc] w fun e w'=>∃f,e=.returned (.tuple #[])/\(dp c k0 s vt cx).J f k.t1 w'/\cg F w f w':=by
 obtain⟨h,ea,j,l⟩:=h;obtain⟨u,g1,g2⟩:=pr h;obtain⟨_,c1,_⟩:=jZ g1;obtain⟨cT,hc,m⟩:=yb g1;have P:=sL w hc.hp;rw[ea] at c1 P;refine⟨c1,P.mono ?_⟩
 rintro e n ⟨rfl,g,d⟩
 rw[<-ea] at g d;obtain⟨v,o,p⟩:=m n _ _ g ⟨d.os,d.tape,d.output,d.size,fun b hb i _=>d.block b hb i i⟩ (aL b7)
 obtain⟨q,j2,t⟩:=g2 _ _ _ o p;exact⟨q,rfl,⟨j2,ea,j,l⟩,t⟩
theorem ot (h:(dp c k0 s vt cx).J F k w):w.cell? (av c.pk 1)=some c.yv/\w.cell? (av c.pk 2)=some c.ov/\w.ownsRow 0 3 1 c.yv k0.Y.length (k0.Y.map (Value.int .i64))/\w.ownsRow 0 3 1 c.ov k0.G.length (k0.G.map (Value.int .i64)):=by obtain⟨h,ea,b,d⟩:=h;obtain⟨_,e,f,_⟩:=eI h;obtain⟨y,g⟩:=yS h;rw[b] at y;rw[d] at g;exact⟨e,f,y,g⟩
def iL (k0:cf)(s:cy)(G:Nat->cf×Int->Prop):Prop:=
 (∀j t,j<k0.G.length->G j t->s.f (k0.G.getD j 0)≠-1->0<=s.f (k0.G.getD j 0)/\s.f (k0.G.getD j 0)+(1+pf (t.1.ld (k0.G.getD j 0)))<=k0.a.N+k0.a.O/\k0.G.getD j 0+(1+pf (t.1.ld (k0.G.getD j 0)))<=k0.a.N+k0.a.O/\0<=t.2/\t.2<=100000)/\
 (∀j t,j<k0.G.length->G j t->G (j+1) (fu (fun _ a=>s.f a) (cf.jd s) t (k0.G.getD j 0)))/\(∀t,G k0.G.length t->0<=t.2/\t.2<=k0.a.O)
theorem Gh {G:Nat->cf×Int->Prop}(k:iL k0 s G){t:cf×Int}(h0:G 0 t)(h:(h_ (dl (dp c k0 s vt cx) bp (du c)) gg).J F t w)(hl:k0.G.length<=4000)(hp:∀a∈k0.G,0<=a/\a<=2000){ad:Option Addr}{d:Nat}(hv:c.ov=.slice ad k0.G.length d):
 Calls prog 157 #[aq c.pk,.slice ad k0.G.length d,.func (.func 161) #[] #[aq bp,aq gg]] w fun e w'=>∃f,e=.returned (.tuple #[])/\(h_ (dl (dp c k0 s vt cx) bp (du c)) gg).J f (hJ (fun _ a=>s.f a) (cf.jd s) t k0.G) w'/\cg F w f w'/\G k0.G.length (hJ (fun _ a=>s.f a) (cf.jd s) t k0.G):=by
 have l:∀a∈k0.G,a∈k0.T:=fun a ha=>List.mem_append.2 (aM ha)
 refine tX _ (fun _ a=>s.f a) (fun t a=>pf _) _ G k0.T c.pk k0.a.pw k0.a.p c.ct 161 #[.pointer _,.pointer _] Ga k0.G ad d F t w
  (by
    rintro F t m a o;obtain⟨_,g,_⟩:=lK o;obtain⟨_,b,_⟩:=gR g;obtain⟨c0,c3,c5,hM,p⟩:=iu b;refine⟨c0,c3,c5,hM,(gy a m p).mono ?_⟩
    rintro r w' ⟨rfl,hb⟩
    have q:pf (t.1.ld a)=pf (ld k0.a.N t.1.s.y t.1.s.g t.1.s.ws a):=by unfold cf.ld;rw[b.2.1]
    exact⟨pk _,pc _,by rw[q],hb⟩)
  (fun t a=>dr _) (fun a ha=>⟨by have:=hp a ha;omega,l a ha⟩) aa
  (by
    rintro j F t m u hg i v;have hm:k0.G.getD j 0∈k0.G:=by simp_all
    have b:=hp _ hm;have S:=dr (t.1.ld (k0.G.getD j 0))
    obtain⟨a1,a2,x,B,N⟩:=k.1 j t u hg v;have n:((1+(pf (t.1.ld (k0.G.getD j 0))).toNat:Nat):Int)=1+pf (t.1.ld (k0.G.getD j 0)):=aa;have P:=F8 i _ _ (l _ hm) b a1 aa ((n▸x)) ⟨B,N⟩ aa;rw[n] at P;exact P)
  k.2.1 h0 h (fun f W w' i _=>?_)
 obtain⟨_,g,_⟩:=lK i;obtain⟨_,b,_⟩:=gR g;have hr:=(ot b).2.2.2;rw[hv] at hr;exact gX hr
theorem Gj (h:(dl (dp c k0 s vt cx) bp (du c)).J F k w)(hl:k0.Y.length<=4000)(hp:∀a∈k0.Y,0<=a/\a<=2000){ad:Option Addr}{f:Nat}(hv:c.yv=.slice ad k0.Y.length f):
 Calls prog 157 #[aq c.pk,.slice ad k0.Y.length f,.func (.func 164) #[] #[aq bp]] w fun e w'=>∃d,e=.returned (.tuple #[])/\(dl (dp c k0 s vt cx) bp (du c)).J d (k.pt s k0.Y) w'/\cg F w d w':=by
 have l:∀a∈k0.Y,a∈k0.T:=fun a ha=>List.mem_append.2 (aL ha)
 have E:=tX _ (fun(_:cf) a=>s.f a) (fun t a=>pf (t.ld a)) (fun k a=>k.cop a) (fun _ _=>True) k0.T c.pk k0.a.pw k0.a.p c.ct 164 #[.pointer _] Gb k0.Y ad f F k w
  (by
    rintro F t i a m;obtain⟨_,b,_⟩:=gR m;obtain⟨c0,c3,c5,hM,n⟩:=iu b;refine⟨c0,c3,c5,hM,(gy a i n).mono ?_⟩
    rintro r w' ⟨rfl,hb⟩
    have o:pf (t.ld a)=pf (ld k0.a.N t.s.y t.s.g t.s.ws a):=by unfold cf.ld;rw[b.2.1]
    exact⟨pk _,pc _,by rw[o],hb⟩)
  (fun t a=>dr _) (fun a ha=>⟨by have:=hp a ha;omega,l a ha⟩) aa
  (fun j F t i _ _ g _=>F9 g _ _)
  (fun _ _ _ _=>trivial) trivial h (fun d q w' g _=>by obtain⟨_,b,_⟩:=gR g;have hr:=(ot b).2.2.1;rw[hv] at hr;exact gX hr)
 refine E.mono ?_;rintro r w' ⟨d,rfl,b,p,_⟩
 exact⟨d,rfl,b,p⟩
end
theorem cg.less {X F c:Nat->Prop}{w w':az}(h:cg X w F w')(hs:∀b,c b->F b):cg X w c w':=⟨h.fr,fun b d=>h.sub b (hs b d)⟩
theorem Gk {g:Type}{o:dx g}{bx:Nat}{x:Obj}{F:Nat->Prop}{w:az}{t:g}(h:(dl o bx x).J F t w):∃e,o.J e t w/\w.heap[bx]?=some x/\bx<w.heap.size/\(∀c f w1,o.J c f w1->cg e w c w1->(dl o bx x).J (fun b=>c b\/b=bx) f w1/\cg F w (fun b=>c b\/b=bx) w1)/\∀b,e b->F b:=by
 obtain⟨e,h,g2,g3,g4⟩:=h;refine⟨e,h,g2,lt_of_some g2,fun c f w1 i hT=>⟨⟨c,i,(hT.fr.block bx (lt_of_some g2) g3).trans g2,fun d=>(hT.sub bx d).elim g3 (fun d=>by have:=lt_of_some g2;omega),fun b=>Iff.rfl⟩,⟨hT.fr.mono (fun b hb=>(g4 b).2 (aM hb)),fun b hb=>?_⟩⟩,fun b hb=>(g4 b).2 (aM hb)⟩
 exact tP
section
variable {c:ft}{k:cf}{vt cx:Value}{F:Nat->Prop}{s:cy}{w:az}
theorem Gm {G:Nat->cf×Int->Prop}(bt:iL k s G)(bx:G 0 (k,0))(h:(cZ c k vt cx).J F s w)(hl:k.T.length<=4000)(hp:∀a∈k.T,0<=a/\a<=2000):
 Calls prog 84 #[aq c.pk] w fun e w'=>∃al,e=.returned (.tuple #[])/\(cZ c (k.sl s) vt cx).J al s w'/\cg F w al w':=by
 have cF:k.T.length=k.G.length+k.Y.length:=by unfold cf.T;rw[a7]
 have m:aA (_/\_/\(∀a∈k.G,0<=a/\a<=2000)/\(∀a∈k.Y,0<=a/\a<=2000)/\k.G.length<=4000/\k.Y.length<=4000):=⟨bt,bx,fun a ha=>hp a (List.mem_append.2 (aM ha)),fun a ha=>hp a (List.mem_append.2 (aL ha)),aa,aa⟩
 have am:=(cZ c k vt cx).lt h;obtain⟨w0,u⟩:∃w0,w.alloc (du c)=w0:=⟨_,rfl⟩
 have b0:Below w.heap.size w w0:=by rw[<-u];exact aw w (du c)
 have b1:w0.heap.size=w.heap.size+1:=by rw[<-u];simp
 have b2:w0.heap[w.heap.size]?=some (du c):=by rw[<-u];exact aP _ _
 obtain⟨w1,W⟩:∃w1,w0.alloc (kB 0)=w1:=⟨_,rfl⟩
 have an:Below w0.heap.size w0 w1:=by rw[<-W];exact aw w0 (kB 0)
 have b3:w1.heap[w0.heap.size]?=some (kB 0):=by rw[<-W];exact aP _ _
 have ao:=b0.trans (an.mono aa)
 have ap:(dp c k s vt cx).J F k w1:=⟨(cZ c k vt cx).below h ao,rfl,rfl,rfl⟩
 have b4:(dl (dp c k s vt cx) w.heap.size (du c)).J (fun b=>F b\/b=w.heap.size) k w1:=⟨F,ap,(an.block _ aa).trans b2,fun f=>by have:=am _ f;omega,fun b=>Iff.rfl⟩
 have b5:(h_ (dl (dp c k s vt cx) w.heap.size (du c)) (w.heap.size+1)).J (fun b=>(F b\/b=w.heap.size)\/b=w.heap.size+1) (k,0) w1:=⟨_,b4,by rw[<-b1];exact b3,fun f=>f.elim (fun f=>by have:=am _ f;omega) (fun f=>by omega),fun b=>Iff.rfl⟩
 have b6:=(eI h).2.2.1;obtain⟨_,b9,yr,gr⟩:=ot ap;obtain⟨ar,aB,ca⟩:=eN yr;obtain⟨ab,gc,v⟩:=eN gr;have cG:w1.cell? (av c.pk 2)=some (.slice ab k.G.length gc):=by rw[b9,v]
 rw[v] at b6;have ad:=hide ca;have cb:=hide v;have hd:=(ax w1).drew;have cc:aA (cg F w (fun b=>(F b\/b=w.heap.size)\/b=w.heap.size+1) w1.drew):=⟨(Fr.of (X:=F) ao).trans (Fr.of (X:=F) hd) (fun b f=>aM f),fun b f=>f.elim (fun f=>f.imp id (fun e=>by omega)) (fun e=>aL aa)⟩
 have aF:=Gh m.o.1 m.o.2.1 ((h_ (dl (dp c k s vt cx) w.heap.size (du c)) (w.heap.size+1)).below b5 hd) m.o.2.2.2.2.1 m.o.2.2.1 v;obtain⟨d,aR⟩:∃d,hJ (fun _ a=>s.f a) (cf.jd s) (k,0) k.G=d:=⟨_,rfl⟩
 rw[aR] at aF;have aV:aA (k.sl1 s=d.1.ar d.1.s.y d.2.toNat d.1.s.ws):=by show k.sl1 s=_;unfold cf.sl1 cf.lM;rw[aR]
 have o:aA (k.sl s=((k.sl2 s).ar 0 (k.sl2 s).s.g (k.sl2 s).s.ws).t1/\k.sl2 s=(k.sl1 s).pt s k.Y):=⟨rfl,rfl⟩
 generalize k.sl s=cI at o⊢;generalize k.sl2 s=cK at o;generalize k.sl1 s=cL at o aV;subst W;subst u;go_enter func84,ntmps84;go_wp2_with fail
 go_region_held3 (fun w'=>w'.cell? (av w.heap.size 0)=some (aq c.pk)/\w'.cell? (av c.pk 2)=some (.slice ab k.G.length gc)) (go_keep)
  (first
    |(go_at_call 157;refine aF.mono ?_;rintro e i ⟨cM,rfl,cH,t3,g3⟩;have p:=gM cH (cc.o.trans t3) (m.o.1.2.2 _ g3);obtain⟨_,q1,_⟩:=lK cH;obtain⟨_,q,q3,_⟩:=gR q1;obtain⟨_,cd,_⟩:=ot q;have cN:i.cell? (av w.heap.size 0)=some (aq c.pk):=aD q3;have cO:i.cell? (av c.pk 2)=some (.slice ab k.G.length gc):=(by rw[cd,cb.o])))
 all_goals
  have x:aA (∃n,(dl (dp c k s vt cx) w.heap.size (du c)).J n d.1 i.drew/\cg F w n i.drew/\¬n (w.heap.size+1)/\w.heap.size+1<i.heap.size):=by obtain⟨n,cJ,dI,B,N⟩:=p.o.1;exact⟨n,(dl (dp c k s vt cx) w.heap.size (du c)).below cJ (aH _ i).drew,(p.o.2.1.less (fun b f=>(N b).2 (aM f))).below (aH _ i).drew,B,lt_of_some dI⟩
  obtain⟨n,cJ,ce,n4,ch⟩:=x.o;obtain⟨a0,dI,cP,cQ,a1,ci⟩:=Gk cJ;obtain⟨cj,_,ck,_,_⟩:=iu dI;have cl:=(om p.o.1).1;have S:=Ge dI d.2 p.o.2.2.1 p.o.2.2.2;rw[<-aV.o] at S;have v0:_=_:=cj;have cm:_=_:=ck;have cn:aA (∀g d w1,(dp c k s vt cx).J g d w1->cg a0 i.drew g w1->_/\_):=fun g d w1 j l=>⟨(a1 g d w1 j l).1,ce.trans (a1 g d w1 j l).2⟩
  have a2:_/\¬a0 (w.heap.size+1):=⟨ch,fun f=>n4 (ci _ f)⟩
  go_wp2_with fail
  go_region_held3 (fun w'=>w'.cell? (av w.heap.size 0)=some (aq c.pk)/\w'.cell? (av c.pk 0)=some (aq k.a.pw)/\w'.cell? (av k.a.pw 0)=some (aq k.a.p)/\w'.cell? (av (w.heap.size+1) 0)=some (ak d.2)) (go_keep)
   (first
     |(go_at_call 163;refine S.mono ?_;rintro e t ⟨co,rfl,B,a3⟩;obtain⟨r0,_,cR,_,_⟩:=iu B;obtain⟨N,cp⟩:=cn.o co _ t B a3;obtain⟨_,_,cq,_⟩:=gR N;have r1:t.cell? (av w.heap.size 0)=some (aq c.pk):=aD cq;have cS:=(aQ (a:=⟨w.heap.size+1,0,none⟩) (a3.fr.block _ (by simpa using a2.1) a2.2)).trans cl;have ag:=c7 N cp))
  all_goals
   have x:=c7 ((dl (dp c k s vt cx) w.heap.size (du c)).below ag.o.1 (aH _ t).drew) (ag.o.2.below (aH _ t).drew)
   have ba:=Gj x.o.1 m.o.2.2.2.2.2 m.o.2.2.2.1 ad.o;rw[<-o.o.2] at ba;have cT:t.cell? (av c.pk 1)=some (.slice ar k.Y.length aB):=by obtain⟨_,q,_⟩:=gR ag.o.1;exact(ot q).1.trans (by rw[ad.o])
   go_wp2_with fail
   go_region_held3 (fun w'=>w'.cell? (av w.heap.size 0)=some (aq c.pk)/\w'.cell? (av c.pk 1)=some (.slice ar k.Y.length aB)) (go_keep)
    (first
      |(go_at_call 157;refine ba.mono ?_;rintro e bb ⟨cU,rfl,bd,cr⟩;obtain⟨_,q,q3,_⟩:=gR bd;have cV:bb.cell? (av w.heap.size 0)=some (aq c.pk):=aD q3;have m1:_=_:=(ot q).1.trans (by rw[ad.o]);have be:=c7 bd (x.o.2.trans cr)))
   all_goals
    obtain⟨cs,bg,cW,cX,bi⟩:=gR be.o.1;obtain⟨v0,_,cm,_,_⟩:=iu bg;have S:=Gf bg;have ct:aA (∀g d w1,(dp c k s vt cx).J g d w1->cg cs bb g w1->_/\_):=fun g d w1 j l=>⟨(bi g d w1 j l).1,be.o.2.trans (bi g d w1 j l).2⟩
    go_wp2_with fail;refine S.mono ?_;rintro e ai ⟨cu,rfl,cv,cw⟩
    obtain⟨cy,cz⟩:=ct.o cu _ ai cv cw;obtain⟨cA,bl,cB,cY,bn⟩:=gR cy;have z0:ai.cell? (av w.heap.size 0)=some (aq c.pk):=aD cB
    obtain⟨c0,_,_,_,_⟩:=iu bl;obtain⟨c1,bo⟩:=Gg bl;rw[<-o.o.1] at bo;have cC:aA (∀g d w1,(dp c k s vt cx).J g d w1->cg cA ai g w1->_/\_):=fun g d w1 j l=>⟨(bn g d w1 j l).1,cz.trans (bn g d w1 j l).2⟩
    go_wp2_with fail;refine bo.mono ?_;rintro e cD ⟨bp,rfl,br,cE⟩
    have bs:=c7 br.1 ((cC.o bp _ cD br cE).2.less (fun b f=>aM f))
    go_wp2_with fail;go_end0;exact⟨bp,rfl,bs.o.1,bs.o.2⟩
end
theorem y3 (f:Nat)(c:Array Value)(p:Int->Bool)(k:dS f)(w:az)(l:List Int)
 (hl:∀(w':az)(x:Int),x∈l->Below w.heap.size w w'->Calls prog f (#[ak x]++c) w' fun r o=>r=.returned (.bool (p x))/\Below w'.heap.size w' o)
 (ad:Option Addr)(cap:Nat)(hm:l.length<=100000)(hp:iU w ad l):
 Calls prog 241 #[.slice ad l.length cap,.func (.func f) #[] c] w fun r w'=>Below w.heap.size w w'/\((r=.returned (ak (-1))/\∀e∈l,p e=false)\/∃i:Nat,r=.returned (ak i)/\i<l.length/\p (l.getD i 0)=true/\∀e∈l.take i,p e=false):=by
 have q:=hide hl;have s:=hide hp;have N:∀(args:Array Value)(w:az),_=_:=k;clear hl hp k;go_enter func241,ntmps241;go_wp2_with fail
 go_loopw [8] (fun iv wr=>∃j:Nat,j<=l.length/\iv=ak j/\aA (∀e∈l.take j,p e=false)/\Below w.heap.size w wr) (fun iv _=>l.length-(intOf iv).toNat)
 case atStart=>exact⟨0,a4 _,rfl,by simp[aA,Hid],aH _ _⟩
 case round=>
  obtain⟨j,S,rfl,d,hb⟩:=hrel;by_cases b:j<l.length
  ·obtain⟨W,ab,t,ag,hc⟩:=s.o.below hb aa;have u:=hc j b;have hd:l.getD j 0∈l:=by rw[aJ,aN b];exact a8 b
   obtain⟨x,g⟩:∃x,l.getD j 0=x:=⟨_,rfl⟩
   have m:aA (_=_):=g;rw[g] at u hd;have P:=q.o wr x hd hb;clear hc g hd;subst t;go_wp2_with fail;refine P.mono ?_;rintro r w1 ⟨rfl,v⟩
   have n:=hb.trans (v.mono hb.size)
   cases hp:p x
   ·have B:aA (∀e∈l.take (j+1),p e=false):=fun e he=>by
     rw[gL l j b 0,List.mem_append,List.mem_singleton] at he;rcases he with he|he
     ·exact d.o e he
     ·rw[he,m.o];exact hp
    go_wp2_with fail;go_roundw
    case rel=>exact⟨j+1,aa,aj,B,n⟩
    case measure=>simp[intOf];omega
   ·have F:aA (p (l.getD j 0)=true):=by show _=_;rw[m.o];exact hp
    go_wp2_with fail;go_ret;exact⟨n,aL ⟨j,rfl,b,F.o,d.o⟩⟩
  ·obtain rfl:j=l.length:=aa;rw[bz] at d;go_wp2_with fail;go_ret;exact⟨hb,aM ⟨rfl,d.o⟩⟩
theorem Gn:dS 214:=gw func214 ah rfl
theorem Gp {pk pw p q N O y g bx be:Nat}{ws:List Int}{e:Int}(w:az)(b:At w p q N O y g ws)(c0:w.cell? (av bx 0)=some (aq pk))(c1:w.cell? (av pk 0)=some (aq pw))(c2:w.cell? (av pw 0)=some (aq p))(c3:w.cell? (av be 0)=some (ak e))(a:Int)(ha:0<=a/\a<=100000):
 Calls prog 214 #[ak a,aq bx,aq be] w fun r w'=>r=.returned (.bool (decide (e<=a+pf (ld N y g ws a))))/\Below w.heap.size w w':=by
 have P:=gy a w b;have d:=dr (ld N y g ws a)
 clear b;go_enter func214,ntmps214;go_wp2_with fail;refine P.mono ?_;clear P;rintro r w1 ⟨rfl,c⟩
 have f:=(c.cell (p:=av be 0) (aT w _ c3)).trans c3;clear c0 c1 c2 c3;go_wp2;go_ret;exact⟨by first|rfl|(done)|(omega),c⟩
def em (p:Int->Bool)(l:List Int):List Int:=l.filter (fun x=>!p x)
theorem t4 (p:Int->Bool)(l:List Int)(x:Int):em p (l++[x])=if p x=true then em p l else em p l++[x]:=by unfold em;cases h:p x<;>simp[h]
theorem qO {p:Int->Bool}{l:List Int}(h:∀e∈l,p e=false):em p l=l:=by unfold em;rw[List.filter_eq_self];intro a ha;rw[h a ha];rfl
theorem y4 {base size n g cap i:Nat}{e:TypeId}:∀(d:List Value)(o:Nat){w:az}{b:List Value},w.ownsRow base e size (.slice (au g) n cap) n b->i<=o->∃c,(w.setCells g o d).ownsRow base e size (.slice (au g) n cap) n c/\c.take i=b.take i
 |[],o,w,b,h,_=>⟨b,h,rfl⟩
 |v::d,o,w,b,h,hi=>by
  obtain⟨c,f,j⟩:=y4 d (o+1) (qx h o v) (by omega:i<=o+1)
  refine⟨c,f,j.trans ?_⟩
  rw[List.take_set_of_le hi]
theorem y5 {g:Nat}:∀(c:List Value)(o:Nat)(w:az),Fr (fun b=>b=g) w (w.setCells g o c)
 |[],_,w=>Fr.refl _ w
 |v::c,o,w=>((Fr.refl (fun b=>b=g) w).set g o v rfl).trans (y5 c (o+1) _) (fun _ e=>aM e)
theorem Gq (f:Nat)(c:Array Value)(p:Int->Bool)(ab:dS f)(w:az)(l:List Int)(g cap B:Nat)
 (hl:∀(w':az)(x:Int),x∈l->Fr (fun b=>b=g) w w'->Calls prog f (#[ak x]++c) w' fun r a2=>r=.returned (.bool (p x))/\Below w'.heap.size w' a2)
 (hm:l.length<=100000)(hr:w.ownsRow B 3 1 (.slice (au g) l.length cap) l.length (l.map (Value.int .i64))):
 Calls prog 213 #[.slice (au g) l.length cap,.func (.func f) #[] c] w fun r w'=>r=.returned (.slice (au g) (em p l).length cap)/\w'.ownsRow B 3 1 (.slice (au g) (em p l).length cap) (em p l).length ((em p l).map (Value.int .i64))/\Fr (fun b=>b=g) w w':=by
 have ao:=hide hl;have P:=y3 f c p ab w l (fun w' x F hb=>ao.o w' x F (Fr.of hb)) (au g) cap hm (gX hr)
 have N:aA (_):=hr;have bd:=sX hr;have be:∀(args:Array Value)(w:az),(callFunc f args).run prog w=.ok (.enter f args) w:=ab;clear hl hr ab;go_enter func213,ntmps213;go_wp2_with fail;refine P.mono ?_;clear P;rintro r w1 ⟨n,⟨rfl,hn⟩|⟨m,rfl,ap,ar,hn⟩⟩
 ·have aB:aA (em p l=l/\w1.ownsRow B 3 1 (.slice (au g) l.length cap) l.length (l.map (Value.int .i64))/\Fr (fun b=>b=g) w w1):=⟨qO hn,cL N.o (fun b e=>n.block b (cu N.o b e).2),Fr.of n⟩
  clear n hn;go_wp2_with fail;go_ret;rw[aB.o.1];exact⟨rfl,aB.o.2⟩
 ·have a3:(m:Int)<l.length:=aa;have aF:aA (em p (l.take (m+1))=l.take m/\w1.ownsRow B 3 1 (.slice (au g) l.length cap) l.length (l.map (Value.int .i64))/\Fr (fun b=>b=g) w w1):=by
   refine⟨?_,cL N.o (fun b e=>n.block b (cu N.o b e).2),Fr.of n⟩
   rw[gL l m ap 0,t4,aK ar,qO hn]
  clear hn ar n;go_wp2_with fail;have aR:((m:Int)==-1)=false:=by rw[beq_eq_false_iff_ne];omega
  rw[aR];clear aR
  go_loopw [5,6] (fun iv ad wr=>∃(i j:Nat),i<j/\j<=l.length/\iv=ak i/\ad=ak j/\aA ((em p (l.take j)).length=i/\wr.ownsRow B 3 1 (.slice (au g) l.length cap) l.length ((em p (l.take j)++l.drop i).map (Value.int .i64))/\Fr (fun b=>b=g) w wr)) (fun _ ad _=>l.length-(intOf ad).toNat)
  ·
    refine⟨m,m+1,aa,aa,rfl,aj,?_⟩
    obtain⟨s,S,ag⟩:=aF.o;refine⟨by rw[s,bq];omega,?_,ag⟩
    rw[s,List.take_append_drop];exact S
  ·
    clear aF ap a3;obtain⟨i,j,bg,bi,rfl,rfl,d⟩:=hrel;by_cases o:j<l.length
    ·have hd:l.getD j 0∈l:=by rw[aJ,aN o];exact a8 o
     have F:((em p (l.take j)++l.drop i).map (Value.int .i64))[j]?=some (ak (l.getD j 0)):=by have e:=d.o.1;rw[List.getElem?_map,List.getElem?_append_right aa,List.getElem?_drop,e,show i+(j-i)=j from by omega,aN o,aJ,aN o];rfl
     have aV:=(jR d.o.2.1 F).1;have P:=ao.o wr (l.getD j 0) hd d.o.2.2;have t:aA (_=_):=gL l j o 0;generalize l.getD j 0=x at aV P t;have j0:(0:Int)<=(j:Int):=aa;have bl:(j:Int)<l.length:=aa;have m:(0:Int)<=(i:Int):=aa;have ba:(i:Int)<l.length:=aa;clear F hd;go_wp2_with fail;refine P.mono ?_;clear P aV;rintro r u ⟨rfl,ai⟩
     have q:=c7 (cL d.o.2.1 (fun b e=>ai.block b (cu d.o.2.1 b e).2)) (d.o.2.2.trans (Fr.of (X:=fun b=>b=g) ai) (fun _ v=>aM v))
     clear ai;cases hp:p x
     ·have hy:∃y,((em p (l.take j)++l.drop i).map (Value.int .i64))[i]?=some (Value.int .i64 y):=by
       have e:=d.o.1;have al:i<l.length:=aa;refine⟨l[i],?_⟩
       rw[List.getElem?_map,List.getElem?_append_right aa,List.getElem?_drop,e,Nat.sub_self,Nat.add_zero,aN al];rfl
      obtain⟨y,hy⟩:=hy;obtain⟨y1,bn⟩:=jR q.o.1 hy;have am:aA ((em p (l.take (j+1))).length=i+1/\(u.setCell ⟨g,i,none⟩ (.int .i64 x)).ownsRow B 3 1 (.slice (au g) l.length cap) l.length ((em p (l.take (j+1))++l.drop (i+1)).map (Value.int .i64))/\Fr (fun b=>b=g) w (u.setCell ⟨g,i,none⟩ (.int .i64 x))):=by
       have e:=d.o.1;have al:i<l.length:=aa;have fU:em p (l.take (j+1))=em p (l.take j)++[x]:=by rw[t.o,t4,hp];rfl
       refine⟨by rw[fU,a7,e];rfl,?_,q.o.2.trans ((Fr.refl (fun b=>b=g) u).set g i _ rfl) (fun _ v=>aM v)⟩
       have W:=qx q.o.1 i (Value.int .i64 x)
       have e6:((em p (l.take j)++l.drop i).map (Value.int .i64)).set i (ak x)=(em p (l.take (j+1))++l.drop (i+1)).map (Value.int .i64):=by rw[fU,<-List.map_set,List.set_append_right _ _ aa,e,Nat.sub_self,List.drop_eq_getElem_cons al,List.set_cons_zero,bw];rfl
       rw[e6] at W;exact W
      clear hp hy d q t;go_wp2_with fail;go_roundw;exact⟨i+1,j+1,aa,aa,aj,aj,am⟩
      simp[intOf];omega
     ·have am:aA ((em p (l.take (j+1))).length=i/\u.ownsRow B 3 1 (.slice (au g) l.length cap) l.length ((em p (l.take (j+1))++l.drop i).map (Value.int .i64))/\Fr (fun b=>b=g) w u):=by
       have fU:em p (l.take (j+1))=em p (l.take j):=by rw[t.o,t4,hp];rfl
       rw[fU];exact⟨d.o.1,q.o⟩
      clear hp d q t;go_wp2_with fail;go_roundw;exact⟨i,j+1,aa,aa,rfl,aj,am⟩
      simp[intOf];omega
    ·obtain rfl:j=l.length:=aa;have an:((em p (l.take l.length)++l.drop i).map (Value.int .i64)).length=l.length:=by have e:=d.o.1;rw[aZ,a7,e,List.length_drop];omega
     have bo:∀ty,(Builtin.clear_ #[74] ty #[.slice (some ⟨g,i,none⟩) (l.length-i) (cap-i)]).run prog wr=.ok (.tuple #[]) (wr.setCells g i (List.replicate (l.length-i) (ak 0))):=fun ty=>
      Lib.run_clear_slice wr _ _ ty _ underlying74 (fun w=>l8 w) rfl rfl g i _ _ aa (fun k hk=>by rw[(jR d.o.2.1 (aN (by rw[an];omega:i+k<_))).1];rfl) (fun k hk=>(jR d.o.2.1 (aN (by rw[an];omega:i+k<_))).2)
     have a0:aA ((em p l).length=i/\(wr.setCells g i (List.replicate (l.length-i) (ak 0))).ownsRow B 3 1 (.slice (au g) i cap) i ((em p l).map (Value.int .i64))/\Fr (fun b=>b=g) w (wr.setCells g i (List.replicate (l.length-i) (ak 0)))):=by
      obtain⟨s,S,ag⟩:=d.o;rw[bz] at s S;refine⟨s,?_,ag.trans (y5 _ _ _) (fun _ v=>aM v)⟩
      obtain⟨bp,bb,W⟩:=y4 (i:=i) (List.replicate (l.length-i) (Value.int .i64 0)) i S b7
      have a1:=sW bb i aa;rw[W,List.map_append,List.take_append_of_le_length (by simp;omega),List.take_of_length_le (by simp;omega)] at a1;exact a1
     have m:(0:Int)<=(i:Int):=aa;have ba:(i:Int)<l.length:=aa;clear o d an;go_wp2_with fail;go_ret;rw[a0.o.1];exact⟨rfl,a0.o.2⟩
def ej.j0 (a:Wc)(s:ej):cf:=⟨a,s,em (fun x=>decide ((s.y:Int)<=x+pf (ld a.N s.y s.g s.ws x))) (eC a.N s.y s.g s.ws),em (fun x=>decide ((a.N:Int)+s.g<=x+pf (ld a.N s.y s.g s.ws x))) (dH a.N s.y s.g s.ws)⟩
def g6:cy:=⟨fun _=>-1,[],[]⟩
def cv.j2 (a:Wc)(S:cv):cy×List ce:=(S.s.j0 a).sp ((S.s.j0 a).cO g6 12,S.q)
def cv.cH (a:Wc)(S:cv):cy:=((S.s.j0 a).e_ (S.j2 a) S.r).1
def cv.r3 (a:Wc)(S:cv):List ce:=(S.s.j0 a).sR (S.j2 a) S.r
def cv.q3 (a:Wc)(S:cv):List ce:=(S.s.j0 a).jq (S.j2 a) S.r
def cv.cJ (a:Wc)(S:cv):cy:=((S.s.j0 a).pl (S.cH a)).1
def cv.n4 (a:Wc)(S:cv):Int:=((S.s.j0 a).pl (S.cH a)).2-a.N
def cv.fX (a:Wc)(S:cv):Bool:=decide ((a.O:Int)<S.n4 a)
def cv.k5 (a:Wc)(S:cv):cf:=(S.s.j0 a).fj (S.cJ a)
def cv.dI (a:Wc)(S:cv):cy:=((S.k5 a).tS (S.cJ a,S.q3 a) (S.r3 a)).1
def cv.k6 (a:Wc)(S:cv):cf:=(S.k5 a).sl (S.dI a)
def cv.dD (a:Wc)(S:cv):cv:=if S.fX a=true then S else⟨(S.k6 a).s,(S.k5 a).tR (S.cJ a,S.q3 a) (S.r3 a),(S.k5 a).iw (S.cJ a,S.q3 a) (S.r3 a)⟩
def cv.iM (a:Wc)(S:cv):Int:=if S.fX a=true then 3 else 0
section
variable {a:Wc}{s:ej}
theorem y6 {p:Int->Bool}{l:List Int}{x:Int}(h:x∈em p l):x∈l:=(List.mem_filter.1 h).1
theorem y7 (p:Int->Bool)(l:List Int):(em p l).length<=l.length:=bA _ _
theorem c8.start (hN:a.N<=256)(hO:a.O<=1024)(hy:s.y<=a.N)(hg:s.g<=a.O):c8 (s.j0 a) g6:=by
 have f:∀x∈(s.j0 a).Y,0<=x/\x<s.y:=fun x b=>by
  have c:=oe x (y6 b)
  omega
 have g:∀x∈(s.j0 a).G,(a.N:Int)<=x/\x<(a.N:Int)+s.g:=fun x b=>by
  have c:=m0 _ _ x (y6 b)
  omega
 have nd:(s.j0 a).T.Nodup:=by
  unfold cf.T;rw[List.nodup_append];refine⟨(qC 2000 _).filter _,(qC 2000 0).filter _,fun x b z hz e=>?_⟩
  have c:=g x b;have i:=f z hz;omega
 have tl:(s.j0 a).T.length<=4000:=by
  unfold cf.T;rw[a7];have c:(s.j0 a).G.length<=2000:=aU (y7 _ _) (iX _ _)
  have i:(s.j0 a).Y.length<=2000:=aU (y7 _ _) (iX _ _)
  omega
 refine⟨nd,fun x b=>?_,fun x b=>by simp[g6] at b,fun x b=>by simp[g6] at b,tl,?_⟩
 ·rcases List.mem_append.1 b with d|d
  ·have:=g x d;omega
  ·have:=f x d;omega
 ·exact bA _ _
end
def cf.ou (k:cf)(s:cy)(a:Int):Prop:=∀i:Nat,(i:Int)<pf (k.ld a)->k.cX s (k.ld (a+1+i))=false
section
variable {k:cf}{s:cy}
theorem cf.pu {x:Int}(h:k.jt x=true):k.cX s x=false↔s.f (cq x)≠-1:=by unfold cf.cX;rw[h,Bool.true_and,beq_eq_false_iff_ne]
theorem bv (a b:Bool):((a && b) = Bool.true) = (a = Bool.true /\ b = Bool.true):=Bool.and_eq_true ..
theorem ow {x:Int}(h:k.jt x=true):cq x∈k.T:=by unfold cf.jt at h;rw[bv] at h;exact List.contains_iff_mem.1 h.2
structure dP (k:cf)(s t:cy):Prop where
 f:∀b,s.f b≠-1->t.f b=s.f b
theorem dP.cX {t:cy}(h:dP k s t){y:Int}(hy:k.cX s y=false):k.cX t y=false:=by
 cases hj:k.jt y
 ·unfold cf.cX;rw[hj];rfl
 ·rw[cf.pu hj] at hy⊢;rw[h.f _ hy];exact hy
theorem dP.refl (s:cy):dP k s s:=⟨fun _ _=>rfl⟩
theorem dP.trans {t u:cy}(h:dP k s t)(j:dP k t u):dP k s u:=⟨fun b hb=>by have e:=h.f b hb;rw[j.f b (by rw[e];exact hb),e]⟩
theorem dP.ou {t:cy}(h:dP k s t){a:Int}(ha:k.ou s a):k.ou t a:=fun i hi=>h.cX (ha i hi)
end
structure nh (k:cf)(s:cy)(a:Int):Prop where
 p:pk (k.ld a)=1\/pk (k.ld a)=2->k.ou s a
 w:pk (k.ld a)=3->k.cX s (k.ld (a+2))=false
 e:pk (k.ld a)=4->a∈s.ep\/k.cX s (k.ld (a+2))=false
structure de (k:cf)(X:Int->Prop)(s:cy):Prop where
 ff:c8 k s
 self:∀a∈k.T,s.f a≠-1->s.f a=a
 td:∀a∈s.td,s.f a≠-1
 cmp:∀a∈k.T,s.f a≠-1->a∈s.td\/X a\/nh k s a
section
variable {k:cf}{X:Int->Prop}{s t:cy}
theorem nh.le {a:Int}(h:nh k s a)(l:dP k s t)(he:∀b∈s.ep,b∈t.ep):nh k t a:=
 ⟨fun q=>l.ou (h.p q),fun q=>l.cX (h.w q),fun q=>(h.e q).imp (he a) l.cX⟩
theorem t5 (k:cf)(s:cy)(x:Int):(k.ma s x).ep=s.ep:=by unfold cf.ma;split<;>rfl
theorem de.ma (h:de k X s)(x:Int):de k X (k.ma s x)/\dP k s (k.ma s x)/\k.cX (k.ma s x) x=false:=by
 by_cases c:k.cX s x=true
 ·obtain⟨o,l,m⟩:=cf.qL c;have hp:=(h.ff.ps _ l).1;have n:k.jt x=true:=by unfold cf.cX at c;rw[bv] at c;exact c.1
  have e:k.ma s x={s with f:=gO s.f (cq x) (cq x),td:=s.td++[cq x]}:=by unfold cf.ma;rw[aK c]
  have i:∀b,(k.ma s x).f b=if b=cq x then cq x else s.f b:=fun b=>by rw[e];rfl
  have j:(k.ma s x).td=s.td++[cq x]:=by rw[e]
  have le:dP k s (k.ma s x):=⟨fun b hb=>by rw[i,aI (fun e=>hb (by rw[e];exact m))]⟩
  refine⟨⟨(h.ff.ma x).1,fun b hb g=>?_,fun b hb=>?_,fun b hb g=>?_⟩,le,?_⟩
  ·rw[i] at g⊢;by_cases d:b=cq x
   ·rw[aK d,d]
   ·rw[aI d] at g⊢;exact h.self b hb g
  ·rw[j] at hb;rw[i];by_cases d:b=cq x
   ·omega
   ·rw[aI d];rcases List.mem_append.1 hb with hb|hb
    ·exact h.td b hb
    ·simp_all
  ·rw[j];by_cases d:b=cq x
   ·simp_all
   ·rw[i,aI d] at g;rcases h.cmp b hb g with q|q|q
    ·simp_all
    ·simp_all
    ·exact aL (aL (q.le le (fun b hb=>by simp_all)))
  ·rw[cf.pu n,i,aK rfl];omega
 ·have e:k.ma s x=s:=by unfold cf.ma;rw[aI c]
  rw[e];exact⟨h,dP.refl _,by simpa using c⟩
theorem Gr (k:cf)(s:cy)(a:Int):∀n,(k.fq s a n).ep=s.ep
 |0=>rfl
 |n+1=>(t5 _ _ _).trans (Gr k s a n)
theorem de.fq (h:de k X s)(a:Int):∀n:Nat,de k X (k.fq s a n)/\dP k s (k.fq s a n)/\∀i:Nat,i<n->k.cX (k.fq s a n) (k.ld (a+1+i))=false
 |0=>⟨h,dP.refl _,fun i hi=>aa⟩
 |n+1=>by obtain⟨h1,h2,h3⟩:=de.fq h a n;exact yZ
theorem bk {α:Type _}{a:α}{«as»:List α}(bs:List α):a ∈ «as» -> a ∈ «as» ++ bs:=by intros;apply List.mem_append_left<;>assumption
theorem de.lk {x:Int}(h:de k (fun b=>b=x) s)(l:x∈k.T)(hr:k.lost s+s.td.length+s.ep.length+1<=k.T.length):de k (fun _=>False) (k.lk s x)/\dP k s (k.lk s x):=by
 have d:∀u:cy,de k (fun b=>b=x) u->nh k u x->de k (fun _=>False) u:=fun u e m=>⟨e.ff,e.self,e.td,fun a ha f=>by
  rcases e.cmp a ha f with q|q|q
  ·exact aM q
  ·simp_all
  ·simp_all⟩
 have c:=(h.ff.lk l hr).1;unfold cf.lk at c⊢;by_cases c1:pk (k.ld x)=1\/pk (k.ld x)=2
 ·rw[aK c1];obtain⟨m1,g,j⟩:=h.fq x _;exact⟨d _ m1 ⟨fun _ i hi=>j i aa,fun q=>aa,fun q=>aa⟩,g⟩
 ·rw[aI c1] at c⊢;by_cases c3:pk (k.ld x)=3
  ·rw[aK c3];obtain⟨m1,g,j⟩:=h.ma _;exact⟨d _ m1 ⟨fun q=>absurd q c1,fun _=>j,fun q=>aa⟩,g⟩
  ·rw[aI c3] at c⊢;by_cases c4:pk (k.ld x)=4
   ·rw[aK c4] at c⊢;have le:dP k s {s with ep:=s.ep++[x]}:=⟨fun _ _=>rfl⟩
    refine⟨d _ ⟨c,h.self,h.td,fun a ha f=>?_⟩ ⟨fun q=>absurd q c1,fun q=>absurd q c3,fun _=>aM ac⟩,le⟩
    exact(h.cmp a ha f).imp id (fun q=>q.imp id (fun q=>q.le le (fun b hb=>bk _ hb)))
   ·rw[aI c4];exact⟨d _ h ⟨fun q=>absurd q c1,fun q=>absurd q c3,fun q=>absurd q c4⟩,dP.refl _⟩
theorem de.l1 (h:de k (fun _=>False) s)(hl:0<s.td.length):de k (fun _=>False) (k.l1 s)/\dP k s (k.l1 s):=by
 obtain⟨x,c⟩:∃x,s.td.getD (s.td.length-1) 0=x:=⟨_,rfl⟩
 have hm:x∈s.td:=by rw[<-c,aJ,aN aa];exact a8 _
 have d:∀b,b∈s.td->b∈s.td.take (s.td.length-1)\/b=x:=fun b hb=>by
  have e:=gL s.td (s.td.length-1) aa 0;rw[show s.td.length-1+1=s.td.length from by omega,bz,c] at e;have f:b∈s.td.take (s.td.length-1)++[x]:=(e▸hb)
  rcases List.mem_append.1 f with hb|hb
  ·exact aM hb
  ·exact aL (List.mem_singleton.1 hb)
 have hs:=h.ff.sum;have l:(s.td.take (s.td.length-1)).length=s.td.length-1:=by simp_all
 have j0:c8 k {s with td:=s.td.take (s.td.length-1)}:=⟨h.ff.nd,h.ff.ps,fun a ha=>h.ff.td a (List.mem_of_mem_take ha),h.ff.ep,h.ff.tl,by show k.lost s+(s.td.take _).length+s.ep.length<=_;omega⟩
 have h0:de k (fun b=>b=x) {s with td:=s.td.take (s.td.length-1)}:=⟨j0,h.self,fun a ha=>h.td a (List.mem_of_mem_take ha),fun a ha g=>by
  rcases h.cmp a ha g with q|q|q
  ·exact(d a q).imp id aM
  ·exact absurd q id
  ·exact aL (aL ⟨q.p,q.w,q.e⟩)⟩
 obtain⟨m1,i⟩:=h0.lk (h.ff.td x hm) (by show k.lost s+(s.td.take _).length+s.ep.length+1<=_;omega)
 have j:k.l1 s=k.lk {s with td:=s.td.take (s.td.length-1)} x:=by unfold cf.l1;rw[c]
 rw[j];exact⟨m1,⟨fun b hb=>i.f b hb⟩⟩
theorem de.lm:∀(n:Nat){s:cy},de k (fun _=>False) s->de k (fun _=>False) (k.lm n s)/\dP k s (k.lm n s)
 |0,s,h=>⟨h,dP.refl _⟩
 |n+1,s,h=>by
  unfold cf.lm;by_cases c:0<s.td.length
  ·rw[aK c];obtain⟨b,d⟩:=h.l1 c;obtain⟨e,j2⟩:=de.lm n b;exact⟨e,d.trans j2⟩
  ·rw[aI c];exact⟨h,dP.refl _⟩
theorem de.eR (h:de k (fun _=>False) s):de k (fun _=>False) (k.eR s)/\dP k s (k.eR s)/\(k.eR s).td=[]:=by obtain⟨b,c⟩:=de.lm _ h;exact⟨b,c,FF h.ff⟩
theorem de.iK:∀(l:List Int){t:List Int×cy},de k X t.2->de k X (l.foldl k.cU t).2/\dP k t.2 (l.foldl k.cU t).2/\(l.foldl k.cU t).2.ep=t.2.ep/\(∀a∈t.1,a∈(l.foldl k.cU t).1)/\∀a∈l,a∈(l.foldl k.cU t).1\/k.cX (l.foldl k.cU t).2 (k.ld (a+2))=false
 |[],t,h=>⟨h,dP.refl _,rfl,fun _ q=>q,fun a ha=>by cases ha⟩
 |a::l,t,h=>by
  have key:de k X (k.cU t a).2/\dP k t.2 (k.cU t a).2/\(k.cU t a).2.ep=t.2.ep/\(∀b∈t.1,b∈(k.cU t a).1)/\(a∈(k.cU t a).1\/k.cX (k.cU t a).2 (k.ld (a+2))=false):=by
   unfold cf.cU;split
   ·exact⟨h,dP.refl _,rfl,fun b hb=>bk _ hb,aM ac⟩
   ·obtain⟨m1,f,g⟩:=h.ma _;exact⟨m1,f,t5 _ _ _,fun _ hb=>hb,aL g⟩
  obtain⟨k1,i,j,m,k5⟩:=key;obtain⟨n,c,o,d,p⟩:=de.iK l k1;refine⟨n,i.trans c,o.trans j,fun b hb=>d b (m b hb),fun b hb=>?_⟩
  rcases List.mem_cons.1 hb with e|hb
  ·rw[e];exact k5.imp (d a) c.cX
  ·exact p b hb
theorem de.kv (h:de k (fun _=>False) s):de k (fun _=>False) (k.kv s).2/\dP k s (k.kv s).2:=by
 obtain⟨b,e,f,_,g⟩:=de.iK s.ep (t:=([],s)) h;have b:=b;have le:dP k (k.dZ s s.ep).2 (k.kv s).2:=⟨fun _ _=>rfl⟩
 refine⟨⟨h.ff.kv.1,b.self,b.td,fun a ha i=>?_⟩,e.trans le⟩
 rcases b.cmp a ha i with q|q|q
 ·exact aM q
 ·exact absurd q id
 ·refine aL (aL ⟨fun c=>le.ou (q.p c),fun c=>le.cX (q.w c),fun c=>?_⟩)
  rcases q.e c with d|d
  ·rw[f] at d;exact(g a d).imp id le.cX
  ·exact aL (le.cX d)
theorem y8:∀(l:List Int)(t:List Int×cy),t.1.length+l.length<=(l.foldl k.cU t).1.length->l.foldl k.cU t=(t.1++l,t.2)/\∀a∈l,k.cX t.2 (k.ld (a+1))=true
 |[],t,_=>⟨ac,fun a ha=>by cases ha⟩
 |a::l,t,h=>by
  have f:∀(l:List Int)(t:List Int×cy),(l.foldl k.cU t).1.length<=t.1.length+l.length:=fun l=>by
   induction l with
   |nil=>intro t;simp
   |cons b l g=>
    intro t;rw[a9];have q:=g (k.cU t b)
    have d:(k.cU t b).1.length<=t.1.length+1:=by
     unfold cf.cU;split
     ·simp
     ·simp
    simp only [List.length_cons];omega
  rw[a9] at h⊢;simp only [List.length_cons] at h;by_cases c:k.cX t.2 (k.ld (a+1))=true
  ·have e:k.cU t a=(t.1++[a],t.2):=by unfold cf.cU;rw[aK c]
   rw[e] at h⊢;obtain⟨q1,d⟩:=y8 l (t.1++[a],t.2) (by simp only [List.length_append,List.length_cons,List.length_nil];omega)
   rw[q1];refine⟨ac,fun b hb=>?_⟩
   rcases List.mem_cons.1 hb with e|hb
   ·rw[e];exact c
   ·exact d b hb
  ·have e:k.cU t a=(t.1,k.ma t.2 (k.ld (a+2))):=by unfold cf.cU;rw[aI c]
   rw[e] at h;have:=f l (t.1,k.ma t.2 (k.ld (a+2)))
   dsimp only at this
   omega
theorem Gs (h:(k.kv s).1=false):(k.kv s).2=s/\∀a∈s.ep,k.cX s (k.ld (a+1))=true:=by
 have c:=of_decide_eq_false h;obtain⟨q1,b⟩:=y8 s.ep ([],s) (by show 0+s.ep.length<=(k.dZ s s.ep).1.length;omega)
 have q1:k.dZ s s.ep=(s.ep,s):=by assumption
 refine⟨?_,b⟩
 unfold cf.kv;rw[q1]
end
structure fN (k:cf)(s:cy)(q:List ce):Prop where
 j9:de k (fun _=>False) s
 td:s.td=[]
 ep:∀a∈s.ep,k.cX s (k.ld (a+1))=true
 wq:∀e∈q,k.al s e.2=true\/k.al s e.1=false
section
variable {k:cf}{s:cy}
theorem y9 {t:cy}(l:dP k s t){x:Int}(h:k.al s x=true):k.al t x=true:=by unfold cf.al at h⊢;rw[l.cX (by simpa using h)];rfl
theorem F_ {b:Type}(l:List b)(i:Nat)(c:b):l.set i (l.getD i c)=l:=by
 by_cases h:i<l.length
 ·simp_all
 ·rw[List.set_eq_of_length_le aa]
theorem de.kD:∀(l:List Nat)(t:(cy×List ce)×Bool),de k (fun _=>False) t.1.1->de k (fun _=>False) (l.foldl (dE k.al k.mp) t).1.1/\dP k t.1.1 (l.foldl (dE k.al k.mp) t).1.1/\(l.foldl (dE k.al k.mp) t).1.2=t.1.2/\
 ((l.foldl (dE k.al k.mp) t).2=false->t.2=false/\l.foldl (dE k.al k.mp) t=t/\∀i∈l,k.al t.1.1 (t.1.2.getD i (0,0)).2=true\/k.al t.1.1 (t.1.2.getD i (0,0)).1=false)
 |[],t,h=>⟨h,dP.refl _,rfl,fun e=>⟨e,rfl,fun i hi=>by cases hi⟩⟩
 |i::l,t,h=>by
  rw[a9];by_cases c:(k.al t.1.1 (t.1.2.getD i (0,0)).2||!k.al t.1.1 (t.1.2.getD i (0,0)).1)=true
  ·have e:dE k.al k.mp t i=t:=by unfold dE;rw[aK c]
   rw[e];obtain⟨b,d,f,g⟩:=de.kD l t h;refine⟨b,d,f,fun q=>?_⟩
   obtain⟨q1,n,q3⟩:=g q;refine⟨q1,n,fun j m=>?_⟩
   rcases List.mem_cons.1 m with e|m
   ·simp_all
   ·exact q3 j m
  ·have e:dE k.al k.mp t i=((k.ma t.1.1 (t.1.2.getD i (0,0)).2,t.1.2),true):=by exact yY
   rw[e];obtain⟨m1,o,_⟩:=h.ma _;obtain⟨b,d,f,g⟩:=de.kD l ((k.ma t.1.1 _,t.1.2),true) m1;refine⟨b,o.trans d,f,fun q=>?_⟩
   have:=(g q).1;cases this
theorem de.wa {t:cy×List ce}(h:de k (fun _=>False) t.1):de k (fun _=>False) (k.wa t).1.1/\dP k t.1 (k.wa t).1.1/\(k.wa t).1.2=t.2/\((k.wa t).2=false->(k.wa t).1=t/\∀e∈t.2,k.al t.1 e.2=true\/k.al t.1 e.1=false):=by
 obtain⟨b,c,d,f⟩:=de.kD _ (t,false) h;refine⟨b,c,d,fun q=>?_⟩
 obtain⟨_,g,q3⟩:=f q;refine⟨?_,fun e he=>?_⟩
 ·show(gY k.al k.mp t _).1=t;unfold gY;rw[g]
 ·obtain⟨i,hi,l⟩:=List.mem_iff_getElem.1 he;have:=q3 i (by simpa using hi)
  have j:t.2.getD i (0,0)=e:=by simp_all
  rw[j] at this
  exact this
theorem de.c9:∀(n:Nat)(t:cy×List ce),de k (fun _=>False) t.1->de k (fun _=>False) (k.c9 n t).1/\dP k t.1 (k.c9 n t).1/\(k.c9 n t).2=t.2/\(k.mu t.1<n->fN k (k.c9 n t).1 (k.c9 n t).2)
 |0,t,h=>⟨h,dP.refl _,rfl,fun e=>aa⟩
 |n+1,t,h=>by
  obtain⟨l1,l2,j⟩:=h.eR;obtain⟨v1,v2⟩:=l1.kv;have m1:=(dy.eR h.ff).mu;obtain⟨u,l⟩:=dy.kv l1.ff;unfold cf.c9;by_cases c:(k.kv (k.eR t.1)).1=true
  ·rw[aK c];obtain⟨d,f,g,i⟩:=de.c9 n ((k.kv _).2,t.2) v1;have:=l c;exact⟨d,(l2.trans v2).trans f,g,fun e=>i (by dsimp only;omega)⟩
  ·rw[aI c];have c2:(k.kv (k.eR t.1)).1=false:=by simpa using c
   obtain⟨s1,s2⟩:=Gs c2;rw[s1];obtain⟨w1,m,o,p⟩:=de.wa (t:=(k.eR t.1,t.2)) l1;by_cases b:(k.wa (k.eR t.1,t.2)).2=true
   ·rw[aK b];obtain⟨d,f,g,i⟩:=de.c9 n _ w1;have:=(dy.wa l1.ff).2.2 b;dsimp only at this
    exact⟨d,(l2.trans m).trans f,g.trans o,fun e=>i aa⟩
   ·rw[aI b];have q:(k.wa (k.eR t.1,t.2)).2=false:=by simpa using b
    obtain⟨q1,s⟩:=p q;rw[q1];exact⟨l1,l2,rfl,fun _=>⟨l1,j,s2,s⟩⟩
theorem de.sp {t:cy×List ce}(h:de k (fun _=>False) t.1):fN k (k.sp t).1 (k.sp t).2/\dP k t.1 (k.sp t).1/\(k.sp t).2=t.2:=by obtain⟨e,b,c,d⟩:=de.c9 _ t h;exact⟨d aa,b,c⟩
theorem de.ke {t:cy×List ce}(h:de k (fun _=>False) t.1)(x:Int):fN k (k.ke t x).2.1 (k.ke t x).2.2/\dP k t.1 (k.ke t x).2.1/\(k.ke t x).2.2=t.2/\k.al (k.ke t x).2.1 x=true:=by
 obtain⟨m1,c,d⟩:=h.ma x;obtain⟨e,b,f⟩:=de.sp (t:=(k.ma t.1 x,t.2)) m1;refine⟨e,c.trans b,f,?_⟩
 show(!k.cX (k.sp (k.ma t.1 x,t.2)).1 x)=true;rw[(b.cX d)];rfl
def cf.fO (k:cf):cy×List ce->ce->Bool×(cy×List ce):=cm (dU cy) (fun s x=>k.al s.1 x) k.ke
theorem fN.cm {t:cy×List ce}(h:fN k t.1 t.2)(e:ce):fN k (k.fO t e).2.1 (k.fO t e).2.2/\dP k t.1 (k.fO t e).2.1:=by
 unfold cf.fO;cases c:k.al t.1 e.1
 ·rw[m4 (o:=dU cy) (is:=fun s x=>k.al s.1 x) (kp:=k.ke) (s:=t) (e:=e) c];exact⟨h,dP.refl _⟩
 ·rw[m5 (o:=dU cy) (is:=fun s x=>k.al s.1 x) (kp:=k.ke) (s:=t) (e:=e) c];obtain⟨b,d,g,i⟩:=h.j9.ke e.2;show fN k (k.ke t e.2).2.1 ((k.ke t e.2).2.2++[(e.1,e.2)])/\dP k t.1 (k.ke t e.2).2.1;refine⟨⟨b.j9,b.td,b.ep,fun f hd=>?_⟩,d⟩
  rcases List.mem_append.1 hd with hd|hd
  ·exact b.wq f hd
  ·simp_all
theorem fN.pl:∀(l:List ce)(u:List ce×List ce×(cy×List ce)),fN k u.2.2.1 u.2.2.2->fN k (l.foldl (eB k.fO) u).2.2.1 (l.foldl (eB k.fO) u).2.2.2/\dP k u.2.2.1 (l.foldl (eB k.fO) u).2.2.1
 |[],u,h=>⟨h,dP.refl _⟩
 |e::l,u,h=>by
  have key:(eB k.fO u e).2.2=(k.fO u.2.2 e).2:=by unfold eB;split<;>rfl
  obtain⟨c1,c2⟩:=h.cm e;rw[<-key] at c1 c2;obtain⟨b,c⟩:=fN.pl l _ c1;exact⟨b,c2.trans c⟩
theorem fN.eK:∀(n:Nat)(t:cy×List ce)(b:List ce),fN k t.1 t.2->fN k (eK k.fO n t b).1.1 (eK k.fO n t b).1.2/\dP k t.1 (eK k.fO n t b).1.1
 |0,t,b,h=>⟨h,dP.refl _⟩
 |n+1,t,b,h=>by
  obtain⟨d,e⟩:=fN.pl b ([],[],t) h;have d:fN k (pts k.fO t b).2.2.1 (pts k.fO t b).2.2.2:=d;have e:dP k t.1 (pts k.fO t b).2.2.1:=e;by_cases c:(pts k.fO t b).1.length=0
  ·rw[l4 _ _ _ _ c];exact⟨d,e⟩
  ·rw[l5 _ _ _ _ c];obtain⟨f,g⟩:=fN.eK n (pts k.fO t b).2.2 (pts k.fO t b).2.1 d;exact⟨f,e.trans g⟩
theorem fN.e_ {t:cy×List ce}(h:fN k t.1 t.2)(r:List ce):fN k (k.e_ t r).1 (k.e_ t r).2/\dP k t.1 (k.e_ t r).1:=fN.eK _ t _ h
theorem de.start (h:c8 k g6){X:Int->Prop}:de k X g6:=⟨h,fun _ _ b=>absurd rfl b,fun _ ha=>by simp[g6] at ha,fun _ _ b=>absurd rfl b⟩
theorem de.cO {X:Int->Prop}(h:de k X s):∀n,de k X (k.cO s n)/\dP k s (k.cO s n)/\∀i,i<n->k.cX (k.cO s n) (k.s.rs.getD i 0)=false
 |0=>⟨h,dP.refl _,fun i hi=>aa⟩
 |n+1=>by obtain⟨h1,h2,h3⟩:=de.cO h n;exact yZ
end
theorem ox {a:Wc}{S:cv}(c:c8 (S.s.j0 a) g6):fN (S.s.j0 a) (S.cH a) ((S.s.j0 a).e_ (S.j2 a) S.r).2/\dP (S.s.j0 a) (S.j2 a).1 (S.cH a)/\∀i,i<12->(S.s.j0 a).cX (S.cH a) (S.s.rs.getD i 0)=false:=by obtain⟨d,_,e⟩:=(de.start c).cO 12;obtain⟨f,g,_⟩:=de.sp (t:=((S.s.j0 a).cO g6 12,S.q)) d;obtain⟨j,b⟩:=fN.e_ f S.r;exact⟨j,b,fun i hi=>b.cX (g.cX (e i hi))⟩
theorem Gt {p q N O y g:Nat}{ws:List Int}(w:az)(h:At w p q N O y g ws):
 Calls prog 129 #[aq p] w fun e w'=>∃v1 v2,e=.returned (.tuple #[v1,v2])/\w'.ownsRow w.heap.size 3 1 v1 (eC N y g ws).length ((eC N y g ws).map (Value.int .i64))/\w'.ownsRow w.heap.size 3 1 v2 (dH N y g ws).length ((dH N y g ws).map (Value.int .i64))/\(∀b,some b=v1.ownBlock->some b≠v2.ownBlock)/\Below w.heap.size w w':=by
 obtain⟨c0,c1,c2,c3,c4,c5,j⟩:=h.cells;have lp:=h.e5;have B:=h.e7;have k1:=h.hN';have F:=h.hy;have S:=h.hO;have W:=h.hg;go_enter func129,ntmps129;go_wp2_with fail;refine(wU 0 N y w.heap.size _ ((h.alloc _).alloc _) ((aS _ _ _ ac).trans (aP _ _)) aa aa aa aa aa aa).mono ?_;rintro e w1 ⟨rfl,v1,k,i,c⟩
 have l:=((h.alloc _).alloc _).same (c.block p (by simp;omega) aa) (c.block q (by simp;omega) aa)
 have d:=(c.block (w.heap.size+1) ac aa).trans (sA _ ac)
 have o:=hide k;have s:=hide d;have t:=c.size;simp only [World.size_alloc] at t;clear k d c0 c1 c2 c3 c4 c5 j;obtain⟨c0,c1,c2,c3,c4,c5,j⟩:=l.cells;go_wp2_with fail;refine(wV N O g (w.heap.size+1) _ l s.o aa aa aa aa aa aa).mono ?_;rintro e m ⟨rfl,v2,d,n,f⟩
 have ab:m.cell? (av w.heap.size 0)=some v1:=by have:=(f.block w.heap.size aa aa).trans o.o;simp[World.cell?,this]
 have ad:m.cell? (av (w.heap.size+1) 0)=some v2:=aD d
 have ag:=f.size;clear d;go_wp2_with fail
 go_quiet (fail)
 go_wp2_with fail;go_ret2;have u:∀b,some b=v1.ownBlock->some b≠v2.ownBlock:=fun b e v=>by have q1:=(cu i b e).2;have ai:=(cu n b v).1;omega
 simp only [World.size_alloc] at i c;have x:eC N y g ws=eJ N y g ws (0+(y:Int)) 2000 0:=by rw[Int.zero_add];rfl
 refine⟨v1,v2,rfl,?_,?_,u,?_⟩
 ·rw[x];exact lY (n6 (base:=w.heap.size+1+1) (wO i f b7 aa) aa) (below_drewN b8 _)
 ·exact lY (n6 n aa) (below_drewN b8 _)
 ·exact below_drewN (((b8.alloc b7 _).alloc ac _).trans ((c.below aa b7).trans (f.below aa aa))) _
theorem Gu (f:Nat)(c:Array Value)(p:Int->Bool)(b:dS f)(w:az):
 Calls prog 213 #[.slice none 0 0,.func (.func f) #[] c] w fun r w'=>r=.returned (.slice none 0 0)/\Below w.heap.size w w':=by
 go_enter func213,ntmps213;go_wp2_with fail;refine(y3 f c p b w [] (fun w' x d _=>by cases d) none 0 ac (fun h=>by simp at h)).mono ?_;rintro r w1 ⟨e,⟨rfl,_⟩|⟨i,_,g,_⟩⟩
 ·go_wp2;go_ret;exact⟨rfl,e⟩
 ·simp at g
theorem Gv (f:Nat)(c:Array Value)(p:Int->Bool)(d:dS f)(w:az)(l:List Int)(ad:Option Addr)(cap B:Nat)
 (hl:∀(w':az)(x:Int),x∈l->Fr (fun b=>some b=(Value.slice ad l.length cap).ownBlock) w w'->Calls prog f (#[ak x]++c) w' fun r i=>r=.returned (.bool (p x))/\Below w'.heap.size w' i)
 (hm:l.length<=100000)(hr:w.ownsRow B 3 1 (.slice ad l.length cap) l.length (l.map (Value.int .i64))):
 Calls prog 213 #[.slice ad l.length cap,.func (.func f) #[] c] w fun r w'=>r=.returned (.slice ad (em p l).length cap)/\w'.ownsRow B 3 1 (.slice ad (em p l).length cap) (em p l).length ((em p l).map (Value.int .i64))/\Fr (fun b=>some b=(Value.slice ad l.length cap).ownBlock) w w':=by
 rcases hr.2 with⟨hv,hn⟩|⟨g,k,m,hv,_⟩
 ·have j:=List.eq_nil_of_length_eq_zero hn;subst j;simp at hv;obtain⟨rfl,rfl⟩:=hv;refine(Gu f c p d w).mono ?_;rintro r w' ⟨rfl,hb⟩
  exact⟨rfl,bc _ _ _ _,Fr.of hb⟩
 ·obtain⟨rfl,rfl⟩:=hv;have e:∀n cap,(fun b=>some b=(Value.slice (au g) n cap).ownBlock)=(fun b=>b=g):=fun n cap=>by simp[Value.ownBlock]
  rw[e] at hl⊢;exact Gq f c p d w l g cap B hl hm hr
theorem y_ {pk pw p q N O y g:Nat}{ws:List Int}(w:az)(f:At w p q N O y g ws)(c1:w.cell? (av pk 0)=some (aq pw))(c2:w.cell? (av pw 0)=some (aq p))(l:List Int)(ad:Option Addr)(cap B:Nat)(e:Int)(hl:l.length<=100000)(m:∀x∈l,0<=x/\x<=100000)
 (hr:w.ownsRow B 3 1 (.slice ad l.length cap) l.length (l.map (Value.int .i64)))(hB:pk<B/\pw<B/\p<B/\q<B):
 Calls prog 140 #[aq pk,.slice ad l.length cap,ak e] w fun r w'=>r=.returned (.slice ad (em (fun x=>decide (e<=x+pf (ld N y g ws x))) l).length cap)/\w'.ownsRow B 3 1 (.slice ad (em (fun x=>decide (e<=x+pf (ld N y g ws x))) l).length cap) (em (fun x=>decide (e<=x+pf (ld N y g ws x))) l).length ((em (fun x=>decide (e<=x+pf (ld N y g ws x))) l).map (Value.int .i64))/\Fr (fun b=>some b=(Value.slice ad l.length cap).ownBlock) w w':=by
 obtain⟨W,c⟩:∃W,W=(w.alloc (.cells #[.pointer (some ⟨pk,0,none⟩)] 137)).alloc (.cells #[.int .i64 e] 3):=⟨_,rfl⟩
 have i:Below w.heap.size w W:=by rw[c];exact((aH _ w).alloc b7 _).alloc ac _
 have n:W.heap[w.heap.size]?=some (.cells #[aq pk] 137 (0,0)):=by rw[c,aS _ _ _ ac];exact aP _ _
 have o:W.heap[w.heap.size+1]?=some (.cells #[ak e] 3 (0,0)):=by rw[c];simpa using aP (w.alloc (.cells #[.pointer (some ⟨pk,0,none⟩)] 137)) _
 have v:W.heap.size=w.heap.size+2:=by rw[c];simp
 have P:=Gv 214 #[aq w.heap.size,aq (w.heap.size+1)] (fun x=>decide (e<=x+pf (ld N y g ws x))) Gn W l ad cap B (fun w' x s d=>by
  have hn:∀b,some b=(Value.slice ad l.length cap).ownBlock->_:=fun b e=>cu hr b e;have k0:∀b,b<B->b<w.heap.size->_=_:=fun b hb j=>(d.block b aa (fun e=>by have:=(hn b e).1;omega)).trans (i.block b j)
  have k1:∀b,w.heap.size<=b->b<W.heap.size->_=_:=fun b hb j=>d.block b j (fun e=>by have:=(hn b e).2;omega)
  exact Gp w' (f.same (k0 p hB.2.2.1 f.e5) (k0 q hB.2.2.2 f.e7)) (by simp[World.cell?,((k1 w.heap.size _ aa).trans n)]) ((aQ (k0 pk hB.1 (aT w _ c1))).trans c1) ((aQ (k0 pw hB.2.1 (aT w _ c2))).trans c2) (by simp[World.cell?,((k1 _ aa aa).trans o)]) x (m x s)) hl (cL hr (fun b e=>i.block b (cu hr b e).2))
 have t:aA (_/\∀b,some b=(Value.slice ad l.length cap).ownBlock->b<w.heap.size):=⟨i,fun b e=>(cu hr b e).2⟩
 go_enter func140,ntmps140;go_wp2_with fail;rw[<-(hide c).o];refine P.mono ?_;rintro r w1 ⟨rfl,u,d⟩
 have k:=c7 u ((Fr.of t.o.1).trans d (fun b e=>aM e))
 go_wp2_with fail;go_ret;exact⟨rfl,k.o.1,k.o.2⟩
theorem Gw (w:az)(pk:Nat)(G Y:List Int)(c d:Option Addr)(gc f:Nat)(l:w.cell? (av pk 1)=some (.slice d Y.length f))(q:w.cell? (av pk 2)=some (.slice c G.length gc))(yr:w.ownsRow 0 3 1 (.slice d Y.length f) Y.length (Y.map (Value.int .i64)))(gr:w.ownsRow 0 3 1 (.slice c G.length gc) G.length (G.map (Value.int .i64)))(hl:G.length+Y.length<=4000):
 Calls prog 141 #[aq pk] w fun e w'=>∃a g,e=.returned (.slice a (G.length+Y.length) g)/\w'.ownsRow w.heap.size 3 1 (.slice a (G.length+Y.length) g) (G.length+Y.length) ((G++Y).map (Value.int .i64))/\Below w.heap.size w w':=by
 have lk:=aT w _ l;have s:=aw w.drew (.cells #[.slice c G.length gc,.slice d Y.length f] 74)
 have i:=(ax w).drew.trans (s.mono b7)
 have m:=aP w.drew (.cells #[.slice c G.length gc,.slice d Y.length f] 74)
 have P:=yR (w.drew.alloc (.cells #[.slice c G.length gc,.slice d Y.length f] 74)) w.heap.size G Y c d gc f (by simp only [World.cell?];rw[show w.heap.size=w.drew.heap.size from rfl,m];rfl) (by simp only [World.cell?];rw[show w.heap.size=w.drew.heap.size from rfl,m];rfl) (cL gr (fun b e=>i.block b (cu gr b e).2)) (cL yr (fun b e=>i.block b (cu yr b e).2)) aa;have j:=hide i;go_enter func141,ntmps141;go_wp2_with fail
 go_region_held3 (fun w'=>w'.cell? (av pk 1)=some (.slice d Y.length f)/\w'.cell? (av pk 2)=some (.slice c G.length gc)) (go_keep)
  (first
    |(go_at_call 215;refine P.mono ?_;rintro e t ⟨a,g,rfl,n,hb⟩;have k:=j.o.trans (hb.mono j.o.size);have y1:=(k.cell (p:=av pk 1) lk).trans l;have u:=(k.cell (p:=av pk 2) lk).trans q;have o:=c7 (e8 n (fun b e=>aU j.o.size (cu n b e).1)) k))
 go_wp2_with fail;go_ret;exact⟨a,g,rfl,o.o.1,o.o.2⟩
theorem za (w:az)(p:Nat)(a0 a1:Option Addr)(k0 k1:Nat)(r q:List ce)(h:fF w p a0 k0 a1 k1 r q)(h0:r.length<=90000)(W:q.length<=90000):
 Calls prog 139 #[aq p] w fun e w'=>∃g i c0 b1 c1,e=.returned (aq g)/\w.heap.size<=g/\fF w' g i c0 b1 c1 r q/\(∀z,i=some z->w.heap.size<=z.block)/\(∀z,b1=some z->w.heap.size<=z.block)/\(∀k,some k=(Value.slice i r.length c0).ownBlock->some k≠(Value.slice b1 q.length c1).ownBlock)/\Below w.heap.size w w':=by
 obtain⟨c0,c1,n,o,lp⟩:=h.cells;have s:=hide (qD h.r0)
 have t:=hide (qD h.q0)
 clear h n o;go_enter func139,ntmps139;go_wp2_with fail;have hd:=(ax w).drew
 go_region_held3 (fun w'=>w'.cell? (av p 0)=some (.slice a0 r.length k0)/\w'.cell? (av p 1)=some (.slice a1 q.length k1)) (first|exact⟨c0,c1⟩|exact⟨u0,l⟩|exact⟨v0,v1⟩|go_keep)
  (first
    |(have ab:=b;go_at_call 212;refine(sw _ a1 q k1 (t.o.below b) aa).mono ?_;rintro e u ⟨v,x,rfl,j,d⟩;have m:=d.size;have v0:=(d.cell (p:=av p 0) (aO lp c)).trans u0;have v1:=(d.cell (p:=av p 1) (aO lp c)).trans l)
    |(go_at_call 212;refine(sw _ a0 r k0 (s.o.below hd) aa).mono ?_;rintro e ad ⟨B,F,rfl,f,N⟩;have b:=hd.trans N;have c:=b.size;have u0:=(b.cell (p:=av p 0) lp).trans c0;have l:=(b.cell (p:=av p 1) lp).trans c1))
 go_wp2_with fail;go_ret;refine⟨u.heap.size,B,F,v,x,rfl,aU c m,⟨aP _ _,e8 (f9 (cL f (fun k e=>d.block k (cu f k e).2)) _) (fun _ _=>a4 _),e8 (f9 j _) (fun _ _=>a4 _)⟩,fun z e=>(cu f z.block (by rw[e];rfl)).1,fun z e=>aU c (cu j z.block (by rw[e];rfl)).1,fun k e S=>?_,(b.trans (d.mono c)).alloc (aU c m) _⟩
 have q1:=(cu f k e).2;have ag:=(cu j k S).1;omega
abbrev zb (a:Wc)(ct ps:Nat)(yv ov:Value):Obj:=.cells #[aq a.pw,yv,ov,.map (some ct),aq ps,.slice none 0 0,.slice none 0 0] 140 (0,0)
structure fP (a:Wc)(S:cv)(w:az)(pk ct ps:Nat)(b0:Option Addr)(d0:Nat)(b1:Option Addr)(d1:Nat)(yv ov:Value)(T:List Int)(w':az):Prop where
 bl:Below w.heap.size w w'
 cb:w'.heap[pk]?=some (zb a ct ps yv ov)
 sd:fF w' ps b0 d0 b1 d1 S.r S.q
 mp:Mp w' ct T (fun _=>-1)
 kE:w.heap.size=ct
 jH:ct<ps
 pp:ps<pk
 l0:∀k,some k=(Value.slice b0 S.r.length d0).ownBlock->ct<k/\k<pk
 l1:∀k,some k=(Value.slice b1 S.q.length d1).ownBlock->ct<k/\k<pk
 ln:∀k,some k=(Value.slice b0 S.r.length d0).ownBlock->some k≠(Value.slice b1 S.q.length d1).ownBlock
section
variable {a:Wc}{S:cv}{w w' w'':az}{pk ct ps:Nat}{b0 b1:Option Addr}{d0 d1:Nat}{yv ov:Value}{T:List Int}
theorem fP.fr {X:Nat->Prop}(h:fP a S w pk ct ps b0 d0 b1 d1 yv ov T w')(f:Fr X w' w'')(c:∀b,X b->pk<b):fP a S w pk ct ps b0 d0 b1 d1 yv ov T w'':=by
 have g:=h.kE;have i:=h.jH;have j:=h.pp;have k:=lt_of_some h.cb;have hk:∀b,b<=pk->_=_:=fun b hb=>f.block b aa (fun d=>by have:=c b d;omega)
 exact {
  bl:=⟨f.os.trans h.bl.os,f.tape.trans h.bl.tape,f.output.trans h.bl.output,aU h.bl.size f.size,fun b hb=>(hk b aa).trans (h.bl.block b hb)⟩
  cb:=(hk pk b7).trans h.cb
  sd:=⟨(hk ps aa).trans h.sd.blk,cL h.sd.r0 (fun b e=>hk b (by have:=(h.l0 b e).2;omega)),cL h.sd.q0 (fun b e=>hk b (by have:=(h.l1 b e).2;omega))⟩
  mp:=h.mp.same (hk ct aa)
  kE:=h.kE,jH:=h.jH,pp:=h.pp,l0:=h.l0,l1:=h.l1,ln:=h.ln}
theorem fP.below (h:fP a S w pk ct ps b0 d0 b1 d1 yv ov T w')(f:Below w'.heap.size w' w''):fP a S w pk ct ps b0 d0 b1 d1 yv ov T w'':=h.fr (Fr.of (X:=fun _=>False) f) (fun _ b=>b.elim)
theorem fP.set (h:fP a S w pk ct ps b0 d0 b1 d1 yv ov T w')(i:Nat)(v:Value){c d:Value}(e:(w'.setCell ⟨pk,i,none⟩ v).heap[pk]?=some (zb a ct ps c d)):fP a S w pk ct ps b0 d0 b1 d1 c d T (w'.setCell ⟨pk,i,none⟩ v):=by
 have g:=h.kE;have j:=h.jH;have k:=h.pp;have f:=(Fr.refl _ w').set pk i v rfl;have hk:∀b,b<pk->_=_:=fun b hb=>f.block b (by have:=lt_of_some h.cb;omega) (fun l=>by omega)
 exact {
  bl:=⟨f.os.trans h.bl.os,f.tape.trans h.bl.tape,f.output.trans h.bl.output,aU h.bl.size f.size,fun b hb=>(hk b aa).trans (h.bl.block b hb)⟩
  cb:=e
  sd:=⟨(hk ps aa).trans h.sd.blk,cL h.sd.r0 (fun b e=>hk b (h.l0 b e).2),cL h.sd.q0 (fun b e=>hk b (h.l1 b e).2)⟩
  mp:=h.mp.same (hk ct aa)
  kE:=h.kE,jH:=h.jH,pp:=h.pp,l0:=h.l0,l1:=h.l1,ln:=h.ln}
theorem fP.set1 (h:fP a S w pk ct ps b0 d0 b1 d1 yv ov T w')(v:Value):fP a S w pk ct ps b0 d0 b1 d1 v ov T (w'.setCell ⟨pk,1,none⟩ v):=h.set 1 v (by simp only [World.setCell,Array.getElem?_modify,if_true,h.cb,Option.map_some];simp)
theorem fP.set2 (h:fP a S w pk ct ps b0 d0 b1 d1 yv ov T w')(v:Value):fP a S w pk ct ps b0 d0 b1 d1 yv v T (w'.setCell ⟨pk,2,none⟩ v):=h.set 2 v (by simp only [World.setCell,Array.getElem?_modify,if_true,h.cb,Option.map_some];simp)
theorem fP.add {x:Int}(h:fP a S w pk ct ps b0 d0 b1 d1 yv ov T w')(f:Fr (fun b=>b=ct) w' w'')(hm:Mp w'' ct (T++[x]) (fun _=>-1)):fP a S w pk ct ps b0 d0 b1 d1 yv ov (T++[x]) w'':=by
 have d:=h.kE;have g:=h.jH;have i:=h.pp;have j:=lt_of_some h.cb;have hk:∀b,b<=pk->b≠ct->_=_:=fun b hb hn=>f.block b aa (fun c=>hn c)
 exact {
  bl:=⟨f.os.trans h.bl.os,f.tape.trans h.bl.tape,f.output.trans h.bl.output,aU h.bl.size f.size,fun b hb=>(hk b aa aa).trans (h.bl.block b hb)⟩
  cb:=(hk pk b7 aa).trans h.cb
  sd:=⟨(hk ps aa aa).trans h.sd.blk,cL h.sd.r0 (fun b e=>hk b (by have:=(h.l0 b e).2;omega) (by have:=(h.l0 b e).1;omega)),cL h.sd.q0 (fun b e=>hk b (by have:=(h.l1 b e).2;omega) (by have:=(h.l1 b e).1;omega))⟩
  mp:=hm
  kE:=h.kE,jH:=h.jH,pp:=h.pp,l0:=h.l0,l1:=h.l1,ln:=h.ln}
theorem fP.cells (h:fP a S w pk ct ps b0 d0 b1 d1 yv ov T w'):w'.cell? (av pk 0)=some (aq a.pw)/\w'.cell? (av pk 1)=some yv/\w'.cell? (av pk 2)=some ov/\w'.cell? (av pk 3)=some (.map (some ct))/\(∀i,w'.frozen? (av pk i)=false)/\pk<w'.heap.size:=by
 have b:=h.cb;refine⟨?_,?_,?_,?_,fun i=>?_,lt_of_some b⟩
 all_goals first|simp[World.cell?,b]|simp[World.frozen?,b]
theorem fP.done {d:Nat->Prop}{f g:Option Addr}{i gc:Nat}(hw:(ed a).J d S.s w)(t:c8 (S.s.j0 a) g6)(h:fP a S w pk ct ps b0 d0 b1 d1 (.slice f (S.s.j0 a).Y.length i) (.slice g (S.s.j0 a).G.length gc) (S.s.j0 a).T w')
 (yr:w'.ownsRow (pk+1) 3 1 (.slice f (S.s.j0 a).Y.length i) (S.s.j0 a).Y.length ((S.s.j0 a).Y.map (Value.int .i64)))(gr:w'.ownsRow (pk+1) 3 1 (.slice g (S.s.j0 a).G.length gc) (S.s.j0 a).G.length ((S.s.j0 a).G.map (Value.int .i64)))(hn:∀b,some b=(Value.slice f (S.s.j0 a).Y.length i).ownBlock->some b≠(Value.slice g (S.s.j0 a).G.length gc).ownBlock):
 ∃m,(df (dW ⟨pk,ct,ps,.slice f (S.s.j0 a).Y.length i,.slice g (S.s.j0 a).G.length gc⟩ (S.s.j0 a)) ps (.slice b0 S.r.length d0)).J m (g6,S.q) w'/\(∀b,some b=(Value.slice b0 S.r.length d0).ownBlock->¬m b/\w.heap.size<=b)/\(∀b,m b->d b\/w.heap.size<=b):=by
 have ad:=h.kE;have m1:=h.jH;have ag:=h.pp;have lk:=lt_of_some h.cb;have n:=(ed a).lt hw
 classical
 obtain⟨own,j⟩:∃own:Nat->Nat,own=fun b=>if d b then 1 else if b=pk then 5 else if b=ct then 6 else if some b=(Value.slice f (S.s.j0 a).Y.length i).ownBlock then 9 else if some b=(Value.slice g (S.s.j0 a).G.length gc).ownBlock then 10 else 0:=⟨_,rfl⟩
 have l:∀b,w.heap.size<=b->¬d b:=fun b hb c=>by have:=n b c;omega
 have o1:∀b,d b↔own b=1:=fun b=>by
  rw[j];dsimp only;by_cases c:d b
  ·simp[c]
  ·rw[aI c];refine⟨fun e=>absurd e c,fun e=>?_⟩
   split at e
   ·omega
   ·split at e
    ·omega
    ·split at e
     ·omega
     ·split at e<;>omega
 have ok:own pk=5:=by rw[j];dsimp only;rw[aI (l pk aa),aK rfl]
 have u:own ct=6:=by rw[j];dsimp only;rw[aI (l ct aa),aI aa,aK rfl]
 have v:∀b,some b=(Value.slice f (S.s.j0 a).Y.length i).ownBlock->own b=9:=fun b e=>by have q:=(cu yr b e).1;rw[j];dsimp only;rw[aI (l b aa),aI aa,aI aa,aK e]
 have x:∀b,some b=(Value.slice g (S.s.j0 a).G.length gc).ownBlock->own b=10:=fun b e=>by have q:=(cu gr b e).1;rw[j];dsimp only;rw[aI (l b aa),aI aa,aI aa,aI (fun o=>hn b o e),aK e]
 have ol:∀b,own b≠0->b<w'.heap.size/\(d b\/b=pk\/b=ct\/pk<b):=fun b hb=>by
  rw[j] at hb;dsimp only at hb;by_cases c:d b
  ·have:=n b c;have:=h.bl.size;exact⟨aa,aM c⟩
  ·rw[aI c] at hb;by_cases B:b=pk
   ·omega
   ·rw[aI B] at hb;by_cases o:b=ct
    ·omega
    ·rw[aI o] at hb;by_cases p:some b=(Value.slice f (S.s.j0 a).Y.length i).ownBlock
     ·have:=cu yr b p;exact⟨this.2,aL (aL (aL aa))⟩
     ·rw[aI p] at hb;by_cases s:some b=(Value.slice g (S.s.j0 a).G.length gc).ownBlock
      ·have:=cu gr b s;exact⟨this.2,aL (aL (aL aa))⟩
      ·rw[aI s] at hb;exact absurd rfl hb
 have F:(dW ⟨pk,ct,ps,.slice f (S.s.j0 a).Y.length i,.slice g (S.s.j0 a).G.length gc⟩ (S.s.j0 a)).J (fun b=>own b≠0) g6 w':=by
  refine⟨⟨.slice none 0 0,.slice none 0 0,d,own,?_,fun b=>Iff.rfl⟩,t⟩
  exact {
   wd:=(ed a).keep hw h.bl.size (fun b hb=>h.bl.block b (n b hb))
   w1:=o1
   cb:=h.cb
   k1:=ok
   mp:=h.mp
   m1:=u
   tr:=bc _ _ _ _
   hI:=fun b e=>by simp[Value.ownBlock] at e
   er:=bc _ _ _ _
   eo:=fun b e=>by simp[Value.ownBlock] at e
   yr:=e8 yr (fun _ _=>a4 _)
   iq:=v
   gr:=e8 gr (fun _ _=>a4 _)
   go:=x
   lt:=fun b hb=>(ol b hb).1}
 have N:¬own ps≠0:=fun c=>by
  rcases(ol ps c).2 with q|q|q|q
  ·exact l ps aa q
  ·omega
  ·omega
  ·omega
 have n1:∀k,ct<k->k<pk->¬own k≠0:=fun k k1 ai c=>by
  rcases(ol k c).2 with q|q|q|q
  ·exact l k aa q
  ·omega
  ·omega
  ·omega
 have W:∀k,some k=(Value.slice b0 S.r.length d0).ownBlock->k≠ps:=fun k e ab=>by obtain⟨al,hc⟩:=fp h.sd.r0 k e;rw[ab,h.sd.blk] at hc;simp at hc
 refine⟨fun b=>own b≠0\/b=ps\/some b=(Value.slice b1 S.q.length d1).ownBlock,⟨fun b=>own b≠0,b1,d1,F,h.sd.blk,h.sd.q0,fun k hk=>aM hk,aL (aM rfl),N,fun k e=>⟨aL (aL e),n1 k (h.l1 k e).1 (h.l1 k e).2⟩,fun k hk=>?_⟩,fun b e=>⟨fun c=>?_,by have:=(h.l0 b e).1;omega⟩,fun b c=>?_⟩
 ·rcases hk with c|c|c
  ·exact(ol k c).1
  ·omega
  ·have:=(h.l1 k c).2;omega
 ·rcases c with c|c|c
  ·exact n1 b (h.l0 b e).1 (h.l0 b e).2 c
  ·exact W b e c
  ·exact h.ln b e c
 ·rcases c with c|c|c
  ·rcases(ol b c).2 with q|q|q|q
   ·exact aM q
   ·omega
   ·omega
   ·omega
  ·omega
  ·have:=(h.l1 b c).1;exact aL aa
end
end Go.Proofs.YtpkjkjhanlbcoaaGreat
