import Derived.Test.YtpkjkjhanlbcoaaGreatJ17
import Derived.Lib.SliceRun
namespace Go.Proofs.YtpkjkjhanlbcoaaGreat
set_option maxRecDepth 100000
set_option maxHeartbeats 4000000
open Tryz
open Go.RowKit W Kp ch
theorem y6 {P:Prop}(h:P:=by unfold dF;rw[aH c];show((k.ma t.1.1 _,t.1.2.set i ((t.1.2.getD i (0,0)).1,(t.1.2.getD i (0,0)).2)),true)=_;rw[(GD _ _ _)]):P:=h
theorem y7 {P:Prop}(h:P:=by
 obtain⟨j1,j2,cA⟩:=h1.ma _;refine⟨j1,h2.trans j2,fun i hi=>?_⟩
 by_cases e:i=n
 ·rw[e];exact cA
 ·exact j2.cV (h3 i aa)):P:=h
theorem ce.less {X F c:Nat->Prop}{w w':aw}(h:ce X w F w')(hs:∀b,c b->F b):ce X w c w':=⟨h.fr,fun b d=>h.sub b (hs b d)⟩
theorem GE {g:Type}{o:dS g}{bx:Nat}{x:Obj}{F:Nat->Prop}{w:aw}{t:g}(h:(di o bx x).J F t w):∃e,o.J e t w/\w.heap[bx]?=some x/\bx<w.heap.size/\(∀c f w1,o.J c f w1->ce e w c w1->(di o bx x).J (fun b=>c b\/b=bx) f w1/\ce F w (fun b=>c b\/b=bx) w1)/\∀b,e b->F b:=by
 obtain⟨e,h,g2,g3,g4⟩:=h;refine⟨e,h,g2,lt_of_some g2,fun c f w1 i hT=>⟨⟨c,i,(hT.fr.block bx (lt_of_some g2) g3).trans g2,fun d=>(hT.sub bx d).elim g3 (fun d=>by have:=lt_of_some g2;omega),fun b=>Iff.rfl⟩,⟨hT.fr.mono (fun b hb=>(g4 b).2 (aL hb)),fun b hb=>?_⟩⟩,fun b hb=>(g4 b).2 (aL hb)⟩
 exact tA
section
variable {c:e7}{k:b_}{vt ct:Value}{F:Nat->Prop}{s:cu}{w:aw}
theorem GF {G:Nat->b_×Int->Prop}(bx:ir k s G)(b0:G 0 (k,0))(h:(cW c k vt ct).J F s w)(hl:k.T.length<=4000)(hp:∀a∈k.T,0<=a/\a<=2000):
 Calls prog 84 #[am c.pk] w fun e w'=>∃ai,e=.returned (.tuple #[])/\(cW c (k.sl s) vt ct).J ai s w'/\ce F w ai w':=by
 have cF:k.T.length=k.G.length+k.Y.length:=by unfold b_.T;rw[aZ]
 have l:ay (_/\_/\(∀a∈k.G,0<=a/\a<=2000)/\(∀a∈k.Y,0<=a/\a<=2000)/\k.G.length<=4000/\k.Y.length<=4000):=⟨bx,b0,fun a ha=>hp a (List.mem_append.2 (aL ha)),fun a ha=>hp a (List.mem_append.2 (aK ha)),aa,aa⟩
 have al:=(cW c k vt ct).lt h;obtain⟨w0,t⟩:∃w0,w.alloc (dt c)=w0:=⟨_,rfl⟩
 have b1:Below w.heap.size w w0:=by rw[<-t];exact aq w (dt c)
 have b2:w0.heap.size=w.heap.size+1:=by rw[<-t];simp
 have b3:w0.heap[w.heap.size]?=some (dt c):=by rw[<-t];exact aN _ _
 obtain⟨w1,S⟩:∃w1,w0.alloc (jZ 0)=w1:=⟨_,rfl⟩
 have ap:Below w0.heap.size w0 w1:=by rw[<-S];exact aq w0 (jZ 0)
 have b4:w1.heap[w0.heap.size]?=some (jZ 0):=by rw[<-S];exact aN _ _
 have ar:=b1.trans (ap.mono aa)
 have ax:(dj c k s vt ct).J F k w1:=⟨(cW c k vt ct).below h ar,rfl,rfl,rfl⟩
 have b5:(di (dj c k s vt ct) w.heap.size (dt c)).J (fun b=>F b\/b=w.heap.size) k w1:=⟨F,ax,(ap.block _ aa).trans b3,fun f=>by have:=al _ f;omega,fun b=>Iff.rfl⟩
 have b6:(g8 (di (dj c k s vt ct) w.heap.size (dt c)) (w.heap.size+1)).J (fun b=>(F b\/b=w.heap.size)\/b=w.heap.size+1) (k,0) w1:=⟨_,b5,by rw[<-b2];exact b4,fun f=>f.elim (fun f=>by have:=al _ f;omega) (fun f=>by omega),fun b=>Iff.rfl⟩
 have b7:=(eE h).2.2.1;obtain⟨_,b8,yr,gr⟩:=nQ ax;obtain⟨aB,aF,b9⟩:=dU yr;obtain⟨W,gc,u⟩:=dU gr;have cG:w1.cell? (ao c.pk 2)=some (.slice W k.G.length gc):=by rw[b8,u]
 rw[u] at b7;have ab:=hide b9;have ca:=hide u;have hd:=(au w1).drew;have cb:ay (ce F w (fun b=>(F b\/b=w.heap.size)\/b=w.heap.size+1) w1.drew):=⟨(Fr.of (X:=F) ar).trans (Fr.of (X:=F) hd) (fun b f=>aL f),fun b f=>f.elim (fun f=>f.imp id (fun e=>by omega)) (fun e=>aK aa)⟩
 have aR:=GB l.o.1 l.o.2.1 ((g8 (di (dj c k s vt ct) w.heap.size (dt c)) (w.heap.size+1)).below b6 hd) l.o.2.2.2.2.1 l.o.2.2.1 u;obtain⟨d,aT⟩:∃d,gQ (fun _ a=>s.f a) (b_.iW s) (k,0) k.G=d:=⟨_,rfl⟩
 rw[aT] at aR;have aV:ay (k.sl1 s=d.1.ar d.1.s.y d.2.toNat d.1.s.ws):=by show k.sl1 s=_;unfold b_.sl1 b_.k9;rw[aT]
 have n:ay (k.sl s=((k.sl2 s).ar 0 (k.sl2 s).s.g (k.sl2 s).s.ws).tT/\k.sl2 s=(k.sl1 s).pa s k.Y):=⟨rfl,rfl⟩
 generalize k.sl s=cH at n⊢;generalize k.sl2 s=cI at n;generalize k.sl1 s=cJ at n aV;subst S;subst t;go_enter func84,ntmps84;go_wp2_with fail
 go_region_held3 (fun w'=>w'.cell? (ao w.heap.size 0)=some (am c.pk)/\w'.cell? (ao c.pk 2)=some (.slice W k.G.length gc)) (go_keep)
  (first
    |(go_at_call 157;refine aR.mono ?_;rintro e w3 ⟨cK,rfl,cA,t3,g3⟩;have o:=gM cA (cb.o.trans t3) (l.o.1.2.2 _ g3);obtain⟨_,q1,_⟩:=k7 cA;obtain⟨_,p,q3,_⟩:=gA q1;obtain⟨_,cc,_⟩:=nQ p;have cL:w3.cell? (ao w.heap.size 0)=some (am c.pk):=aA q3;have cM:w3.cell? (ao c.pk 2)=some (.slice W k.G.length gc):=(by rw[cc,ca.o])))
 all_goals
  have v:ay (∃m,(di (dj c k s vt ct) w.heap.size (dt c)).J m d.1 w3.drew/\ce F w m w3.drew/\¬m (w.heap.size+1)/\w.heap.size+1<w3.heap.size):=by obtain⟨m,cD,dI,x,B⟩:=o.o.1;exact⟨m,(di (dj c k s vt ct) w.heap.size (dt c)).below cD (aE _ w3).drew,(o.o.2.1.less (fun b f=>(B b).2 (aL f))).below (aE _ w3).drew,x,lt_of_some dI⟩
  obtain⟨m,cD,cd,n4,cf⟩:=v.o;obtain⟨a0,dI,cN,cO,a1,cg⟩:=GE cD;obtain⟨ch,_,ci,_,_⟩:=hY dI;have cj:=(nN o.o.1).1;have N:=Gy dI d.2 o.o.2.2.1 o.o.2.2.2;rw[<-aV.o] at N;have v0:_=_:=ch;have ck:_=_:=ci;have cl:ay (∀g d w1,(dj c k s vt ct).J g d w1->ce a0 w3.drew g w1->_/\_):=fun g d w1 i j=>⟨(a1 g d w1 i j).1,cd.trans (a1 g d w1 i j).2⟩
  have a2:_/\¬a0 (w.heap.size+1):=⟨cf,fun f=>n4 (cg _ f)⟩
  go_wp2_with fail
  go_region_held3 (fun w'=>w'.cell? (ao w.heap.size 0)=some (am c.pk)/\w'.cell? (ao c.pk 0)=some (am k.a.pw)/\w'.cell? (ao k.a.pw 0)=some (am k.a.p)/\w'.cell? (ao (w.heap.size+1) 0)=some (ak d.2)) (go_keep)
   (first
     |(go_at_call 163;refine N.mono ?_;rintro e q ⟨cm,rfl,x,a3⟩;obtain⟨r0,_,cP,_,_⟩:=hY x;obtain⟨B,cn⟩:=cl.o cm _ q x a3;obtain⟨_,_,co,_⟩:=gA B;have r1:q.cell? (ao w.heap.size 0)=some (am c.pk):=aA co;have cQ:=(aW (a:=⟨w.heap.size+1,0,none⟩) (a3.fr.block _ (by simpa using a2.1) a2.2)).trans cj;have ad:=dq B cn))
  all_goals
   have v:=dq ((di (dj c k s vt ct) w.heap.size (dt c)).below ad.o.1 (aE _ q).drew) (ad.o.2.below (aE _ q).drew)
   have bb:=GC v.o.1 l.o.2.2.2.2.2 l.o.2.2.2.1 ab.o;rw[<-n.o.2] at bb;have cR:q.cell? (ao c.pk 1)=some (.slice aB k.Y.length aF):=by obtain⟨_,p,_⟩:=gA ad.o.1;exact(nQ p).1.trans (by rw[ab.o])
   go_wp2_with fail
   go_region_held3 (fun w'=>w'.cell? (ao w.heap.size 0)=some (am c.pk)/\w'.cell? (ao c.pk 1)=some (.slice aB k.Y.length aF)) (go_keep)
    (first
      |(go_at_call 157;refine bb.mono ?_;rintro e bd ⟨cS,rfl,be,cp⟩;obtain⟨_,p,q3,_⟩:=gA be;have cT:bd.cell? (ao w.heap.size 0)=some (am c.pk):=aA q3;have m1:_=_:=(nQ p).1.trans (by rw[ab.o]);have bg:=dq be (v.o.2.trans cp)))
   all_goals
    obtain⟨cq,bi,cU,cV,bl⟩:=gA bg.o.1;obtain⟨v0,_,ck,_,_⟩:=hY bi;have N:=Gz bi;have cr:ay (∀g d w1,(dj c k s vt ct).J g d w1->ce cq bd g w1->_/\_):=fun g d w1 i j=>⟨(bl g d w1 i j).1,bg.o.2.trans (bl g d w1 i j).2⟩
    go_wp2_with fail;refine N.mono ?_;rintro e ag ⟨cs,rfl,cu,cv⟩
    obtain⟨cw,cx⟩:=cr.o cs _ ag cu cv;obtain⟨cy,bn,cz,cX,bo⟩:=gA cw;have z0:ag.cell? (ao w.heap.size 0)=some (am c.pk):=aA cz
    obtain⟨cY,_,_,_,_⟩:=hY bn;obtain⟨cZ,bp⟩:=GA bn;rw[<-n.o.1] at bp;have cB:ay (∀g d w1,(dj c k s vt ct).J g d w1->ce cy ag g w1->_/\_):=fun g d w1 i j=>⟨(bo g d w1 i j).1,cx.trans (bo g d w1 i j).2⟩
    go_wp2_with fail;refine bp.mono ?_;rintro e cC ⟨br,rfl,bs,cE⟩
    have bt:=dq bs.1 ((cB.o br _ cC bs cE).2.less (fun b f=>aL f))
    go_wp2_with fail;go_end0;exact⟨br,rfl,bt.o.1,bt.o.2⟩
end
theorem y8 (f:Nat)(c:Array Value)(p:Int->Bool)(k:d7 f)(w:aw)(l:List Int)
 (hl:∀(w':aw)(x:Int),x∈l->Below w.heap.size w w'->Calls prog f (#[ak x]++c) w' fun r q=>r=.returned (.bool (p x))/\Below w'.heap.size w' q)
 (m:Option Addr)(s:Nat)(hm:l.length<=100000)(hp:iI w m l):
 Calls prog 241 #[.slice m l.length s,.func (.func f) #[] c] w fun r w'=>Below w.heap.size w w'/\((r=.returned (ak (-1))/\∀e∈l,p e=false)\/∃i:Nat,r=.returned (ak i)/\i<l.length/\p (l.getD i 0)=true/\∀e∈l.take i,p e=false):=by
 have t:=hide hl;have u:=hide hp;have W:∀(args:Array Value)(w:aw),_=_:=k;clear hl hp k;go_enter func241,ntmps241;go_wp2_with fail
 go_loopw [8] (fun iv wr=>∃j:Nat,j<=l.length/\iv=ak j/\ay (∀e∈l.take j,p e=false)/\Below w.heap.size w wr) (fun iv _=>l.length-(intOf iv).toNat)
 case atStart=>exact⟨0,aX _,rfl,by simp[ay,Hid],aE _ _⟩
 case round=>
  obtain⟨j,ab,rfl,d,hb⟩:=hrel;by_cases b:j<l.length
  ·obtain⟨ad,ag,v,ai,hc⟩:=u.o.below hb aa;have B:=hc j b;have hd:l.getD j 0∈l:=by rw[aG,aI b];exact a_ b
   obtain⟨x,g⟩:∃x,l.getD j 0=x:=⟨_,rfl⟩
   have n:ay (_=_):=g;rw[g] at B hd;have P:=t.o wr x hd hb;clear hc g hd;subst v;go_wp2_with fail;refine P.mono ?_;rintro r w1 ⟨rfl,F⟩
   have o:=hb.trans (F.mono hb.size)
   cases hp:p x
   ·have N:ay (∀e∈l.take (j+1),p e=false):=fun e he=>by
     rw[fE l j b 0,List.mem_append,List.mem_singleton] at he;rcases he with he|he
     ·exact d.o e he
     ·rw[he,n.o];exact hp
    go_wp2_with fail;go_roundw
    case rel=>exact⟨j+1,aa,aj,N,o⟩
    case measure=>simp[intOf];omega
   ·have S:ay (p (l.getD j 0)=true):=by show _=_;rw[n.o];exact hp
    go_wp2_with fail;go_ret;exact⟨o,aK ⟨j,rfl,b,S.o,d.o⟩⟩
  ·obtain rfl:j=l.length:=aa;rw[ba] at d;go_wp2_with fail;go_ret;exact⟨hb,aL ⟨rfl,d.o⟩⟩
theorem GG:d7 214:=gW func214 ah rfl
theorem GH {pk pw p q N O y g bx be:Nat}{ws:List Int}{e:Int}(w:aw)(b:At w p q N O y g ws)(c0:w.cell? (ao bx 0)=some (am pk))(c1:w.cell? (ao pk 0)=some (am pw))(c2:w.cell? (ao pw 0)=some (am p))(c3:w.cell? (ao be 0)=some (ak e))(a:Int)(ha:0<=a/\a<=100000):
 Calls prog 214 #[ak a,am bx,am be] w fun r w'=>r=.returned (.bool (decide (e<=a+pf (ld N y g ws a))))/\Below w.heap.size w w':=by
 have P:=f6 a w b;have d:=dp (ld N y g ws a)
 clear b;go_enter func214,ntmps214;go_wp2_with fail;refine P.mono ?_;clear P;rintro r w1 ⟨rfl,c⟩
 have f:=(c.cell (p:=ao be 0) (aM w _ c3)).trans c3;clear c0 c1 c2 c3;go_wp2;go_ret;exact⟨by first|rfl|(done)|(omega),c⟩
def ei (p:Int->Bool)(l:List Int):List Int:=l.filter (fun x=>!p x)
theorem tU (p:Int->Bool)(l:List Int)(x:Int):ei p (l++[x])=if p x=true then ei p l else ei p l++[x]:=by unfold ei;cases h:p x<;>simp[h]
theorem qG {p:Int->Bool}{l:List Int}(h:∀e∈l,p e=false):ei p l=l:=by unfold ei;rw[List.filter_eq_self];intro a ha;rw[h a ha];rfl
theorem y9 {base size n g d i:Nat}{e:TypeId}:∀(c:List Value)(o:Nat){w:aw}{xs:List Value},w.ownsRow base e size (.slice (an g) n d) n xs->i<=o->∃b,(w.setCells g o c).ownsRow base e size (.slice (an g) n d) n b/\b.take i=xs.take i
 |[],o,w,xs,h,_=>⟨xs,h,rfl⟩
 |v::c,o,w,xs,h,hi=>by
  obtain⟨b,f,j⟩:=y9 c (o+1) (qx h o v) (by omega:i<=o+1)
  refine⟨b,f,j.trans ?_⟩
  rw[List.take_set_of_le hi]
theorem y_ {g:Nat}:∀(c:List Value)(o:Nat)(w:aw),Fr (fun b=>b=g) w (w.setCells g o c)
 |[],_,w=>Fr.refl _ w
 |v::c,o,w=>((Fr.refl (fun b=>b=g) w).set g o v rfl).trans (y_ c (o+1) _) (fun _ e=>aL e)
theorem GI (f:Nat)(c:Array Value)(p:Int->Bool)(ai:d7 f)(w:aw)(l:List Int)(g m B:Nat)
 (hl:∀(w':aw)(x:Int),x∈l->Fr (fun b=>b=g) w w'->Calls prog f (#[ak x]++c) w' fun r be=>r=.returned (.bool (p x))/\Below w'.heap.size w' be)
 (hm:l.length<=100000)(S:w.ownsRow B 3 1 (.slice (an g) l.length m) l.length (l.map (Value.int .i64))):
 Calls prog 213 #[.slice (an g) l.length m,.func (.func f) #[] c] w fun r w'=>r=.returned (.slice (an g) (ei p l).length m)/\w'.ownsRow B 3 1 (.slice (an g) (ei p l).length m) (ei p l).length ((ei p l).map (Value.int .i64))/\Fr (fun b=>b=g) w w':=by
 have aR:=hide hl;have P:=y8 f c p ai w l (fun w' x W hb=>aR.o w' x W (Fr.of hb)) (an g) m hm (gV S)
 have ab:ay (_):=S;have bo:=vp S;have bp:∀(args:Array Value)(w:aw),(callFunc f args).run prog w=.ok (.enter f args) w:=ai;clear hl S ai;go_enter func213,ntmps213;go_wp2_with fail;refine P.mono ?_;clear P;rintro r w1 ⟨o,⟨rfl,t⟩|⟨n,rfl,aT,aV,t⟩⟩
 ·have a0:ay (ei p l=l/\w1.ownsRow B 3 1 (.slice (an g) l.length m) l.length (l.map (Value.int .i64))/\Fr (fun b=>b=g) w w1):=⟨qG t,cy ab.o (fun b e=>o.block b (cg ab.o b e).2),Fr.of o⟩
  clear o t;go_wp2_with fail;go_ret;rw[a0.o.1];exact⟨rfl,a0.o.2⟩
 ·have bg:(n:Int)<l.length:=aa;have a1:ay (ei p (l.take (n+1))=l.take n/\w1.ownsRow B 3 1 (.slice (an g) l.length m) l.length (l.map (Value.int .i64))/\Fr (fun b=>b=g) w w1):=by
   refine⟨?_,cy ab.o (fun b e=>o.block b (cg ab.o b e).2),Fr.of o⟩
   rw[fE l n aT 0,tU,aJ aV,qG t]
  clear t aV o;go_wp2_with fail;have a2:((n:Int)==-1)=false:=by rw[beq_eq_false_iff_ne];omega
  rw[a2];clear a2
  go_loopw [5,6] (fun iv al wr=>∃(i j:Nat),i<j/\j<=l.length/\iv=ak i/\al=ak j/\ay ((ei p (l.take j)).length=i/\wr.ownsRow B 3 1 (.slice (an g) l.length m) l.length ((ei p (l.take j)++l.drop i).map (Value.int .i64))/\Fr (fun b=>b=g) w wr)) (fun _ al _=>l.length-(intOf al).toNat)
  ·
    refine⟨n,n+1,aa,aa,rfl,aj,?_⟩
    obtain⟨u,ad,ap⟩:=a1.o;refine⟨by rw[u,bu];omega,?_,ap⟩
    rw[u,List.take_append_drop];exact ad
  ·
    clear a1 aT bg;obtain⟨i,j,br,bs,rfl,rfl,d⟩:=hrel;by_cases q:j<l.length
    ·have hd:l.getD j 0∈l:=by rw[aG,aI q];exact a_ q
     have W:((ei p (l.take j)++l.drop i).map (Value.int .i64))[j]?=some (ak (l.getD j 0)):=by have e:=d.o.1;rw[bv,List.getElem?_append_right aa,List.getElem?_drop,e,show i+(j-i)=j from by omega,aI q,aG,aI q];rfl
     have a3:=(fe d.o.2.1 W).1;have P:=aR.o wr (l.getD j 0) hd d.o.2.2;have v:ay (_=_):=fE l j q 0;generalize l.getD j 0=x at a3 P v;have j0:(0:Int)<=(j:Int):=aa;have bt:(j:Int)<l.length:=aa;have n:(0:Int)<=(i:Int):=aa;have bi:(i:Int)<l.length:=aa;clear W hd;go_wp2_with fail;refine P.mono ?_;clear P a3;rintro r F ⟨rfl,ar⟩
     have s:=dq (cy d.o.2.1 (fun b e=>ar.block b (cg d.o.2.1 b e).2)) (d.o.2.2.trans (Fr.of (X:=fun b=>b=g) ar) (fun _ N=>aL N))
     clear ar;cases hp:p x
     ·have hy:∃y,((ei p (l.take j)++l.drop i).map (Value.int .i64))[i]?=some (Value.int .i64 y):=by
       have e:=d.o.1;have ax:i<l.length:=aa;refine⟨l[i],?_⟩
       rw[bv,List.getElem?_append_right aa,List.getElem?_drop,e,Nat.sub_self,Nat.add_zero,aI ax];rfl
      obtain⟨y,hy⟩:=hy;obtain⟨y1,bx⟩:=fe s.o.1 hy;have aB:ay ((ei p (l.take (j+1))).length=i+1/\(F.setCell ⟨g,i,none⟩ (.int .i64 x)).ownsRow B 3 1 (.slice (an g) l.length m) l.length ((ei p (l.take (j+1))++l.drop (i+1)).map (Value.int .i64))/\Fr (fun b=>b=g) w (F.setCell ⟨g,i,none⟩ (.int .i64 x))):=by
       have e:=d.o.1;have ax:i<l.length:=aa;have fg:ei p (l.take (j+1))=ei p (l.take j)++[x]:=by rw[v.o,tU,hp];rfl
       refine⟨by rw[fg,aZ,e];rfl,?_,s.o.2.trans ((Fr.refl (fun b=>b=g) F).set g i _ rfl) (fun _ N=>aL N)⟩
       have ag:=qx s.o.1 i (Value.int .i64 x)
       have bl:((ei p (l.take j)++l.drop i).map (Value.int .i64)).set i (ak x)=(ei p (l.take (j+1))++l.drop (i+1)).map (Value.int .i64):=by rw[fg,<-List.map_set,List.set_append_right _ _ aa,e,Nat.sub_self,List.drop_eq_getElem_cons ax,List.set_cons_zero,bj];rfl
       rw[bl] at ag;exact ag
      clear hp hy d s v;go_wp2_with fail;go_roundw;exact⟨i+1,j+1,aa,aa,aj,aj,aB⟩
      simp[intOf];omega
     ·have aB:ay ((ei p (l.take (j+1))).length=i/\F.ownsRow B 3 1 (.slice (an g) l.length m) l.length ((ei p (l.take (j+1))++l.drop i).map (Value.int .i64))/\Fr (fun b=>b=g) w F):=by
       have fg:ei p (l.take (j+1))=ei p (l.take j):=by rw[v.o,tU,hp];rfl
       rw[fg];exact⟨d.o.1,s.o⟩
      clear hp d s v;go_wp2_with fail;go_roundw;exact⟨i,j+1,aa,aa,rfl,aj,aB⟩
      simp[intOf];omega
    ·obtain rfl:j=l.length:=aa;have aF:((ei p (l.take l.length)++l.drop i).map (Value.int .i64)).length=l.length:=by have e:=d.o.1;rw[aU,aZ,e,List.length_drop];omega
     have b0:∀ty,(Builtin.clear_ #[74] ty #[.slice (some ⟨g,i,none⟩) (l.length-i) (m-i)]).run prog wr=.ok (.tuple #[]) (wr.setCells g i (List.replicate (l.length-i) (ak 0))):=fun ty=>
      Lib.run_clear_slice wr _ _ ty _ underlying74 (fun w=>lC w) rfl rfl g i _ _ aa (fun k hk=>by rw[(fe d.o.2.1 (aI (by rw[aF];omega:i+k<_))).1];rfl) (fun k hk=>(fe d.o.2.1 (aI (by rw[aF];omega:i+k<_))).2)
     have bb:ay ((ei p l).length=i/\(wr.setCells g i (List.replicate (l.length-i) (ak 0))).ownsRow B 3 1 (.slice (an g) i m) i ((ei p l).map (Value.int .i64))/\Fr (fun b=>b=g) w (wr.setCells g i (List.replicate (l.length-i) (ak 0)))):=by
      obtain⟨u,ad,ap⟩:=d.o;rw[ba] at u ad;refine⟨u,?_,ap.trans (y_ _ _ _) (fun _ N=>aL N)⟩
      obtain⟨xs,bn,ag⟩:=y9 (i:=i) (List.replicate (l.length-i) (Value.int .i64 0)) i ad bY
      have bd:=vo bn i aa;rw[ag,bC,List.take_append_of_le_length (by simp;omega),List.take_of_length_le (by simp;omega)] at bd;exact bd
     have n:(0:Int)<=(i:Int):=aa;have bi:(i:Int)<l.length:=aa;clear q d aF;go_wp2_with fail;go_ret;rw[bb.o.1];exact⟨rfl,bb.o.2⟩
def eh.j0 (a:Wc)(s:eh):b_:=⟨a,s,ei (fun x=>decide ((s.y:Int)<=x+pf (ld a.N s.y s.g s.ws x))) (dW a.N s.y s.g s.ws),ei (fun x=>decide ((a.N:Int)+s.g<=x+pf (ld a.N s.y s.g s.ws x))) (dB a.N s.y s.g s.ws)⟩
def gJ:cu:=⟨fun _=>-1,[],[]⟩
def co.j2 (a:Wc)(S:co):cu×List b9:=(S.s.j0 a).sp ((S.s.j0 a).cK gJ 12,S.q)
def co.cA (a:Wc)(S:co):cu:=((S.s.j0 a).eT (S.j2 a) S.r).1
def co.r3 (a:Wc)(S:co):List b9:=(S.s.j0 a).sR (S.j2 a) S.r
def co.q3 (a:Wc)(S:co):List b9:=(S.s.j0 a).i6 (S.j2 a) S.r
def co.cD (a:Wc)(S:co):cu:=((S.s.j0 a).pl (S.cA a)).1
def co.n4 (a:Wc)(S:co):Int:=((S.s.j0 a).pl (S.cA a)).2-a.N
def co.fI (a:Wc)(S:co):Bool:=decide ((a.O:Int)<S.n4 a)
def co.k5 (a:Wc)(S:co):b_:=(S.s.j0 a).e4 (S.cD a)
def co.dI (a:Wc)(S:co):cu:=((S.k5 a).tS (S.cD a,S.q3 a) (S.r3 a)).1
def co.k6 (a:Wc)(S:co):b_:=(S.k5 a).sl (S.dI a)
def co.dE (a:Wc)(S:co):co:=if S.fI a=true then S else⟨(S.k6 a).s,(S.k5 a).tR (S.cD a,S.q3 a) (S.r3 a),(S.k5 a).hZ (S.cD a,S.q3 a) (S.r3 a)⟩
def co.it (a:Wc)(S:co):Int:=if S.fI a=true then 3 else 0
section
variable {a:Wc}{s:eh}
theorem za {p:Int->Bool}{l:List Int}{x:Int}(h:x∈ei p l):x∈l:=(List.mem_filter.1 h).1
theorem zb (p:Int->Bool)(l:List Int):(ei p l).length<=l.length:=bk _ _
theorem cX.start (hN:a.N<=256)(hO:a.O<=1024)(hy:s.y<=a.N)(hg:s.g<=a.O):cX (s.j0 a) gJ:=by
 have f:∀x∈(s.j0 a).Y,0<=x/\x<s.y:=fun x b=>by
  have c:=mx x (za b)
  omega
 have g:∀x∈(s.j0 a).G,(a.N:Int)<=x/\x<(a.N:Int)+s.g:=fun x b=>by
  have c:=mm _ _ x (za b)
  omega
 have nd:(s.j0 a).T.Nodup:=by
  unfold b_.T;rw[List.nodup_append];refine⟨(qF 2000 _).filter _,(qF 2000 0).filter _,fun x b z hz e=>?_⟩
  have c:=g x b;have i:=f z hz;omega
 have tl:(s.j0 a).T.length<=4000:=by
  unfold b_.T;rw[aZ];have c:(s.j0 a).G.length<=2000:=aS (zb _ _) (iD _ _)
  have i:(s.j0 a).Y.length<=2000:=aS (zb _ _) (iD _ _)
  omega
 refine⟨nd,fun x b=>?_,fun x b=>by simp[gJ] at b,fun x b=>by simp[gJ] at b,tl,?_⟩
 ·rcases List.mem_append.1 b with d|d
  ·have:=g x d;omega
  ·have:=f x d;omega
 ·exact bk _ _
end
def b_.nR (k:b_)(s:cu)(a:Int):Prop:=∀i:Nat,(i:Int)<pf (k.ld a)->k.cV s (k.ld (a+1+i))=false
section
variable {k:b_}{C X:Int->Prop}{s:cu}
theorem b_.pd {x:Int}(h:k.jt x=true):k.cV s x=false↔s.f (cj x)≠-1:=by unfold b_.cV;rw[h,Bool.true_and,beq_eq_false_iff_ne]
theorem nT {x:Int}(h:k.jt x=true):cj x∈k.T:=by unfold b_.jt at h;rw[bh] at h;exact List.contains_iff_mem.1 h.2
structure dR (k:b_)(s t:cu):Prop where
 f:∀b,s.f b≠-1->t.f b=s.f b
theorem dR.cV {t:cu}(h:dR k s t){y:Int}(hy:k.cV s y=false):k.cV t y=false:=by
 cases hj:k.jt y
 ·unfold b_.cV;rw[hj];rfl
 ·rw[b_.pd hj] at hy⊢;rw[h.f _ hy];exact hy
theorem dR.refl (s:cu):dR k s s:=⟨fun _ _=>rfl⟩
theorem dR.trans {t u:cu}(h:dR k s t)(j:dR k t u):dR k s u:=⟨fun b hb=>by have e:=h.f b hb;rw[j.f b (by rw[e];exact hb),e]⟩
theorem dR.nR {t:cu}(h:dR k s t){a:Int}(ha:k.nR s a):k.nR t a:=fun i hi=>h.cV (ha i hi)
end
structure mQ (k:b_)(s:cu)(a:Int):Prop where
 p:pk (k.ld a)=1\/pk (k.ld a)=2->k.nR s a
 w:pk (k.ld a)=3->k.cV s (k.ld (a+2))=false
 e:pk (k.ld a)=4->a∈s.ep\/k.cV s (k.ld (a+2))=false
structure c9 (k:b_)(X:Int->Prop)(s:cu):Prop where
 eZ:cX k s
 self:∀a∈k.T,s.f a≠-1->s.f a=a
 td:∀a∈s.td,s.f a≠-1
 cmp:∀a∈k.T,s.f a≠-1->a∈s.td\/X a\/mQ k s a
section
variable {k:b_}{X:Int->Prop}{s t:cu}
theorem mQ.le {a:Int}(h:mQ k s a)(l:dR k s t)(he:∀b∈s.ep,b∈t.ep):mQ k t a:=
 ⟨fun q=>l.nR (h.p q),fun q=>l.cV (h.w q),fun q=>(h.e q).imp (he a) l.cV⟩
theorem tW (k:b_)(s:cu)(x:Int):(k.ma s x).ep=s.ep:=by unfold b_.ma;split<;>rfl
theorem c9.ma (h:c9 k X s)(x:Int):c9 k X (k.ma s x)/\dR k s (k.ma s x)/\k.cV (k.ma s x) x=false:=by
 by_cases c:k.cV s x=true
 ·obtain⟨o,l,m⟩:=b_.qA c;have hp:=(h.eZ.ps _ l).1;have n:k.jt x=true:=by unfold b_.cV at c;rw[bh] at c;exact c.1
  have e:k.ma s x={s with f:=gw s.f (cj x) (cj x),td:=s.td++[cj x]}:=by unfold b_.ma;rw[aJ c]
  have i:∀b,(k.ma s x).f b=if b=cj x then cj x else s.f b:=fun b=>by rw[e];rfl
  have j:(k.ma s x).td=s.td++[cj x]:=by rw[e]
  have le:dR k s (k.ma s x):=⟨fun b hb=>by rw[i,aH (fun e=>hb (by rw[e];exact m))]⟩
  refine⟨⟨(h.eZ.ma x).1,fun b hb g=>?_,fun b hb=>?_,fun b hb g=>?_⟩,le,?_⟩
  ·rw[i] at g⊢;by_cases d:b=cj x
   ·rw[aJ d,d]
   ·rw[aH d] at g⊢;exact h.self b hb g
  ·rw[j] at hb;rw[i];by_cases d:b=cj x
   ·omega
   ·rw[aH d];rcases List.mem_append.1 hb with hb|hb
    ·exact h.td b hb
    ·simp_all
  ·rw[j];by_cases d:b=cj x
   ·simp_all
   ·rw[i,aH d] at g;rcases h.cmp b hb g with q|q|q
    ·simp_all
    ·simp_all
    ·exact aK (aK (q.le le (fun b hb=>by simp_all)))
  ·rw[b_.pd n,i,aJ rfl];omega
 ·have e:k.ma s x=s:=by unfold b_.ma;rw[aH c]
  rw[e];exact⟨h,dR.refl _,by simpa using c⟩
theorem GJ (k:b_)(s:cu)(a:Int):∀n,(k.e6 s a n).ep=s.ep
 |0=>rfl
 |n+1=>(tW _ _ _).trans (GJ k s a n)
theorem c9.e6 (h:c9 k X s)(a:Int):∀n:Nat,c9 k X (k.e6 s a n)/\dR k s (k.e6 s a n)/\∀i:Nat,i<n->k.cV (k.e6 s a n) (k.ld (a+1+i))=false
 |0=>⟨h,dR.refl _,fun i hi=>aa⟩
 |n+1=>by obtain⟨h1,h2,h3⟩:=c9.e6 h a n;exact y7
theorem c9.lk {x:Int}(h:c9 k (fun b=>b=x) s)(l:x∈k.T)(m:k.lost s+s.td.length+s.ep.length+1<=k.T.length):c9 k (fun _=>False) (k.lk s x)/\dR k s (k.lk s x):=by
 have d:∀u:cu,c9 k (fun b=>b=x) u->mQ k u x->c9 k (fun _=>False) u:=fun u e n=>⟨e.eZ,e.self,e.td,fun a ha f=>by
  rcases e.cmp a ha f with q|q|q
  ·exact aL q
  ·simp_all
  ·simp_all⟩
 have c:=(h.eZ.lk l m).1;unfold b_.lk at c⊢;by_cases c1:pk (k.ld x)=1\/pk (k.ld x)=2
 ·rw[aJ c1];obtain⟨m1,g,j⟩:=h.e6 x _;exact⟨d _ m1 ⟨fun _ i hi=>j i aa,fun q=>aa,fun q=>aa⟩,g⟩
 ·rw[aH c1] at c⊢;by_cases c3:pk (k.ld x)=3
  ·rw[aJ c3];obtain⟨m1,g,j⟩:=h.ma _;exact⟨d _ m1 ⟨fun q=>absurd q c1,fun _=>j,fun q=>aa⟩,g⟩
  ·rw[aH c3] at c⊢;by_cases c4:pk (k.ld x)=4
   ·rw[aJ c4] at c⊢;have le:dR k s {s with ep:=s.ep++[x]}:=⟨fun _ _=>rfl⟩
    refine⟨d _ ⟨c,h.self,h.td,fun a ha f=>?_⟩ ⟨fun q=>absurd q c1,fun q=>absurd q c3,fun _=>aL ac⟩,le⟩
    exact(h.cmp a ha f).imp id (fun q=>q.imp id (fun q=>q.le le (fun b hb=>a7 _ hb)))
   ·rw[aH c4];exact⟨d _ h ⟨fun q=>absurd q c1,fun q=>absurd q c3,fun q=>absurd q c4⟩,dR.refl _⟩
theorem c9.l1 (h:c9 k (fun _=>False) s)(hl:0<s.td.length):c9 k (fun _=>False) (k.l1 s)/\dR k s (k.l1 s):=by
 obtain⟨x,c⟩:∃x,s.td.getD (s.td.length-1) 0=x:=⟨_,rfl⟩
 have hm:x∈s.td:=by rw[<-c,aG,aI aa];exact a_ _
 have d:∀b,b∈s.td->b∈s.td.take (s.td.length-1)\/b=x:=fun b hb=>by
  have e:=fE s.td (s.td.length-1) aa 0;rw[show s.td.length-1+1=s.td.length from by omega,ba,c] at e;have f:b∈s.td.take (s.td.length-1)++[x]:=(e▸hb)
  rcases List.mem_append.1 f with hb|hb
  ·exact aL hb
  ·exact aK (List.mem_singleton.1 hb)
 have hs:=h.eZ.sum;have l:(s.td.take (s.td.length-1)).length=s.td.length-1:=by simp_all
 have j0:cX k {s with td:=s.td.take (s.td.length-1)}:=⟨h.eZ.nd,h.eZ.ps,fun a ha=>h.eZ.td a (List.mem_of_mem_take ha),h.eZ.ep,h.eZ.tl,by show k.lost s+(s.td.take _).length+s.ep.length<=_;omega⟩
 have h0:c9 k (fun b=>b=x) {s with td:=s.td.take (s.td.length-1)}:=⟨j0,h.self,fun a ha=>h.td a (List.mem_of_mem_take ha),fun a ha g=>by
  rcases h.cmp a ha g with q|q|q
  ·exact(d a q).imp id aL
  ·exact absurd q id
  ·exact aK (aK ⟨q.p,q.w,q.e⟩)⟩
 obtain⟨m1,i⟩:=h0.lk (h.eZ.td x hm) (by show k.lost s+(s.td.take _).length+s.ep.length+1<=_;omega)
 have j:k.l1 s=k.lk {s with td:=s.td.take (s.td.length-1)} x:=by unfold b_.l1;rw[c]
 rw[j];exact⟨m1,⟨fun b hb=>i.f b hb⟩⟩
theorem c9.lm:∀(n:Nat){s:cu},c9 k (fun _=>False) s->c9 k (fun _=>False) (k.lm n s)/\dR k s (k.lm n s)
 |0,s,h=>⟨h,dR.refl _⟩
 |n+1,s,h=>by
  unfold b_.lm;by_cases c:0<s.td.length
  ·rw[aJ c];obtain⟨b,d⟩:=h.l1 c;obtain⟨e,j2⟩:=c9.lm n b;exact⟨e,d.trans j2⟩
  ·rw[aH c];exact⟨h,dR.refl _⟩
theorem c9.eN (h:c9 k (fun _=>False) s):c9 k (fun _=>False) (k.eN s)/\dR k s (k.eN s)/\(k.eN s).td=[]:=by obtain⟨b,c⟩:=c9.lm _ h;exact⟨b,c,FK h.eZ⟩
theorem c9.iq:∀(l:List Int){t:List Int×cu},c9 k X t.2->c9 k X (l.foldl k.cS t).2/\dR k t.2 (l.foldl k.cS t).2/\(l.foldl k.cS t).2.ep=t.2.ep/\(∀a∈t.1,a∈(l.foldl k.cS t).1)/\∀a∈l,a∈(l.foldl k.cS t).1\/k.cV (l.foldl k.cS t).2 (k.ld (a+2))=false
 |[],t,h=>⟨h,dR.refl _,rfl,fun _ q=>q,fun a ha=>by cases ha⟩
 |a::l,t,h=>by
  have key:c9 k X (k.cS t a).2/\dR k t.2 (k.cS t a).2/\(k.cS t a).2.ep=t.2.ep/\(∀b∈t.1,b∈(k.cS t a).1)/\(a∈(k.cS t a).1\/k.cV (k.cS t a).2 (k.ld (a+2))=false):=by
   unfold b_.cS;split
   ·exact⟨h,dR.refl _,rfl,fun b hb=>a7 _ hb,aL ac⟩
   ·obtain⟨m1,f,g⟩:=h.ma _;exact⟨m1,f,tW _ _ _,fun _ hb=>hb,aK g⟩
  obtain⟨k1,i,j,m,k5⟩:=key;obtain⟨n,c,o,d,p⟩:=c9.iq l k1;refine⟨n,i.trans c,o.trans j,fun b hb=>d b (m b hb),fun b hb=>?_⟩
  rcases List.mem_cons.1 hb with e|hb
  ·rw[e];exact k5.imp (d a) c.cV
  ·exact p b hb
theorem c9.kv (h:c9 k (fun _=>False) s):c9 k (fun _=>False) (k.kv s).2/\dR k s (k.kv s).2:=by
 obtain⟨b,e,f,_,g⟩:=c9.iq s.ep (t:=([],s)) h;have b:=b;have le:dR k (k.dT s s.ep).2 (k.kv s).2:=⟨fun _ _=>rfl⟩
 refine⟨⟨h.eZ.kv.1,b.self,b.td,fun a ha i=>?_⟩,e.trans le⟩
 rcases b.cmp a ha i with q|q|q
 ·exact aL q
 ·exact absurd q id
 ·refine aK (aK ⟨fun c=>le.nR (q.p c),fun c=>le.cV (q.w c),fun c=>?_⟩)
  rcases q.e c with d|d
  ·rw[f] at d;exact(g a d).imp id le.cV
  ·exact aK (le.cV d)
theorem zc:∀(l:List Int)(t:List Int×cu),t.1.length+l.length<=(l.foldl k.cS t).1.length->l.foldl k.cS t=(t.1++l,t.2)/\∀a∈l,k.cV t.2 (k.ld (a+1))=true
 |[],t,_=>⟨ac,fun a ha=>by cases ha⟩
 |a::l,t,h=>by
  have f:∀(l:List Int)(t:List Int×cu),(l.foldl k.cS t).1.length<=t.1.length+l.length:=fun l=>by
   induction l with
   |nil=>intro t;simp
   |cons b l g=>
    intro t;rw[a9];have q:=g (k.cS t b)
    have d:(k.cS t b).1.length<=t.1.length+1:=by
     unfold b_.cS;split
     ·simp
     ·simp
    simp only [List.length_cons];omega
  rw[a9] at h⊢;simp only [List.length_cons] at h;by_cases c:k.cV t.2 (k.ld (a+1))=true
  ·have e:k.cS t a=(t.1++[a],t.2):=by unfold b_.cS;rw[aJ c]
   rw[e] at h⊢;obtain⟨q1,d⟩:=zc l (t.1++[a],t.2) (by simp only [List.length_append,List.length_cons,List.length_nil];omega)
   rw[q1];refine⟨ac,fun b hb=>?_⟩
   rcases List.mem_cons.1 hb with e|hb
   ·rw[e];exact c
   ·exact d b hb
  ·have e:k.cS t a=(t.1,k.ma t.2 (k.ld (a+2))):=by unfold b_.cS;rw[aH c]
   rw[e] at h;have:=f l (t.1,k.ma t.2 (k.ld (a+2)))
   dsimp only at this
   omega
theorem GK (h:(k.kv s).1=false):(k.kv s).2=s/\∀a∈s.ep,k.cV s (k.ld (a+1))=true:=by
 have c:=of_decide_eq_false h;obtain⟨q1,b⟩:=zc s.ep ([],s) (by show 0+s.ep.length<=(k.dT s s.ep).1.length;omega)
 have q1:k.dT s s.ep=(s.ep,s):=by assumption
 refine⟨?_,b⟩
 unfold b_.kv;rw[q1]
end
structure fJ (k:b_)(s:cu)(q:List b9):Prop where
 jD:c9 k (fun _=>False) s
 td:s.td=[]
 ep:∀a∈s.ep,k.cV s (k.ld (a+1))=true
 wq:∀e∈q,k.al s e.2=true\/k.al s e.1=false
section
variable {k:b_}{s:cu}
theorem zd {t:cu}(l:dR k s t){x:Int}(h:k.al s x=true):k.al t x=true:=by unfold b_.al at h⊢;rw[l.cV (by simpa using h)];rfl
theorem GD {b:Type}(l:List b)(i:Nat)(c:b):l.set i (l.getD i c)=l:=by
 by_cases h:i<l.length
 ·simp_all
 ·rw[List.set_eq_of_length_le aa]
theorem c9.j7:∀(l:List Nat)(t:(cu×List b9)×Bool),c9 k (fun _=>False) t.1.1->c9 k (fun _=>False) (l.foldl (dF k.al k.mp) t).1.1/\dR k t.1.1 (l.foldl (dF k.al k.mp) t).1.1/\(l.foldl (dF k.al k.mp) t).1.2=t.1.2/\
 ((l.foldl (dF k.al k.mp) t).2=false->t.2=false/\l.foldl (dF k.al k.mp) t=t/\∀i∈l,k.al t.1.1 (t.1.2.getD i (0,0)).2=true\/k.al t.1.1 (t.1.2.getD i (0,0)).1=false)
 |[],t,h=>⟨h,dR.refl _,rfl,fun e=>⟨e,rfl,fun i hi=>by cases hi⟩⟩
 |i::l,t,h=>by
  rw[a9];by_cases c:(k.al t.1.1 (t.1.2.getD i (0,0)).2||!k.al t.1.1 (t.1.2.getD i (0,0)).1)=true
  ·have e:dF k.al k.mp t i=t:=by unfold dF;rw[aJ c]
   rw[e];obtain⟨b,d,f,g⟩:=c9.j7 l t h;refine⟨b,d,f,fun q=>?_⟩
   obtain⟨q1,n,q3⟩:=g q;refine⟨q1,n,fun j m=>?_⟩
   rcases List.mem_cons.1 m with e|m
   ·simp_all
   ·exact q3 j m
  ·have e:dF k.al k.mp t i=((k.ma t.1.1 (t.1.2.getD i (0,0)).2,t.1.2),true):=by exact y6
   rw[e];obtain⟨m1,o,_⟩:=h.ma _;obtain⟨b,d,f,g⟩:=c9.j7 l ((k.ma t.1.1 _,t.1.2),true) m1;refine⟨b,o.trans d,f,fun q=>?_⟩
   have:=(g q).1;cases this
theorem c9.wa {t:cu×List b9}(h:c9 k (fun _=>False) t.1):c9 k (fun _=>False) (k.wa t).1.1/\dR k t.1 (k.wa t).1.1/\(k.wa t).1.2=t.2/\((k.wa t).2=false->(k.wa t).1=t/\∀e∈t.2,k.al t.1 e.2=true\/k.al t.1 e.1=false):=by
 obtain⟨b,c,d,f⟩:=c9.j7 _ (t,false) h;refine⟨b,c,d,fun q=>?_⟩
 obtain⟨_,g,q3⟩:=f q;refine⟨?_,fun e he=>?_⟩
 ·show(gH k.al k.mp t _).1=t;unfold gH;rw[g]
 ·obtain⟨i,hi,l⟩:=List.mem_iff_getElem.1 he;have:=q3 i (by simpa using hi)
  have j:t.2.getD i (0,0)=e:=by simp_all
  rw[j] at this
  exact this
theorem c9.cY:∀(n:Nat)(t:cu×List b9),c9 k (fun _=>False) t.1->c9 k (fun _=>False) (k.cY n t).1/\dR k t.1 (k.cY n t).1/\(k.cY n t).2=t.2/\(k.mu t.1<n->fJ k (k.cY n t).1 (k.cY n t).2)
 |0,t,h=>⟨h,dR.refl _,rfl,fun e=>aa⟩
 |n+1,t,h=>by
  obtain⟨l1,l2,j⟩:=h.eN;obtain⟨v1,v2⟩:=l1.kv;have m1:=(dz.eN h.eZ).mu;obtain⟨s,l⟩:=dz.kv l1.eZ;unfold b_.cY;by_cases c:(k.kv (k.eN t.1)).1=true
  ·rw[aJ c];obtain⟨d,f,g,i⟩:=c9.cY n ((k.kv _).2,t.2) v1;have:=l c;exact⟨d,(l2.trans v2).trans f,g,fun e=>i (by dsimp only;omega)⟩
  ·rw[aH c];have c2:(k.kv (k.eN t.1)).1=false:=by simpa using c
   obtain⟨s1,s2⟩:=GK c2;rw[s1];obtain⟨w1,m,w3,o⟩:=c9.wa (t:=(k.eN t.1,t.2)) l1;by_cases b:(k.wa (k.eN t.1,t.2)).2=true
   ·rw[aJ b];obtain⟨d,f,g,i⟩:=c9.cY n _ w1;have:=(dz.wa l1.eZ).2.2 b;dsimp only at this
    exact⟨d,(l2.trans m).trans f,g.trans w3,fun e=>i aa⟩
   ·rw[aH b];have p:(k.wa (k.eN t.1,t.2)).2=false:=by simpa using b
    obtain⟨q1,q⟩:=o p;rw[q1];exact⟨l1,l2,rfl,fun _=>⟨l1,j,s2,q⟩⟩
theorem c9.sp {t:cu×List b9}(h:c9 k (fun _=>False) t.1):fJ k (k.sp t).1 (k.sp t).2/\dR k t.1 (k.sp t).1/\(k.sp t).2=t.2:=by obtain⟨e,b,c,d⟩:=c9.cY _ t h;exact⟨d aa,b,c⟩
theorem c9.ke {t:cu×List b9}(h:c9 k (fun _=>False) t.1)(x:Int):fJ k (k.ke t x).2.1 (k.ke t x).2.2/\dR k t.1 (k.ke t x).2.1/\(k.ke t x).2.2=t.2/\k.al (k.ke t x).2.1 x=true:=by
 obtain⟨m1,c,d⟩:=h.ma x;obtain⟨e,b,f⟩:=c9.sp (t:=(k.ma t.1 x,t.2)) m1;refine⟨e,c.trans b,f,?_⟩
 show(!k.cV (k.sp (k.ma t.1 x,t.2)).1 x)=true;rw[(b.cV d)];rfl
def b_.fC (k:b_):cu×List b9->b9->Bool×(cu×List b9):=cm (dM cu) (fun s x=>k.al s.1 x) k.ke
theorem fJ.cm {t:cu×List b9}(h:fJ k t.1 t.2)(e:b9):fJ k (k.fC t e).2.1 (k.fC t e).2.2/\dR k t.1 (k.fC t e).2.1:=by
 unfold b_.fC;cases c:k.al t.1 e.1
 ·rw[nn (o:=dM cu) (is:=fun s x=>k.al s.1 x) (kp:=k.ke) (s:=t) (e:=e) c];exact⟨h,dR.refl _⟩
 ·rw[ns (o:=dM cu) (is:=fun s x=>k.al s.1 x) (kp:=k.ke) (s:=t) (e:=e) c];obtain⟨b,d,g,i⟩:=h.jD.ke e.2;show fJ k (k.ke t e.2).2.1 ((k.ke t e.2).2.2++[(e.1,e.2)])/\dR k t.1 (k.ke t e.2).2.1;refine⟨⟨b.jD,b.td,b.ep,fun f hd=>?_⟩,d⟩
  rcases List.mem_append.1 hd with hd|hd
  ·exact b.wq f hd
  ·simp_all
theorem fJ.pl:∀(l:List b9)(u:List b9×List b9×(cu×List b9)),fJ k u.2.2.1 u.2.2.2->fJ k (l.foldl (eu k.fC) u).2.2.1 (l.foldl (eu k.fC) u).2.2.2/\dR k u.2.2.1 (l.foldl (eu k.fC) u).2.2.1
 |[],u,h=>⟨h,dR.refl _⟩
 |e::l,u,h=>by
  have key:(eu k.fC u e).2.2=(k.fC u.2.2 e).2:=by unfold eu;split<;>rfl
  obtain⟨c1,c2⟩:=h.cm e;rw[<-key] at c1 c2;obtain⟨b,c⟩:=fJ.pl l _ c1;exact⟨b,c2.trans c⟩
theorem fJ.eJ:∀(n:Nat)(t:cu×List b9)(b:List b9),fJ k t.1 t.2->fJ k (eJ k.fC n t b).1.1 (eJ k.fC n t b).1.2/\dR k t.1 (eJ k.fC n t b).1.1
 |0,t,b,h=>⟨h,dR.refl _⟩
 |n+1,t,b,h=>by
  obtain⟨d,e⟩:=fJ.pl b ([],[],t) h;have d:fJ k (pts k.fC t b).2.2.1 (pts k.fC t b).2.2.2:=d;have e:dR k t.1 (pts k.fC t b).2.2.1:=e;by_cases c:(pts k.fC t b).1.length=0
  ·rw[lL _ _ _ _ c];exact⟨d,e⟩
  ·rw[lM _ _ _ _ c];obtain⟨f,g⟩:=fJ.eJ n (pts k.fC t b).2.2 (pts k.fC t b).2.1 d;exact⟨f,e.trans g⟩
theorem fJ.eT {t:cu×List b9}(h:fJ k t.1 t.2)(r:List b9):fJ k (k.eT t r).1 (k.eT t r).2/\dR k t.1 (k.eT t r).1:=fJ.eJ _ t _ h
theorem c9.start (h:cX k gJ){X:Int->Prop}:c9 k X gJ:=⟨h,fun _ _ b=>absurd rfl b,fun _ ha=>by simp[gJ] at ha,fun _ _ b=>absurd rfl b⟩
theorem c9.cK {X:Int->Prop}(h:c9 k X s):∀n,c9 k X (k.cK s n)/\dR k s (k.cK s n)/\∀i,i<n->k.cV (k.cK s n) (k.s.rs.getD i 0)=false
 |0=>⟨h,dR.refl _,fun i hi=>aa⟩
 |n+1=>by obtain⟨h1,h2,h3⟩:=c9.cK h n;exact y7
end
theorem nU {a:Wc}{S:co}(c:cX (S.s.j0 a) gJ):fJ (S.s.j0 a) (S.cA a) ((S.s.j0 a).eT (S.j2 a) S.r).2/\dR (S.s.j0 a) (S.j2 a).1 (S.cA a)/\∀i,i<12->(S.s.j0 a).cV (S.cA a) (S.s.rs.getD i 0)=false:=by obtain⟨d,_,e⟩:=(c9.start c).cK 12;obtain⟨f,g,_⟩:=c9.sp (t:=((S.s.j0 a).cK gJ 12,S.q)) d;obtain⟨j,b⟩:=fJ.eT f S.r;exact⟨j,b,fun i hi=>b.cV (g.cV (e i hi))⟩
theorem GL {p q N O y g:Nat}{ws:List Int}(w:aw)(h:At w p q N O y g ws):
 Calls prog 129 #[am p] w fun e w'=>∃v1 v2,e=.returned (.tuple #[v1,v2])/\w'.ownsRow w.heap.size 3 1 v1 (dW N y g ws).length ((dW N y g ws).map (Value.int .i64))/\w'.ownsRow w.heap.size 3 1 v2 (dB N y g ws).length ((dB N y g ws).map (Value.int .i64))/\(∀b,some b=v1.ownBlock->some b≠v2.ownBlock)/\Below w.heap.size w w':=by
 obtain⟨c0,c1,c2,c3,c4,c5,j⟩:=h.cells;have lp:=h.eO;have B:=h.eP;have k1:=h.hN';have F:=h.hy;have S:=h.hO;have W:=h.hg;go_enter func129,ntmps129;go_wp2_with fail;refine(vX 0 N y w.heap.size _ ((h.alloc _).alloc _) ((a4 _ _ _ ac).trans (aN _ _)) aa aa aa aa aa aa).mono ?_;rintro e w1 ⟨rfl,v1,k,i,c⟩
 have l:=((h.alloc _).alloc _).same (c.block p (by simp;omega) aa) (c.block q (by simp;omega) aa)
 have d:=(c.block (w.heap.size+1) ac aa).trans (rW _ ac)
 have o:=hide k;have s:=hide d;have t:=c.size;simp only [World.size_alloc] at t;clear k d c0 c1 c2 c3 c4 c5 j;obtain⟨c0,c1,c2,c3,c4,c5,j⟩:=l.cells;go_wp2_with fail;refine(vY N O g (w.heap.size+1) _ l s.o aa aa aa aa aa aa).mono ?_;rintro e m ⟨rfl,v2,d,n,f⟩
 have ab:m.cell? (ao w.heap.size 0)=some v1:=by have:=(f.block w.heap.size aa aa).trans o.o;simp[World.cell?,this]
 have ad:m.cell? (ao (w.heap.size+1) 0)=some v2:=aA d
 have ag:=f.size;clear d;go_wp2_with fail
 go_quiet (fail)
 go_wp2_with fail;go_ret2;have u:∀b,some b=v1.ownBlock->some b≠v2.ownBlock:=fun b e v=>by have q1:=(cg i b e).2;have ai:=(cg n b v).1;omega
 simp only [World.size_alloc] at i c;have x:dW N y g ws=eH N y g ws (0+(y:Int)) 2000 0:=by rw[Int.zero_add];rfl
 refine⟨v1,v2,rfl,?_,?_,u,?_⟩
 ·rw[x];exact ly (nh (base:=w.heap.size+1+1) (vQ i f bY aa) aa) (below_drewN bZ _)
 ·exact ly (nh n aa) (below_drewN bZ _)
 ·exact below_drewN (((bZ.alloc bY _).alloc ac _).trans ((c.below aa bY).trans (f.below aa aa))) _
theorem GM (f:Nat)(c:Array Value)(p:Int->Bool)(b:d7 f)(w:aw):
 Calls prog 213 #[.slice none 0 0,.func (.func f) #[] c] w fun r w'=>r=.returned (.slice none 0 0)/\Below w.heap.size w w':=by
 go_enter func213,ntmps213;go_wp2_with fail;refine(y8 f c p b w [] (fun w' x d _=>by cases d) none 0 ac (fun h=>by simp at h)).mono ?_;rintro r w1 ⟨e,⟨rfl,_⟩|⟨i,_,g,_⟩⟩
 ·go_wp2;go_ret;exact⟨rfl,e⟩
 ·simp at g
theorem GN (f:Nat)(c:Array Value)(p:Int->Bool)(k:d7 f)(w:aw)(l:List Int)(i:Option Addr)(d B:Nat)
 (hl:∀(w':aw)(x:Int),x∈l->Fr (fun b=>some b=(Value.slice i l.length d).ownBlock) w w'->Calls prog f (#[ak x]++c) w' fun r o=>r=.returned (.bool (p x))/\Below w'.heap.size w' o)
 (hm:l.length<=100000)(m:w.ownsRow B 3 1 (.slice i l.length d) l.length (l.map (Value.int .i64))):
 Calls prog 213 #[.slice i l.length d,.func (.func f) #[] c] w fun r w'=>r=.returned (.slice i (ei p l).length d)/\w'.ownsRow B 3 1 (.slice i (ei p l).length d) (ei p l).length ((ei p l).map (Value.int .i64))/\Fr (fun b=>some b=(Value.slice i l.length d).ownBlock) w w':=by
 rcases m.2 with⟨j,q⟩|⟨g,t,u,j,_⟩
 ·have s:=List.eq_nil_of_length_eq_zero q;subst s;simp at j;obtain⟨rfl,rfl⟩:=j;refine(GM f c p k w).mono ?_;rintro r w' ⟨rfl,hb⟩
  exact⟨rfl,a6 _ _ _ _,Fr.of hb⟩
 ·obtain⟨rfl,rfl⟩:=j;have e:∀n d,(fun b=>some b=(Value.slice (an g) n d).ownBlock)=(fun b=>b=g):=fun n d=>by simp[Value.ownBlock]
  rw[e] at hl⊢;exact GI f c p k w l g d B hl hm m
theorem ze {pk pw p q N O y g:Nat}{ws:List Int}(w:aw)(k:At w p q N O y g ws)(c1:w.cell? (ao pk 0)=some (am pw))(c2:w.cell? (ao pw 0)=some (am p))(l:List Int)(c:Option Addr)(d B:Nat)(e:Int)(hl:l.length<=100000)(t:∀x∈l,0<=x/\x<=100000)
 (i:w.ownsRow B 3 1 (.slice c l.length d) l.length (l.map (Value.int .i64)))(hB:pk<B/\pw<B/\p<B/\q<B):
 Calls prog 140 #[am pk,.slice c l.length d,ak e] w fun r w'=>r=.returned (.slice c (ei (fun x=>decide (e<=x+pf (ld N y g ws x))) l).length d)/\w'.ownsRow B 3 1 (.slice c (ei (fun x=>decide (e<=x+pf (ld N y g ws x))) l).length d) (ei (fun x=>decide (e<=x+pf (ld N y g ws x))) l).length ((ei (fun x=>decide (e<=x+pf (ld N y g ws x))) l).map (Value.int .i64))/\Fr (fun b=>some b=(Value.slice c l.length d).ownBlock) w w':=by
 obtain⟨W,f⟩:∃W,W=(w.alloc (.cells #[.pointer (some ⟨pk,0,none⟩)] 137)).alloc (.cells #[.int .i64 e] 3):=⟨_,rfl⟩
 have m:Below w.heap.size w W:=by rw[f];exact((aE _ w).alloc bY _).alloc ac _
 have u:W.heap[w.heap.size]?=some (.cells #[am pk] 137 (0,0)):=by rw[f,a4 _ _ _ ac];exact aN _ _
 have v:W.heap[w.heap.size+1]?=some (.cells #[ak e] 3 (0,0)):=by rw[f];simpa using aN (w.alloc (.cells #[.pointer (some ⟨pk,0,none⟩)] 137)) _
 have ad:W.heap.size=w.heap.size+2:=by rw[f];simp
 have P:=GN 214 #[am w.heap.size,am (w.heap.size+1)] (fun x=>decide (e<=x+pf (ld N y g ws x))) GG W l c d B (fun w' x F j=>by
  have o:∀b,some b=(Value.slice c l.length d).ownBlock->_:=fun b e=>cg i b e;have k0:∀b,b<B->b<w.heap.size->_=_:=fun b hb n=>(j.block b aa (fun e=>by have:=(o b e).1;omega)).trans (m.block b n)
  have k1:∀b,w.heap.size<=b->b<W.heap.size->_=_:=fun b hb n=>j.block b n (fun e=>by have:=(o b e).2;omega)
  exact GH w' (k.same (k0 p hB.2.2.1 k.eO) (k0 q hB.2.2.2 k.eP)) (by simp[World.cell?,((k1 w.heap.size _ aa).trans u)]) ((aW (k0 pk hB.1 (aM w _ c1))).trans c1) ((aW (k0 pw hB.2.1 (aM w _ c2))).trans c2) (by simp[World.cell?,((k1 _ aa aa).trans v)]) x (t x F)) hl (cy i (fun b e=>m.block b (cg i b e).2))
 have S:ay (_/\∀b,some b=(Value.slice c l.length d).ownBlock->b<w.heap.size):=⟨m,fun b e=>(cg i b e).2⟩
 go_enter func140,ntmps140;go_wp2_with fail;rw[<-(hide f).o];refine P.mono ?_;rintro r w1 ⟨rfl,ab,j⟩
 have s:=dq ab ((Fr.of S.o.1).trans j (fun b e=>aL e))
 go_wp2_with fail;go_ret;exact⟨rfl,s.o.1,s.o.2⟩
theorem GO (w:aw)(pk:Nat)(G Y:List Int)(c d:Option Addr)(gc f:Nat)(l:w.cell? (ao pk 1)=some (.slice d Y.length f))(q:w.cell? (ao pk 2)=some (.slice c G.length gc))(yr:w.ownsRow 0 3 1 (.slice d Y.length f) Y.length (Y.map (Value.int .i64)))(gr:w.ownsRow 0 3 1 (.slice c G.length gc) G.length (G.map (Value.int .i64)))(hl:G.length+Y.length<=4000):
 Calls prog 141 #[am pk] w fun e w'=>∃a g,e=.returned (.slice a (G.length+Y.length) g)/\w'.ownsRow w.heap.size 3 1 (.slice a (G.length+Y.length) g) (G.length+Y.length) ((G++Y).map (Value.int .i64))/\Below w.heap.size w w':=by
 have lk:=aM w _ l;have s:=aq w.drew (.cells #[.slice c G.length gc,.slice d Y.length f] 74)
 have i:=(au w).drew.trans (s.mono bY)
 have m:=aN w.drew (.cells #[.slice c G.length gc,.slice d Y.length f] 74)
 have P:=yU (w.drew.alloc (.cells #[.slice c G.length gc,.slice d Y.length f] 74)) w.heap.size G Y c d gc f (by simp only [World.cell?];rw[show w.heap.size=w.drew.heap.size from rfl,m];rfl) (by simp only [World.cell?];rw[show w.heap.size=w.drew.heap.size from rfl,m];rfl) (cy gr (fun b e=>i.block b (cg gr b e).2)) (cy yr (fun b e=>i.block b (cg yr b e).2)) aa;have j:=hide i;go_enter func141,ntmps141;go_wp2_with fail
 go_region_held3 (fun w'=>w'.cell? (ao pk 1)=some (.slice d Y.length f)/\w'.cell? (ao pk 2)=some (.slice c G.length gc)) (go_keep)
  (first
    |(go_at_call 215;refine P.mono ?_;rintro e w3 ⟨a,g,rfl,n,hb⟩;have k:=j.o.trans (hb.mono j.o.size);have y1:=(k.cell (p:=ao pk 1) lk).trans l;have t:=(k.cell (p:=ao pk 2) lk).trans q;have o:=dq (ec n (fun b e=>aS j.o.size (cg n b e).1)) k))
 go_wp2_with fail;go_ret;exact⟨a,g,rfl,o.o.1,o.o.2⟩
abbrev zf (a:Wc)(cr ps:Nat)(yv ov:Value):Obj:=.cells #[am a.pw,yv,ov,.map (some cr),am ps,.slice none 0 0,.slice none 0 0] 140 (0,0)
structure fD (a:Wc)(S:co)(w:aw)(pk cr ps:Nat)(b0:Option Addr)(d0:Nat)(b1:Option Addr)(d1:Nat)(yv ov:Value)(T:List Int)(w':aw):Prop where
 bl:Below w.heap.size w w'
 cb:w'.heap[pk]?=some (zf a cr ps yv ov)
 sd:gu w' ps b0 d0 b1 d1 S.r S.q
 mp:Mp w' cr T (fun _=>-1)
 j8:w.heap.size=cr
 jk:cr<ps
 pp:ps<pk
 l0:∀k,some k=(Value.slice b0 S.r.length d0).ownBlock->cr<k/\k<pk
 l1:∀k,some k=(Value.slice b1 S.q.length d1).ownBlock->cr<k/\k<pk
 ln:∀k,some k=(Value.slice b0 S.r.length d0).ownBlock->some k≠(Value.slice b1 S.q.length d1).ownBlock
section
variable {a:Wc}{S:co}{w w' w'':aw}{pk cr ps:Nat}{b0 b1:Option Addr}{d0 d1:Nat}{yv ov:Value}{T:List Int}
theorem fD.fr {X:Nat->Prop}(h:fD a S w pk cr ps b0 d0 b1 d1 yv ov T w')(f:Fr X w' w'')(c:∀b,X b->pk<b):fD a S w pk cr ps b0 d0 b1 d1 yv ov T w'':=by
 have g:=h.j8;have i:=h.jk;have j:=h.pp;have k:=lt_of_some h.cb;have hk:∀b,b<=pk->_=_:=fun b hb=>f.block b aa (fun d=>by have:=c b d;omega)
 exact {
  bl:=⟨f.os.trans h.bl.os,f.tape.trans h.bl.tape,f.output.trans h.bl.output,aS h.bl.size f.size,fun b hb=>(hk b aa).trans (h.bl.block b hb)⟩
  cb:=(hk pk bY).trans h.cb
  sd:=⟨(hk ps aa).trans h.sd.blk,cy h.sd.r0 (fun b e=>hk b (by have:=(h.l0 b e).2;omega)),cy h.sd.q0 (fun b e=>hk b (by have:=(h.l1 b e).2;omega))⟩
  mp:=h.mp.same (hk cr aa)
  j8:=h.j8,jk:=h.jk,pp:=h.pp,l0:=h.l0,l1:=h.l1,ln:=h.ln}
theorem fD.below (h:fD a S w pk cr ps b0 d0 b1 d1 yv ov T w')(f:Below w'.heap.size w' w''):fD a S w pk cr ps b0 d0 b1 d1 yv ov T w'':=h.fr (Fr.of (X:=fun _=>False) f) (fun _ b=>b.elim)
theorem fD.set (h:fD a S w pk cr ps b0 d0 b1 d1 yv ov T w')(i:Nat)(v:Value){c d:Value}(e:(w'.setCell ⟨pk,i,none⟩ v).heap[pk]?=some (zf a cr ps c d)):fD a S w pk cr ps b0 d0 b1 d1 c d T (w'.setCell ⟨pk,i,none⟩ v):=by
 have g:=h.j8;have j:=h.jk;have k:=h.pp;have f:=(Fr.refl _ w').set pk i v rfl;have hk:∀b,b<pk->_=_:=fun b hb=>f.block b (by have:=lt_of_some h.cb;omega) (fun l=>by omega)
 exact {
  bl:=⟨f.os.trans h.bl.os,f.tape.trans h.bl.tape,f.output.trans h.bl.output,aS h.bl.size f.size,fun b hb=>(hk b aa).trans (h.bl.block b hb)⟩
  cb:=e
  sd:=⟨(hk ps aa).trans h.sd.blk,cy h.sd.r0 (fun b e=>hk b (h.l0 b e).2),cy h.sd.q0 (fun b e=>hk b (h.l1 b e).2)⟩
  mp:=h.mp.same (hk cr aa)
  j8:=h.j8,jk:=h.jk,pp:=h.pp,l0:=h.l0,l1:=h.l1,ln:=h.ln}
theorem fD.set1 (h:fD a S w pk cr ps b0 d0 b1 d1 yv ov T w')(v:Value):fD a S w pk cr ps b0 d0 b1 d1 v ov T (w'.setCell ⟨pk,1,none⟩ v):=h.set 1 v (by simp only [World.setCell,Array.getElem?_modify,if_true,h.cb,Option.map_some];simp)
theorem fD.set2 (h:fD a S w pk cr ps b0 d0 b1 d1 yv ov T w')(v:Value):fD a S w pk cr ps b0 d0 b1 d1 yv v T (w'.setCell ⟨pk,2,none⟩ v):=h.set 2 v (by simp only [World.setCell,Array.getElem?_modify,if_true,h.cb,Option.map_some];simp)
theorem fD.add {x:Int}(h:fD a S w pk cr ps b0 d0 b1 d1 yv ov T w')(f:Fr (fun b=>b=cr) w' w'')(hm:Mp w'' cr (T++[x]) (fun _=>-1)):fD a S w pk cr ps b0 d0 b1 d1 yv ov (T++[x]) w'':=by
 have g:=h.j8;have i:=h.jk;have j:=h.pp;have k:=lt_of_some h.cb;have hk:∀b,b<=pk->b≠cr->_=_:=fun b hb c=>f.block b aa (fun d=>c d)
 exact {
  bl:=⟨f.os.trans h.bl.os,f.tape.trans h.bl.tape,f.output.trans h.bl.output,aS h.bl.size f.size,fun b hb=>(hk b aa aa).trans (h.bl.block b hb)⟩
  cb:=(hk pk bY aa).trans h.cb
  sd:=⟨(hk ps aa aa).trans h.sd.blk,cy h.sd.r0 (fun b e=>hk b (by have:=(h.l0 b e).2;omega) (by have:=(h.l0 b e).1;omega)),cy h.sd.q0 (fun b e=>hk b (by have:=(h.l1 b e).2;omega) (by have:=(h.l1 b e).1;omega))⟩
  mp:=hm
  j8:=h.j8,jk:=h.jk,pp:=h.pp,l0:=h.l0,l1:=h.l1,ln:=h.ln}
theorem fD.cells (h:fD a S w pk cr ps b0 d0 b1 d1 yv ov T w'):w'.cell? (ao pk 0)=some (am a.pw)/\w'.cell? (ao pk 1)=some yv/\w'.cell? (ao pk 2)=some ov/\w'.cell? (ao pk 3)=some (.map (some cr))/\(∀i,w'.frozen? (ao pk i)=false)/\pk<w'.heap.size:=by
 have b:=h.cb;refine⟨?_,?_,?_,?_,fun i=>?_,lt_of_some b⟩
 all_goals first|simp[World.cell?,b]|simp[World.frozen?,b]
theorem fD.done {d:Nat->Prop}{f g:Option Addr}{i gc:Nat}(hw:(d5 a).J d S.s w)(u:cX (S.s.j0 a) gJ)(h:fD a S w pk cr ps b0 d0 b1 d1 (.slice f (S.s.j0 a).Y.length i) (.slice g (S.s.j0 a).G.length gc) (S.s.j0 a).T w')
 (yr:w'.ownsRow (pk+1) 3 1 (.slice f (S.s.j0 a).Y.length i) (S.s.j0 a).Y.length ((S.s.j0 a).Y.map (Value.int .i64)))(gr:w'.ownsRow (pk+1) 3 1 (.slice g (S.s.j0 a).G.length gc) (S.s.j0 a).G.length ((S.s.j0 a).G.map (Value.int .i64)))(v:∀b,some b=(Value.slice f (S.s.j0 a).Y.length i).ownBlock->some b≠(Value.slice g (S.s.j0 a).G.length gc).ownBlock):
 ∃n,(de (dQ ⟨pk,cr,ps,.slice f (S.s.j0 a).Y.length i,.slice g (S.s.j0 a).G.length gc⟩ (S.s.j0 a)) ps (.slice b0 S.r.length d0)).J n (gJ,S.q) w'/\(∀b,some b=(Value.slice b0 S.r.length d0).ownBlock->¬n b/\w.heap.size<=b)/\(∀b,n b->d b\/w.heap.size<=b):=by
 have ai:=h.j8;have m1:=h.jk;have al:=h.pp;have lk:=lt_of_some h.cb;have o:=(d5 a).lt hw
 classical
 obtain⟨own,j⟩:∃own:Nat->Nat,own=fun b=>if d b then 1 else if b=pk then 5 else if b=cr then 6 else if some b=(Value.slice f (S.s.j0 a).Y.length i).ownBlock then 9 else if some b=(Value.slice g (S.s.j0 a).G.length gc).ownBlock then 10 else 0:=⟨_,rfl⟩
 have l:∀b,w.heap.size<=b->¬d b:=fun b hb c=>by have:=o b c;omega
 have o1:∀b,d b↔own b=1:=fun b=>by
  rw[j];dsimp only;by_cases c:d b
  ·simp[c]
  ·rw[aH c];refine⟨fun e=>absurd e c,fun e=>?_⟩
   split at e
   ·omega
   ·split at e
    ·omega
    ·split at e
     ·omega
     ·split at e<;>omega
 have ok:own pk=5:=by rw[j];dsimp only;rw[aH (l pk aa),aJ rfl]
 have x:own cr=6:=by rw[j];dsimp only;rw[aH (l cr aa),aH aa,aJ rfl]
 have B:∀b,some b=(Value.slice f (S.s.j0 a).Y.length i).ownBlock->own b=9:=fun b e=>by have q:=(cg yr b e).1;rw[j];dsimp only;rw[aH (l b aa),aH aa,aH aa,aJ e]
 have F:∀b,some b=(Value.slice g (S.s.j0 a).G.length gc).ownBlock->own b=10:=fun b e=>by have q:=(cg gr b e).1;rw[j];dsimp only;rw[aH (l b aa),aH aa,aH aa,aH (fun p=>v b p e),aJ e]
 have m:∀b,own b≠0->b<w'.heap.size/\(d b\/b=pk\/b=cr\/pk<b):=fun b hb=>by
  rw[j] at hb;dsimp only at hb;by_cases c:d b
  ·have:=o b c;have:=h.bl.size;exact⟨aa,aL c⟩
  ·rw[aH c] at hb;by_cases N:b=pk
   ·omega
   ·rw[aH N] at hb;by_cases p:b=cr
    ·omega
    ·rw[aH p] at hb;by_cases s:some b=(Value.slice f (S.s.j0 a).Y.length i).ownBlock
     ·have:=cg yr b s;exact⟨this.2,aK (aK (aK aa))⟩
     ·rw[aH s] at hb;by_cases t:some b=(Value.slice g (S.s.j0 a).G.length gc).ownBlock
      ·have:=cg gr b t;exact⟨this.2,aK (aK (aK aa))⟩
      ·rw[aH t] at hb;exact absurd rfl hb
 have W:(dQ ⟨pk,cr,ps,.slice f (S.s.j0 a).Y.length i,.slice g (S.s.j0 a).G.length gc⟩ (S.s.j0 a)).J (fun b=>own b≠0) gJ w':=by
  refine⟨⟨.slice none 0 0,.slice none 0 0,d,own,?_,fun b=>Iff.rfl⟩,u⟩
  exact {
   wd:=(d5 a).keep hw h.bl.size (fun b hb=>h.bl.block b (o b hb))
   w1:=o1
   cb:=h.cb
   k1:=ok
   mp:=h.mp
   m1:=x
   tr:=a6 _ _ _ _
   gP:=fun b e=>by simp[Value.ownBlock] at e
   er:=a6 _ _ _ _
   eo:=fun b e=>by simp[Value.ownBlock] at e
   yr:=ec yr (fun _ _=>aX _)
   hP:=B
   gr:=ec gr (fun _ _=>aX _)
   go:=F
   lt:=fun b hb=>(m b hb).1}
 have ab:¬own ps≠0:=fun c=>by
  rcases(m ps c).2 with q|q|q|q
  ·exact l ps aa q
  ·omega
  ·omega
  ·omega
 have n1:∀k,cr<k->k<pk->¬own k≠0:=fun k k1 ap c=>by
  rcases(m k c).2 with q|q|q|q
  ·exact l k aa q
  ·omega
  ·omega
  ·omega
 have ad:∀k,some k=(Value.slice b0 S.r.length d0).ownBlock->k≠ps:=fun k e ag=>by obtain⟨ar,hc⟩:=d6 h.sd.r0 k e;rw[ag,h.sd.blk] at hc;simp at hc
 refine⟨fun b=>own b≠0\/b=ps\/some b=(Value.slice b1 S.q.length d1).ownBlock,⟨fun b=>own b≠0,b1,d1,W,h.sd.blk,h.sd.q0,fun k hk=>aL hk,aK (aL rfl),ab,fun k e=>⟨aK (aK e),n1 k (h.l1 k e).1 (h.l1 k e).2⟩,fun k hk=>?_⟩,fun b e=>⟨fun c=>?_,by have:=(h.l0 b e).1;omega⟩,fun b c=>?_⟩
 ·rcases hk with c|c|c
  ·exact(m k c).1
  ·omega
  ·have:=(h.l1 k c).2;omega
 ·rcases c with c|c|c
  ·exact n1 b (h.l0 b e).1 (h.l0 b e).2 c
  ·exact ad b e c
  ·exact h.ln b e c
 ·rcases c with c|c|c
  ·rcases(m b c).2 with q|q|q|q
   ·exact aL q
   ·omega
   ·omega
   ·omega
  ·omega
  ·have:=(h.l1 b c).1;exact aK aa
end
theorem GP {a:Wc}{bd:Nat->Prop}{S:co}{w:aw}{a0 a1:Option Addr}{k0 k1:Nat}(hw:(d5 a).J bd S.s w)(hs:gu w a.sd a0 k0 a1 k1 S.r S.q)(h0:S.r.length<=90000)(ce:S.q.length<=90000):
 Calls prog 75 #[am a.pw] w fun e w'=>∃(c:e7)(ar:Option Addr)(b0:Nat)(o:Nat->Prop),e=.returned (am c.pk)/\(de (dQ c (S.s.j0 a)) c.bs (.slice ar S.r.length b0)).J o (gJ,S.q) w'/\w'.ownsRow 0 103 2 (.slice ar S.r.length b0) S.r.length (ev S.r)/\(∀b,some b=(Value.slice ar S.r.length b0).ownBlock->¬o b/\w.heap.size<=b)/\(∀b,o b->bd b\/w.heap.size<=b)/\Below w.heap.size w w':=by
 have c9:=@run_makeMap prog;obtain⟨c0,_,c2,_,aT,_⟩:=jh hw;have ap:=(jX hw).1;have n1:=ap.hN';have cE:=ap.hO;have cF:=ap.hg;have n4:=ap.hy;have b2:=hide (cX.start n1 cE n4 cF)
 have N:ay ((d5 a).J bd S.s w/\At w a.p a.q a.N a.O S.s.y S.s.g S.s.ws):=⟨hw,ap⟩
 have cf:=lt_of_some hs.blk;have be:Below w.heap.size w (w.alloc (.map #[] 0)):=(aE _ w).alloc bY _;have cG:=EM (w.alloc (.map #[] 0)) a.sd a0 a1 k0 k1 S.r S.q ⟨(be.block _ cf).trans hs.blk,cy hs.r0 (fun b e=>be.block b (cg hs.r0 b e).2),cy hs.q0 (fun b e=>be.block b (cg hs.q0 b e).2)⟩ h0 ce;have cH:ay (Mp (w.alloc (.map #[] 0)) w.heap.size [] (fun _=>-1)):=⟨_,World.ownsMap_made w prog 3 (plainElem (H:=Unit) prog 3),fun _=>rfl,fun a ha=>by simp at ha⟩
 clear hw hs ap be cf h0 ce;go_enter func75,ntmps75;go_wp2_with fail;refine cG.mono ?_;rintro e w1 ⟨ps,l,m,b1,W,rfl,cI,v,g0,g1,cJ,b3⟩
 have cK:=b3.size;simp only [World.size_alloc] at cK cI g0 g1;have bg:ay (fD a S w w1.heap.size w.heap.size ps l m b1 W (.slice none 0 0) (.slice none 0 0) [] (w1.alloc (.cells #[.pointer (some ⟨a.pw,0,none⟩),.slice none 0 0,.slice none 0 0,.map (some w.heap.size),.pointer (some ⟨ps,0,none⟩),.slice none 0 0,.slice none 0 0] 140))/\(w1.alloc (.cells #[.pointer (some ⟨a.pw,0,none⟩),.slice none 0 0,.slice none 0 0,.map (some w.heap.size),.pointer (some ⟨ps,0,none⟩),.slice none 0 0,.slice none 0 0] 140)).heap.size=w1.heap.size+1):=by
  have aV:=aq w1 (.cells #[.pointer (some ⟨a.pw,0,none⟩),.slice none 0 0,.slice none 0 0,.map (some w.heap.size),.pointer (some ⟨ps,0,none⟩),.slice none 0 0,.slice none 0 0] 140)
  have cL:=((aE _ w).alloc bY (.map #[] 0)).trans (b3.mono ac)
  refine⟨{bl:=cL.trans (aV.mono aa),cb:=aN _ _,sd:=⟨(aV.block _ (lt_of_some v.blk)).trans v.blk,cy v.r0 (fun b e=>aV.block b (cg v.r0 b e).2),cy v.q0 (fun b e=>aV.block b (cg v.q0 b e).2)⟩,mp:=(cH.o.same (b3.block _ ac)).same (aV.block _ aa),j8:=rfl,jk:=aa,pp:=lt_of_some v.blk,l0:=fun k e=>⟨?_,(cg v.r0 k e).2⟩,l1:=fun k e=>⟨?_,(cg v.q0 k e).2⟩,ln:=cJ},ac⟩
  ·cases hb:l with
   |none=>rw[hb] at e;simp[Value.ownBlock] at e
   |some z=>
    rw[hb] at e;have cM:k=z.block:=by simpa[Value.ownBlock] using e
    have:=g0 z hb;omega
  ·cases hb:b1 with
   |none=>rw[hb] at e;simp[Value.ownBlock] at e
   |some z=>
    rw[hb] at e;have cM:k=z.block:=by simpa[Value.ownBlock] using e
    have:=g1 z hb;omega
 have ax:=(bg.o.1.bl.cell (p:=ao a.pw 0) aT).trans c0;have i:=me _ (N.o.2.below bg.o.1.bl bY)
 go_wp2_with fail;refine i.mono ?_;rintro e ch ⟨rfl,ci⟩
 have bi:ay (fD a S w w1.heap.size w.heap.size ps l m b1 W (.slice none 0 0) (.slice none 0 0) [] ch/\w1.heap.size+1<=ch.heap.size):=⟨bg.o.1.below ci,by have:=ci.size;have:=bg.o.2;omega⟩
 have ax:=(bi.o.1.bl.cell (p:=ao a.pw 0) aT).trans c0;have i:=kj _ (N.o.2.below bi.o.1.bl bY)
 go_wp2_with fail;refine i.mono ?_;rintro e w3 ⟨rfl,cj⟩
 have a2:ay (fD a S w w1.heap.size w.heap.size ps l m b1 W (.slice none 0 0) (.slice none 0 0) [] w3/\w1.heap.size+1<=w3.heap.size):=⟨bi.o.1.below cj,by have:=cj.size;have:=bi.o.2;omega⟩
 have ax:=(a2.o.1.bl.cell (p:=ao a.pw 0) aT).trans c0;have i:=GL _ (N.o.2.below a2.o.1.bl bY)
 go_wp2_with fail;refine i.mono ?_;rintro e cN ⟨v1,v2,rfl,b4,b5,cO,cP⟩
 obtain⟨y1,m1,rfl⟩:=dU b4;obtain⟨d,g,rfl⟩:=dU b5;have B:=iZ (a2.o.1.below cP) (ec b4 (fun b e=>aS a2.o.2 (cg b4 b e).1)) (ec b5 (fun b e=>aS a2.o.2 (cg b5 b e).1)) cO;have bn:ay ((dW a.N S.s.y S.s.g S.s.ws).length<=2000/\(dB a.N S.s.y S.s.g S.s.ws).length<=2000/\(∀x∈dW a.N S.s.y S.s.g S.s.ws,0<=x/\x<=2000)/\∀x∈dB a.N S.s.y S.s.g S.s.ws,0<=x/\x<=2000):=⟨iD _ _,iD _ _,fun x s=>by have:=mx x s;omega,fun x s=>by have:=ou x s;omega⟩
 have ck:w1.heap.size<w1.heap.size+1/\a.pw<w1.heap.size+1/\a.p<w1.heap.size+1/\a.q<w1.heap.size+1:=by have q1:=N.o.2.eO;have bo:=N.o.2.eP;omega
 obtain⟨u0,b6,b7,b8,aB,b9⟩:=B.o.1.cells;have ax:=(B.o.1.bl.cell (p:=ao a.pw 0) aT).trans c0;have ca:=aB 1;have i:=ze cN (N.o.2.below B.o.1.bl bY) u0 ax (dW a.N S.s.y S.s.g S.s.ws) y1 m1 (w1.heap.size+1) (0+S.s.y) (by have:=bn.o.1;omega) (fun x s=>by have:=bn.o.2.2.1 x s;omega) B.o.2.1 ck;rw[Int.zero_add] at i;have cQ:ay (ei (fun x=>decide ((S.s.y:Int)<=x+pf (ld a.N S.s.y S.s.g S.s.ws x))) (dW a.N S.s.y S.s.g S.s.ws)=(S.s.j0 a).Y):=rfl;rw[cQ.o] at i;go_wp2_with fail;refine i.mono ?_;rintro r F ⟨rfl,cR,cl⟩
 have cS:∀b,some b=(Value.slice y1 (dW a.N S.s.y S.s.g S.s.ws).length m1).ownBlock->w1.heap.size<b:=fun b e=>(cg B.o.2.1 b e).1;have ad:ay (fD a S w w1.heap.size w.heap.size ps l m b1 W (.slice none 0 0) (.slice none 0 0) [] F/\F.ownsRow (w1.heap.size+1) 3 1 (.slice y1 (S.s.j0 a).Y.length m1) (S.s.j0 a).Y.length ((S.s.j0 a).Y.map (Value.int .i64))/\F.ownsRow (w1.heap.size+1) 3 1 (.slice d (dB a.N S.s.y S.s.g S.s.ws).length g) (dB a.N S.s.y S.s.g S.s.ws).length ((dB a.N S.s.y S.s.g S.s.ws).map (Value.int .i64))/\(∀n cm b,some b=(Value.slice y1 n m1).ownBlock->some b≠(Value.slice d cm g).ownBlock)):=by
  refine⟨B.o.1.fr cl cS,cR,gN B.o.2.2.1 cl (fun b e ag=>B.o.2.2.2 b ag e),fun n cm b e=>?_⟩
  have q:=B.o.2.2.2 b (by
   cases y1 with
   |none=>simp[Value.ownBlock] at e
   |some z=>simpa[Value.ownBlock] using e)
  cases d with
  |none=>simp[Value.ownBlock]
  |some z=>simpa[Value.ownBlock] using q
 obtain⟨u0,b6,b7,b8,aB,b9⟩:=ad.o.1.cells;have ca:=aB 1;have ai:ay (fD a S w w1.heap.size w.heap.size ps l m b1 W (.slice y1 (S.s.j0 a).Y.length m1) (.slice none 0 0) [] (F.setCell ⟨w1.heap.size,1,none⟩ (.slice y1 (S.s.j0 a).Y.length m1))/\(F.setCell ⟨w1.heap.size,1,none⟩ (.slice y1 (S.s.j0 a).Y.length m1)).ownsRow (w1.heap.size+1) 3 1 (.slice y1 (S.s.j0 a).Y.length m1) (S.s.j0 a).Y.length ((S.s.j0 a).Y.map (Value.int .i64))/\(F.setCell ⟨w1.heap.size,1,none⟩ (.slice y1 (S.s.j0 a).Y.length m1)).ownsRow (w1.heap.size+1) 3 1 (.slice d (dB a.N S.s.y S.s.g S.s.ws).length g) (dB a.N S.s.y S.s.g S.s.ws).length ((dB a.N S.s.y S.s.g S.s.ws).map (Value.int .i64))):=by have f:Fr (fun b=>b=w1.heap.size) F (F.setCell ⟨w1.heap.size,1,none⟩ (.slice y1 (S.s.j0 a).Y.length m1)):=(Fr.refl _ F).set _ 1 _ rfl;exact⟨ad.o.1.set1 _,gN ad.o.2.1 f (fun b e ag=>by have:=(cg ad.o.2.1 b e).1;omega),gN ad.o.2.2.1 f (fun b e ag=>by have:=(cg ad.o.2.2.1 b e).1;omega)⟩
 have cn:=hide ad.o.2.2.2;obtain⟨s0,s1,s2,bp,s4,s5⟩:=ai.o.1.cells;have ax:=(ai.o.1.bl.cell (p:=ao a.pw 0) aT).trans c0;have s6:=s4 2;have i:=ze _ (N.o.2.below ai.o.1.bl bY) s0 ax (dB a.N S.s.y S.s.g S.s.ws) d g (w1.heap.size+1) ((a.N:Int)+S.s.g) (by have:=bn.o.2.1;omega) (fun x s=>by have:=bn.o.2.2.2 x s;omega) ai.o.2.2 ck;have cT:ay (ei (fun x=>decide ((a.N:Int)+S.s.g<=x+pf (ld a.N S.s.y S.s.g S.s.ws x))) (dB a.N S.s.y S.s.g S.s.ws)=(S.s.j0 a).G):=rfl;rw[cT.o] at i;go_wp2_with fail;refine i.mono ?_;rintro r aF ⟨rfl,cU,cp⟩
 have cV:∀b,some b=(Value.slice d (dB a.N S.s.y S.s.g S.s.ws).length g).ownBlock->w1.heap.size<b:=fun b e=>(cg ai.o.2.2 b e).1;have al:=gM (ai.o.1.fr cp cV) (gN ai.o.2.1 cp (fun b e ag=>cn.o _ _ b e ag)) cU;obtain⟨u0,b6,b7,b8,aB,b9⟩:=al.o.1.cells;have ca:=aB 2;have t:ay (fD a S w w1.heap.size w.heap.size ps l m b1 W (.slice y1 (S.s.j0 a).Y.length m1) (.slice d (S.s.j0 a).G.length g) [] (aF.setCell ⟨w1.heap.size,2,none⟩ (.slice d (S.s.j0 a).G.length g))/\(aF.setCell ⟨w1.heap.size,2,none⟩ (.slice d (S.s.j0 a).G.length g)).ownsRow (w1.heap.size+1) 3 1 (.slice y1 (S.s.j0 a).Y.length m1) (S.s.j0 a).Y.length ((S.s.j0 a).Y.map (Value.int .i64))/\(aF.setCell ⟨w1.heap.size,2,none⟩ (.slice d (S.s.j0 a).G.length g)).ownsRow (w1.heap.size+1) 3 1 (.slice d (S.s.j0 a).G.length g) (S.s.j0 a).G.length ((S.s.j0 a).G.map (Value.int .i64))):=by have f:Fr (fun b=>b=w1.heap.size) aF (aF.setCell ⟨w1.heap.size,2,none⟩ (.slice d (S.s.j0 a).G.length g)):=(Fr.refl _ aF).set _ 2 _ rfl;exact⟨al.o.1.set2 _,gN al.o.2.1 f (fun b e ag=>by have:=(cg al.o.2.1 b e).1;omega),gN al.o.2.2 f (fun b e ag=>by have:=(cg al.o.2.2 b e).1;omega)⟩
 clear al u0 b6 b8 aB;obtain⟨s0,s1,s2,bp,s4,s5⟩:=t.o.1.cells;have br:ay ((S.s.j0 a).T=(S.s.j0 a).G++(S.s.j0 a).Y/\(S.s.j0 a).T.length=(S.s.j0 a).G.length+(S.s.j0 a).Y.length/\_/\_):=⟨rfl,by unfold b_.T;rw[aZ],b2.o.tl,b2.o.ps⟩
 have cq:=br.o.2.1;have da:=br.o.2.2.1;have i:=GO _ w1.heap.size (S.s.j0 a).G (S.s.j0 a).Y d y1 g m1 s1 s2 (ec t.o.2.1 (fun _ _=>aX _)) (ec t.o.2.2 (fun _ _=>aX _)) aa;rw[<-cq,<-br.o.1] at i;clear s0 s1 s2 bp s4 cq;go_wp2_with fail;refine i.mono ?_;clear i s5 b7 b9 ca;rintro e a3 ⟨cW,cY,rfl,cc,bs⟩
 have ab:ay (_/\_/\a3.ownsRow (w1.heap.size+1) 3 1 (.slice d (S.s.j0 a).G.length g) (S.s.j0 a).G.length ((S.s.j0 a).G.map (Value.int .i64))/\a3.ownsRow (w1.heap.size+1) 3 1 (.slice cW (S.s.j0 a).T.length cY) (S.s.j0 a).T.length ((S.s.j0 a).T.map (Value.int .i64))):=⟨t.o.1.below bs,cy t.o.2.1 (fun b e=>bs.block b (cg t.o.2.1 b e).2),cy t.o.2.2 (fun b e=>bs.block b (cg t.o.2.2 b e).2),ec cc (fun b e=>by have:=(cg cc b e).1;have q:=t.o.1.cells.2.2.2.2.2;omega)⟩
 clear cc bs t;go_wp2_with fail
 go_loopw [66] (fun iv wr=>∃j:Nat,j<=(S.s.j0 a).T.length/\iv=ak j/\ay (fD a S w w1.heap.size w.heap.size ps l m b1 W (.slice y1 (S.s.j0 a).Y.length m1) (.slice d (S.s.j0 a).G.length g) ((S.s.j0 a).T.take j) wr/\Fr (fun b=>b=w.heap.size) a3 wr)) (fun iv _=>(S.s.j0 a).T.length-(intOf iv).toNat)
 case atStart=>exact⟨0,aX _,rfl,ab.o.1,Fr.refl _ _⟩
 ·
   obtain⟨j,db,rfl,u⟩:=hrel;by_cases bt:j<(S.s.j0 a).T.length
   ·obtain⟨bb,cZ,cr,c1,hc⟩:=gV ab.o.2.2.2 aa;have c3:w1.heap.size<bb/\bb<a3.heap.size:=by
     have:=cg ab.o.2.2.2 bb (by rw[cr];rfl)
     omega
    have cs:=(aW (a:=⟨bb,cZ+j,none⟩) (u.o.2.block bb c3.2 (fun e=>by have:=u.o.1.jk;have:=u.o.1.pp;omega))).trans (hc j bt)
    have hm:(S.s.j0 a).T.getD j 0∈(S.s.j0 a).T:=by rw[aG,aI bt];exact a_ bt
    have s:=br.o.2.2.2 _ hm;have ct:=hide (fE _ j bt 0)
    generalize (S.s.j0 a).T.getD j 0=x at cs s ct;obtain⟨D,o1,cu,cv⟩:=u.o.1.mp;obtain⟨s0,s1,s2,bp,s4,s5⟩:=u.o.1.cells;have cw:=i1 (a:=x) s.1 aa;have cx:=mo (-1) ae;have ht:((S.s.j0 a).T.take j).length=j:=by rw[bu];omega
    have bx:=gM o1 cu cv;have j0:(0:Int)<=(j:Int):=aa;have dc:(j:Int)<((S.s.j0 a).T.length:Int):=aa;clear cu cv hc c1 hm s0 s1 s2 s4;subst cr;go_wp2_with (first
     |(at_mapUpdate;refine wpList_mapUpdate_own _ rfl _ _ _ 127 rfl 3 3 iE underlying127 (plainElem (H:=Unit) prog 3) w.heap.size ((S.s.j0 a).T.take j).length D rfl o1 (by unfold maxLen;omega) _ _ _ rfl rfl cw _ [] cx ?_;intro cd cz cA)
     |go_in)
    have c4:ay (fD a S w w1.heap.size w.heap.size ps l m b1 W (.slice y1 (S.s.j0 a).Y.length m1) (.slice d (S.s.j0 a).G.length g) ((S.s.j0 a).T.take (j+1)) cd/\Fr (fun b=>b=w.heap.size) a3 cd):=by
     have cB:Fr (fun b=>b=w.heap.size) wr cd:=(Fr.refl _ wr).grown cA (fun b e=>aL (by cases e;rfl))
     have c5:=Mp.add (f:=fun _=>-1) bx.o.1 bx.o.2.1 bx.o.2.2 rfl rfl cz;have cC:=u.o.1.add cB c5;rw[<-ct.o] at cC;exact⟨cC,u.o.2.trans cB (fun b e=>aL e)⟩
    clear u bx cz cA o1 cs bp s5 cw cx;go_roundw;exact⟨j+1,aa,aj,c4⟩
    simp[intOf];omega
   ·obtain rfl:j=(S.s.j0 a).T.length:=aa;have c6:ay (∃(o:Nat->Prop),(de (dQ ⟨w1.heap.size,w.heap.size,ps,.slice y1 (S.s.j0 a).Y.length m1,.slice d (S.s.j0 a).G.length g⟩ (S.s.j0 a)) ps (.slice l S.r.length m)).J o (gJ,S.q) wr/\wr.ownsRow 0 103 2 (.slice l S.r.length m) S.r.length (ev S.r)/\(∀b,some b=(Value.slice l S.r.length m).ownBlock->¬o b/\w.heap.size<=b)/\(∀b,o b->bd b\/w.heap.size<=b)/\Below w.heap.size w wr):=by
     obtain⟨aR,cD⟩:=u.o;rw[ba] at aR;have ne:∀b,w1.heap.size+1<=b->¬b=w.heap.size:=fun b hb e=>by have:=aR.jk;have:=aR.pp;omega
     obtain⟨o,q1,bo,q3⟩:=aR.done N.o.1 b2.o (gN ab.o.2.1 cD (fun b e=>ne b (cg ab.o.2.1 b e).1)) (gN ab.o.2.2.1 cD (fun b e=>ne b (cg ab.o.2.2.1 b e).1)) (fun b e=>cn.o _ _ b e)
     exact⟨o,q1,aR.sd.r0,bo,q3,aR.bl⟩
    clear u ab;go_wp2_with fail;go_ret;obtain⟨o,q1,bo,q3,c7,c8⟩:=c6.o;exact⟨⟨w1.heap.size,w.heap.size,ps,.slice y1 (S.s.j0 a).Y.length m1,.slice d (S.s.j0 a).G.length g⟩,l,m,o,rfl,q1,bo,q3,c7,c8⟩
def gB (g:Int->Nat)(l:List Int):Nat:=(l.map g).sum
theorem tX (g:Int->Nat)(a:Int)(l:List Int):gB g (a::l)=g a+gB g l:=by simp[gB]
theorem GQ (g:Int->Nat)(l m:List Int):gB g (l++m)=gB g l+gB g m:=by simp[gB]
end Go.Proofs.YtpkjkjhanlbcoaaGreat
