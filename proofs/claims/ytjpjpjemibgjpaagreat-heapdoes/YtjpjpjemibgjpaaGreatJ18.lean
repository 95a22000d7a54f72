import Derived.Test.YtjpjpjemibgjpaaGreatJ17
import Derived.Lib.SliceRun
namespace Go.Proofs.YtjpjpjemibgjpaaGreat
set_option maxRecDepth 100000
set_option maxHeartbeats 4000000
open Tryz
open Go.RowKit W Kp cg
theorem qL {P:Prop}(h:P:=by unfold ck.full at hf;have:=of_decide_eq_false hf;omega):P:=h
theorem zk {P:Prop}(h:P:=by unfold dB;rw[aE c];show((k.ma t.1.1 _,t.1.2.set i ((t.1.2.getD i (0,0)).1,(t.1.2.getD i (0,0)).2)),true)=_;rw[(GG _ _ _)]):P:=h
theorem zl {P:Prop}(h:P:=by
 obtain⟨j1,j2,cy⟩:=h1.ma _;refine⟨j1,h2.trans j2,fun i hi=>?_⟩
 by_cases e:i=n
 ·rw[e];exact cy
 ·exact j2.cQ (h3 i V)):P:=h
section
variable {a:Wc}{F:Nat->Prop}{S:ck}{w:au}
theorem GH (h:(fq a).J F S w)(d:S.full a=true):
 Calls prog 33 #[aj a.pw] w fun e w'=>e=.returned (ah 3)/\Below w.heap.size w w':=by
 obtain⟨k,ar,l,f,_⟩:=h;obtain⟨m,hw,_⟩:=iT f;obtain⟨b,_⟩:=jZ hw;have b:=b;obtain⟨c0,_,_,_,g,_⟩:=jh hw;have n1:=b.hg;have n:a.O-S.s.g<S.s.y:=by simpa[ck.full] using d
 go_enter func33,ntmps33;go_wp2_with fail;refine(kl w b).mono ?_;rintro e w1 ⟨rfl,c⟩
 have c1:=(c.cell (p:=am a.pw 0) g).trans c0;go_wp2_with fail;refine(ot w1 (b.below c bW)).mono ?_;rintro e o ⟨rfl,i⟩
 have j:=c.trans (i.mono c.size)
 go_wp2_with fail;go_ret;exact⟨rfl,j⟩
theorem GI (h:(fq a).J F S w)(hf:S.full a=false)(hq:S.q.length+S.r.length<=90000):
 Calls prog 33 #[aj a.pw] w fun e w'=>∃i,e=.returned (ah 0)/\(fq a).J i (S.cut a) w'/\b_ F w i w':=by
 have df:∀(a0:Fn)(first a2:Array Value)(w:au),(Instr.makeFunc a0 first a2).run prog w=.ok (.func a0 first a2) w:=fun _ _ _ _=>rfl;obtain⟨b8,ar,Y,g,a3,bb,bd⟩:=h;obtain⟨be,hw,bg⟩:=iT g;obtain⟨f,_⟩:=jZ hw;have f:At w a.p a.q a.N a.O S.s.y S.s.g S.s.ws:=f;obtain⟨c0,_,_,_,b9,_⟩:=jh hw;have n1:=f.hg;have ca:S.s.y<=a.O-S.s.g:=by exact qL
 have dg:¬(a.O:Int)-S.s.g<S.s.y:=V;have n4:=f.hO;have dh:=f.hy;have di:=f.hN';have bi:av (_):=CI.start f.hN f.hN' f.hO f.hy f.hg f.hl ca;have bl:=kl w f;have bn:av (_/\_):=⟨hw,f⟩
 have cb:av (∀{ab:Type}(ad:dP ab) B ag w',ad.J B ag w'->b_ be w B w'->_):=bg;have o:=ir a3 bb bd;clear g hw f bg a3 bb bd hf;go_enter func33,ntmps33;go_wp2_with fail;refine bl.mono ?_;clear bl;rintro e w1 ⟨rfl,C⟩
 have c1:=(C.cell (p:=am a.pw 0) b9).trans c0;have bo:=ot w1 (bn.o.2.below C bW)
 go_wp2_with fail;refine bo.mono ?_;clear bo;rintro e dj ⟨rfl,bp⟩
 have m:=C.trans (bp.mono C.size)
 have cc:=FM ((dY a).below bn.o.1 m)
 have cd:=hide m;clear C bp c0 c1 m;go_wp2_with fail;refine cc.mono ?_;rintro e w3 ⟨pk,co,cM,dk,rfl,D,ai⟩
 have ai:=(b_.of (F:=be) cd.o).trans ai;obtain⟨c,hc⟩:∃c:gb,c=⟨pk,co,a.pw,a.p,a.q,a.pc,cM,a.sd,a.nb,dU a.O,S.s.M⟩:=⟨_,rfl⟩
 have cf:pk=c.pk:=by rw[hc]
 have n:av (_/\a.sd=c.sd/\c.c=dU a.O/\c.M=S.s.M/\a.pw=c.pw):=⟨hc,by rw[hc],by rw[hc],by rw[hc],by rw[hc]⟩
 rw[<-hc] at D;clear hc;subst cf;have D:=D;have cg:=GF D bi.o;clear D;go_wp2_with fail;refine cg.mono ?_;rintro e dl ⟨rfl,al,ch⟩
 have al:=al;obtain⟨k1,dm,ci,cj,k5,k6⟩:=bi.o.cJ 12;have cl:=FI al (s:=S.s.s1 a) k1 ci cj;have cm:=hide (ai.trans ch)
 go_wp2_with fail;refine cl.mono ?_;rintro e cn ⟨cp,rfl,M,cq,N,b5,dn⟩
 rw[n.o.2.2.1,n.o.2.2.2.1] at M N b5;have M:=M;have N:=N;have b5:=b5;obtain⟨dp,br,cr⟩:=cb.o (gD c (S.s.k0 a)) cp (S.s.s2 a) cn ⟨M,N,b5⟩ (cm.o.trans cq)
 rw[n.o.2.1] at br;have cs:=yP (c:=c) rfl br (by show S.q.length<=90000;omega)
 have ct:=hide cr;go_wp2_with fail;refine cs.mono ?_;rintro e j ⟨dq,rfl,O,ap⟩
 have O:=O;have ap:=ct.o.trans ap;obtain⟨dr,⟨⟨ds,dt,cu⟩,_⟩,_⟩:=iT O;obtain⟨q,_,_,_,_,_,_,bs,_⟩:=eb cu;have l0:=aK j _ q;have cw:=aK j _ bs;have k:av (_/\_):=⟨(c9 (gD c (S.s.k0 a)) c.sd (.slice ar S.r.length Y)).below O (aD _ j).drew,ap.below (aD _ j).drew⟩
 have cx:(S.t3 a).2.length+S.r.length<=90000:=by have:(S.t3 a).2.length=S.q.length:=pa _ _ _;omega
 go_wp2_with fail
 go_region_held3 (fun w'=>w'.cell? (am c.pk 0)=some (aj c.pw)/\w'.cell? (am c.pw 2)=some (aj c.sd)) (go_keep)
  (first
    |(go_at_call 85;refine(yM (mP c) j.drew c.pk).mono ?_;rintro e cy ⟨rfl,cz,ax⟩;have du:=(ax.cell (p:=am c.pk 0) l0).trans q;have dv:=(ax.cell (p:=am c.pw 2) cw).trans bs;have u:av (_/\_):=⟨cz,ax⟩)
    |(go_at_call 53;refine(F7 (t:=S.t3 a) (r:=S.r) rfl ((c9 (gD c (S.s.k0 a)) c.sd (.slice ar S.r.length Y)).below k.o.1 u.o.2) (by exact cv o.o.1 (fun b e=>(u.o.2.block b (aM (ce o.o.1 b e).2 k.o.2.fr.size)).trans (k.o.2.fr.block b (ce o.o.1 b e).2 (o.o.2.1 b e)))) cx j.heap.size u.o.1 (fun d=>by have:=(c9 (gD c (S.s.k0 a)) c.sd (.slice ar S.r.length Y)).lt k.o.1 _ d;have cB:j.drew.heap.size=j.heap.size:=rfl;omega)).mono ?_;rintro e Q ⟨a1,c1,cC,rfl,bt,R,E,cD,cE⟩;obtain⟨G,⟨⟨dw,dx,H⟩,_⟩,_⟩:=iT bt;obtain⟨r0,_,_,_,_,_,_,dy,_⟩:=eb H;have bx:av (_/\_/\_/\w.heap.size<=cy.heap.size/\b_ b8 w cC Q):=⟨bt,R,E,aP k.o.2.fr.size u.o.2.size,⟨(k.o.2.below u.o.2).fr.trans cD (fun b d=>d.elim (k.o.2.sub b) (fun d=>aI (by have:=k.o.2.fr.size;have cB:j.drew.heap.size=j.heap.size:=rfl;omega))),fun b d=>(cE b d).elim (k.o.2.sub b) (fun d=>aI (by have g:=k.o.2.fr.size;have U:=u.o.2.size;omega))⟩⟩))
 obtain⟨G,⟨H,I,W⟩,cF⟩:=iT bx.o.1;have H:(d_ c (S.s.k0 a)).J G (S.s4 a) Q:=H;have I:CI (S.s.k0 a) (S.s4 a):=I;have W:ei (S.s.k0 a) (S.s4 a):=W;obtain⟨aB,cG⟩:=I.mw (l:=(S.s4 a).wk) (fun x cH=>(I.ij x cH).1)
 have aB:CI (S.s.k0 a) (S.s5 a):=aB;have cI:=GD H I (by have:=W.wk;omega)
 have bY:av (CI (S.s.k0 a) (S.s5 a)/\(S.s5 a).ep.length<=10000):=⟨aB,by have g:(S.s5 a).ep=(S.s4 a).ep:=cG.ep;rw[g];have:=W.ep;omega⟩
 have cJ:av (∀{ab:Type}(ad:dP ab) B ag w',ad.J B ag w'->b_ G Q B w'->_):=cF;go_wp2_with fail;refine cI.mono ?_;rintro e dz ⟨rfl,aF,cK⟩
 have aF:=aF;have cL:=Gm aF bY.o.1 bY.o.2;go_wp2_with fail;refine cL.mono ?_;rintro e v ⟨rfl,A,aR⟩
 have A:=A;obtain⟨cA,cN,bZ⟩:=A;obtain⟨q,_,_,_,_,b0,_⟩:=eb bZ;have A:(d_ c (S.s.k0 a)).J G (S.s6 a) v:=⟨cA,cN,bZ⟩
 rw[n.o.1] at A;obtain⟨J,cO,cP,cQ⟩:=F8 (pk:=c.pk) (a:=a) A;obtain⟨cR,cS⟩:=jZ cO;have aR:b_ G Q J v:=⟨(cK.trans aR).fr,fun b m=>aJ (cP b m)⟩
 have cT:=vV v cR;have aT:av (_/\_/\∀w',At w' a.p a.q a.N a.O 0 (S.s6 a).g (S.s6 a).ws->c7 a.p a.q v w'->(dY a).J J ⟨0,(S.s6 a).g,(S.s6 a).ws,S.s.M,(S.s6 a).rs⟩ w'/\b_ J v J w'):=⟨aR,cQ,fun w' g U=>cS w' _ _ _ g U⟩
 have cU:=aK v _ q;have cV:=n.o.2.2.2.2.symm;have ep:c.p=a.p:=by rw[n.o.1]
 rw[cV] at q b0;rw[ep] at b0;go_wp2_with fail;refine cT.mono ?_;rintro e K ⟨rfl,cW,cX⟩
 obtain⟨b1,b2⟩:=aT.o.2.2 K cW cX;obtain⟨cY,cZ,c2⟩:=yS b1;obtain⟨_,dA,_⟩:=jh b1;have dB:=(aU (a:=⟨c.pk,0,none⟩) (b2.fr.block c.pk cU aT.o.2.1)).trans q;have c3:=sj K cZ.hp;have b3:av (_/\∀w',Cd w' a.pc K.heap.size a.N (dU a.O) []->c7 a.pc cY K w'->∃i,(dY a).J i ⟨0,(S.s6 a).g,(S.s6 a).ws,[],(S.s6 a).rs⟩ w'/\b_ J K i w'):=⟨aT.o.1.trans b2,fun w' g U=>c2 w' _ _ g U (aI bW)⟩
 go_wp2_with fail;refine c3.mono ?_;rintro e X ⟨rfl,c4,L⟩
 have c5:av (∃i,(fq a).J i (S.cut a) X/\b_ F w i X):=by
  obtain⟨c6,c8,da⟩:=b3.o.2 X c4 ⟨L.os,L.tape,L.output,L.size,fun b m g _=>L.block b m g g⟩
  obtain⟨b4,b6,aV⟩:=cJ.o (dY a) c6 _ X c8 (b3.o.1.trans da)
  obtain⟨_,R,E,db,dc⟩:=bx.o;have dd:S.cut a=⟨⟨0,(S.s6 a).g,(S.s6 a).ws,[],(S.s6 a).rs⟩,(S.s.k0 a).sR (S.t3 a) S.r,(S.s.k0 a).i5 (S.t3 a) S.r⟩:=by unfold ck.cut;rw[aE];unfold ck.full;simp;omega
  rw[dd];rw[<-n.o.2.1] at b6;have b7:=dc.trans aV;refine⟨fun b=>b4 b\/some b=(Value.slice a1 ((S.s.k0 a).sR (S.t3 a) S.r).length c1).ownBlock,⟨b4,a1,c1,b6,gH R aV.fr (fun b e=>(E b e).1),fun b e d=>(aV.sub b d).elim (E b e).1 (fun d=>by have:=(ce R b e).2;omega),fun b=>Iff.rfl⟩,⟨b7.fr.mono (fun b d=>(o.o.2.2 b).2 (aJ d)),fun b d=>?_⟩⟩
  rcases d with d|d
  ·exact(b7.sub b d).imp (fun d=>(o.o.2.2 b).2 (aJ d)) id
  ·exact aI (aP db (E b d).2)
 go_wp2_with fail;go_ret;obtain⟨i,de,j2⟩:=c5.o;exact⟨i,rfl,de,j2⟩
theorem GJ (h:(fq a).J F S w)(hq:S.q.length+S.r.length<=90000):
 Calls prog 33 #[aj a.pw] w fun e w'=>∃c,e=.returned (ah (S.code a))/\(fq a).J c (S.cut a) w'/\b_ F w c w':=by
 cases hf:S.full a
 ·have b:S.code a=0:=by unfold ck.code;rw[hf];rfl
  rw[b];exact GI h hf hq
 ·have b:S.code a=3:=by unfold ck.code;rw[aH hf]
  have f:S.cut a=S:=by unfold ck.cut;rw[aH hf]
  rw[b,f];refine(GH h hf).mono ?_;rintro e w' ⟨rfl,d⟩
  exact⟨F,rfl,(fq a).below h d,b_.of d⟩
end
def b8.iU (s:ct)(t:b8×Int)(a:Int):b8×Int:=(t.1.k_ (s.f a).toNat a.toNat (1+(pf (t.1.ld a)).toNat),t.2+(1+pf (t.1.ld a)))
def b8.lg (k:b8)(s:ct)(l:List Int):b8×Int:=gJ (fun _ a=>s.f a) (b8.iU s) (k,0) l
def b8.pj (k:b8)(s:ct)(l:List Int):b8:=gJ (fun(_:b8) a=>s.f a) (fun k a=>k.cop a) k l
def b8.t8 (k:b8):b8:={k with s:={k.s with M:=[]}}
def b8.sl1 (k:b8)(s:ct):b8:=(k.lg s k.G).1.ar (k.lg s k.G).1.s.y (k.lg s k.G).2.toNat (k.lg s k.G).1.s.ws
def b8.sl2 (k:b8)(s:ct):b8:=(k.sl1 s).pj s k.Y
def b8.sl (k:b8)(s:ct):b8:=((k.sl2 s).ar 0 (k.sl2 s).s.g (k.sl2 s).s.ws).t8
theorem GK:d3 128:=gP func128 ae rfl
theorem GL:d3 131:=gP func131 ae rfl
section
variable {c:e4}{k0 k:b8}{vt cr vr:Value}{F:Nat->Prop}{s:ct}{w:au}{bp fU:Nat}
theorem GM (h:(de c k0 s vt cr).J F k w)(n:Int)(h0:0<=n)(d:n<=k0.a.O):Calls prog 130 #[aj k0.a.p,ah n] w fun e w'=>∃b,e=.returned (.tuple #[])/\(de c k0 s vt cr).J b (k.ar k.s.y n.toNat k.s.ws) w'/\b_ F w b w':=by obtain⟨h,ea,t1,t4⟩:=h;obtain⟨f,hU⟩:=nQ h;rw[<-ea];refine(BV n w f h0 (by rw[ea];exact d)).mono ?_;exact tZ
theorem GN (h:(de c k0 s vt cr).J F k w):Calls prog 89 #[aj k0.a.p] w fun e w'=>∃b,e=.returned (.tuple #[])/\(de c k0 s vt cr).J b (k.ar 0 k.s.g k.s.ws) w'/\b_ F w b w':=by obtain⟨h,ea,t1,t4⟩:=h;obtain⟨d,hU⟩:=nQ h;rw[<-ea];refine(vV w d).mono ?_;exact tZ
theorem GO (h:(de c k0 s vt cr).J F k w):w.cell? (am k0.a.pw 1)=some (aj k0.a.pc)/\Calls prog 90 #[aj k0.a.pc] w fun e w'=>∃f,e=.returned (.tuple #[])/\(de c k0 s vt cr).J f k.t8 w'/\b_ F w f w':=by
 obtain⟨h,ea,j,l⟩:=h;obtain⟨v,g1,g2⟩:=pi h;obtain⟨_,c1,_⟩:=jh g1;obtain⟨cM,hc,m⟩:=yS g1;have P:=sj w hc.hp;rw[ea] at c1 P;refine⟨c1,P.mono ?_⟩
 rintro e n ⟨rfl,g,d⟩
 rw[<-ea] at g d;obtain⟨x,o,p⟩:=m n _ _ g ⟨d.os,d.tape,d.output,d.size,fun b q i _=>d.block b q i i⟩ (aI bW)
 obtain⟨t,j2,u⟩:=g2 _ _ _ o p;exact⟨t,rfl,⟨j2,ea,j,l⟩,u⟩
theorem nT (h:(de c k0 s vt cr).J F k w):w.cell? (am c.pk 1)=some c.yv/\w.cell? (am c.pk 2)=some c.ov/\w.ownsRow 0 3 1 c.yv k0.Y.length (k0.Y.map (Value.int .i64))/\w.ownsRow 0 3 1 c.ov k0.G.length (k0.G.map (Value.int .i64)):=by obtain⟨h,ea,b,d⟩:=h;obtain⟨_,e,f,_⟩:=ey h;obtain⟨y,g⟩:=za h;rw[b] at y;rw[d] at g;exact⟨e,f,y,g⟩
def il (k0:b8)(s:ct)(G:Nat->b8×Int->Prop):Prop:=
 (∀j t,j<k0.G.length->G j t->s.f (k0.G.getD j 0)≠-1->0<=s.f (k0.G.getD j 0)/\s.f (k0.G.getD j 0)+(1+pf (t.1.ld (k0.G.getD j 0)))<=k0.a.N+k0.a.O/\k0.G.getD j 0+(1+pf (t.1.ld (k0.G.getD j 0)))<=k0.a.N+k0.a.O/\0<=t.2/\t.2<=100000)/\
 (∀j t,j<k0.G.length->G j t->G (j+1) (e6 (fun _ a=>s.f a) (b8.iU s) t (k0.G.getD j 0)))/\(∀t,G k0.G.length t->0<=t.2/\t.2<=k0.a.O)
theorem GP {G:Nat->b8×Int->Prop}(n:il k0 s G){t:b8×Int}(h0:G 0 t)(h:(gU (dd (de c k0 s vt cr) bp (dl c)) fU).J F t w)(hl:k0.G.length<=4000)(hp:∀a∈k0.G,0<=a/\a<=2000){d:Option Addr}{f:Nat}(u:c.ov=.slice d k0.G.length f):
 Calls prog 124 #[aj c.pk,.slice d k0.G.length f,.func (.func 128) #[] #[aj bp,aj fU]] w fun e w'=>∃g,e=.returned (.tuple #[])/\(gU (dd (de c k0 s vt cr) bp (dl c)) fU).J g (gJ (fun _ a=>s.f a) (b8.iU s) t k0.G) w'/\b_ F w g w'/\G k0.G.length (gJ (fun _ a=>s.f a) (b8.iU s) t k0.G):=by
 have o:∀a∈k0.G,a∈k0.T:=fun a ha=>List.mem_append.2 (aJ ha)
 refine tX _ (fun _ a=>s.f a) (fun t a=>pf _) _ G k0.T c.pk k0.a.pw k0.a.p c.co 128 #[.pointer _,.pointer _] GK k0.G d f F t w
  (by
    rintro F t p a v;obtain⟨_,i,_⟩:=k9 v;obtain⟨_,b,_⟩:=gw i;obtain⟨c0,c3,c5,hM,x⟩:=hL b;refine⟨c0,c3,c5,hM,(fY a p x).mono ?_⟩
    rintro r w' ⟨rfl,A⟩
    have B:pf (t.1.ld a)=pf (ld k0.a.N t.1.s.y t.1.s.g t.1.s.ws a):=by unfold b8.ld;rw[b.2.1]
    exact⟨pk _,pc _,by rw[B],A⟩)
  (fun t a=>di _) (fun a ha=>⟨by have:=hp a ha;omega,o a ha⟩) V
  (by
    rintro j F t p k hg l C;have hm:k0.G.getD j 0∈k0.G:=by rw[aC,aG k];exact a6 k
    have b:=hp _ hm;have I:=di (t.1.ld (k0.G.getD j 0))
    obtain⟨a1,a2,D,E,H⟩:=n.1 j t k hg C;have m:((1+(pf (t.1.ld (k0.G.getD j 0))).toNat:Nat):Int)=1+pf (t.1.ld (k0.G.getD j 0)):=V;have P:=GB l _ _ (o _ hm) b a1 (by rw[m];exact a2) (by rw[m];exact D) ⟨E,H⟩ V;rw[m] at P;exact P)
  n.2.1 h0 h (fun g J w' l _=>?_)
 obtain⟨_,i,_⟩:=k9 l;obtain⟨_,b,_⟩:=gw i;have q:=(nT b).2.2.2;rw[u] at q;exact gO q
theorem GQ (h:(dd (de c k0 s vt cr) bp (dl c)).J F k w)(hl:k0.Y.length<=4000)(hp:∀a∈k0.Y,0<=a/\a<=2000){f:Option Addr}{g:Nat}(n:c.yv=.slice f k0.Y.length g):
 Calls prog 124 #[aj c.pk,.slice f k0.Y.length g,.func (.func 131) #[] #[aj bp]] w fun e w'=>∃d,e=.returned (.tuple #[])/\(dd (de c k0 s vt cr) bp (dl c)).J d (k.pj s k0.Y) w'/\b_ F w d w':=by
 have o:∀a∈k0.Y,a∈k0.T:=fun a ha=>List.mem_append.2 (aI ha)
 have E:=tX _ (fun(_:b8) a=>s.f a) (fun t a=>pf (t.ld a)) (fun k a=>k.cop a) (fun _ _=>True) k0.T c.pk k0.a.pw k0.a.p c.co 131 #[.pointer _] GL k0.Y f g F k w
  (by
    rintro F t l a p;obtain⟨_,b,_⟩:=gw p;obtain⟨c0,c3,c5,hM,q⟩:=hL b;refine⟨c0,c3,c5,hM,(fY a l q).mono ?_⟩
    rintro r w' ⟨rfl,u⟩
    have v:pf (t.ld a)=pf (ld k0.a.N t.s.y t.s.g t.s.ws a):=by unfold b8.ld;rw[b.2.1]
    exact⟨pk _,pc _,by rw[v],u⟩)
  (fun t a=>di _) (fun a ha=>⟨by have:=hp a ha;omega,o a ha⟩) V
  (fun j F t l _ _ i _=>GC i _ _)
  (fun _ _ _ _=>trivial) trivial h (fun d A w' i _=>by obtain⟨_,b,_⟩:=gw i;have m:=(nT b).2.2.1;rw[n] at m;exact gO m)
 refine E.mono ?_;rintro r w' ⟨d,rfl,b,x,_⟩
 exact⟨d,rfl,b,x⟩
end
theorem b_.less {X F c:Nat->Prop}{w w':au}(h:b_ X w F w')(hs:∀b,c b->F b):b_ X w c w':=⟨h.fr,fun b d=>h.sub b (hs b d)⟩
theorem GR {g:Type}{o:dP g}{bx:Nat}{x:Obj}{F:Nat->Prop}{w:au}{t:g}(h:(dd o bx x).J F t w):∃e,o.J e t w/\w.heap[bx]?=some x/\bx<w.heap.size/\(∀c f w1,o.J c f w1->b_ e w c w1->(dd o bx x).J (fun b=>c b\/b=bx) f w1/\b_ F w (fun b=>c b\/b=bx) w1)/\∀b,e b->F b:=by
 obtain⟨e,h,g2,g3,g4⟩:=h;refine⟨e,h,g2,lt_of_some g2,fun c f w1 i hT=>⟨⟨c,i,(hT.fr.block bx (lt_of_some g2) g3).trans g2,fun d=>(hT.sub bx d).elim g3 (fun d=>by have:=lt_of_some g2;omega),fun b=>Iff.rfl⟩,⟨hT.fr.mono (fun b hb=>(g4 b).2 (aJ hb)),fun b hb=>?_⟩⟩,fun b hb=>(g4 b).2 (aJ hb)⟩
 exact tY
section
variable {c:e4}{k:b8}{vt cr:Value}{F:Nat->Prop}{s:ct}{w:au}
theorem GS {G:Nat->b8×Int->Prop}(a0:il k s G)(a1:G 0 (k,0))(h:(cS c k vt cr).J F s w)(hl:k.T.length<=4000)(hp:∀a∈k.T,0<=a/\a<=2000):
 Calls prog 59 #[aj c.pk] w fun e w'=>∃J,e=.returned (.tuple #[])/\(cS c (k.sl s) vt cr).J J s w'/\b_ F w J w':=by
 have ck:k.T.length=k.G.length+k.Y.length:=by unfold b8.T;rw[aW]
 have l:av (_/\_/\(∀a∈k.G,0<=a/\a<=2000)/\(∀a∈k.Y,0<=a/\a<=2000)/\k.G.length<=4000/\k.Y.length<=4000):=⟨a0,a1,fun a ha=>hp a (List.mem_append.2 (aJ ha)),fun a ha=>hp a (List.mem_append.2 (aI ha)),V,V⟩
 have K:=(cS c k vt cr).lt h;obtain⟨w0,t⟩:∃w0,w.alloc (dl c)=w0:=⟨_,rfl⟩
 have a2:Below w.heap.size w w0:=by rw[<-t];exact an w (dl c)
 have a3:w0.heap.size=w.heap.size+1:=by rw[<-t];simp
 have bb:w0.heap[w.heap.size]?=some (dl c):=by rw[<-t];exact aL _ _
 obtain⟨w1,C⟩:∃w1,w0.alloc (j7 0)=w1:=⟨_,rfl⟩
 have L:Below w0.heap.size w0 w1:=by rw[<-C];exact an w0 (j7 0)
 have bd:w1.heap[w0.heap.size]?=some (j7 0):=by rw[<-C];exact aL _ _
 have M:=a2.trans (L.mono V)
 have N:(de c k s vt cr).J F k w1:=⟨(cS c k vt cr).below h M,rfl,rfl,rfl⟩
 have be:(dd (de c k s vt cr) w.heap.size (dl c)).J (fun b=>F b\/b=w.heap.size) k w1:=⟨F,N,(L.block _ V).trans bb,fun f=>by have:=K _ f;omega,fun b=>Iff.rfl⟩
 have bg:(gU (dd (de c k s vt cr) w.heap.size (dl c)) (w.heap.size+1)).J (fun b=>(F b\/b=w.heap.size)\/b=w.heap.size+1) (k,0) w1:=⟨_,be,by rw[<-a3];exact bd,fun f=>f.elim (fun f=>by have:=K _ f;omega) (fun f=>by omega),fun b=>Iff.rfl⟩
 have bi:=(ey h).2.2.1;obtain⟨_,bl,yr,gr⟩:=nT N;obtain⟨O,P,bn⟩:=dQ yr;obtain⟨D,gc,u⟩:=dQ gr;have cl:w1.cell? (am c.pk 2)=some (.slice D k.G.length gc):=by rw[bl,u]
 rw[u] at bi;have E:=hide bn;have bo:=hide u;have hd:=(ao w1).drew;have bp:av (b_ F w (fun b=>(F b\/b=w.heap.size)\/b=w.heap.size+1) w1.drew):=⟨(Fr.of (X:=F) M).trans (Fr.of (X:=F) hd) (fun b f=>aJ f),fun b f=>f.elim (fun f=>f.imp id (fun e=>by omega)) (fun e=>aI V)⟩
 have Q:=GP l.o.1 l.o.2.1 ((gU (dd (de c k s vt cr) w.heap.size (dl c)) (w.heap.size+1)).below bg hd) l.o.2.2.2.2.1 l.o.2.2.1 u;obtain⟨d,R⟩:∃d,gJ (fun _ a=>s.f a) (b8.iU s) (k,0) k.G=d:=⟨_,rfl⟩
 rw[R] at Q;have S:av (k.sl1 s=d.1.ar d.1.s.y d.2.toNat d.1.s.ws):=by show k.sl1 s=_;unfold b8.sl1 b8.lg;rw[R]
 have n:av (k.sl s=((k.sl2 s).ar 0 (k.sl2 s).s.g (k.sl2 s).s.ws).t8/\k.sl2 s=(k.sl1 s).pj s k.Y):=⟨rfl,rfl⟩
 generalize k.sl s=cm at n⊢;generalize k.sl2 s=cn at n;generalize k.sl1 s=co at n S;subst C;subst t;go_enter func59,ntmps59;go_wp2_with fail
 go_region_held3 (fun w'=>w'.cell? (am w.heap.size 0)=some (aj c.pk)/\w'.cell? (am c.pk 2)=some (.slice D k.G.length gc)) (go_keep)
  (first
    |(go_at_call 124;refine Q.mono ?_;rintro e w3 ⟨cp,rfl,cy,t3,g3⟩;have o:=ir cy (bp.o.trans t3) (l.o.1.2.2 _ g3);obtain⟨_,q1,_⟩:=k9 cy;obtain⟨_,p,q3,_⟩:=gw q1;obtain⟨_,br,_⟩:=nT p;have cq:w3.cell? (am w.heap.size 0)=some (aj c.pk):=ay q3;have cs:w3.cell? (am c.pk 2)=some (.slice D k.G.length gc):=(by rw[br,bo.o])))
 all_goals
  have v:av (∃m,(dd (de c k s vt cr) w.heap.size (dl c)).J m d.1 w3.drew/\b_ F w m w3.drew/\¬m (w.heap.size+1)/\w.heap.size+1<w3.heap.size):=by obtain⟨m,cz,dG,x,A⟩:=o.o.1;exact⟨m,(dd (de c k s vt cr) w.heap.size (dl c)).below cz (aD _ w3).drew,(o.o.2.1.less (fun b f=>(A b).2 (aJ f))).below (aD _ w3).drew,x,lt_of_some dG⟩
  obtain⟨m,cz,bs,n4,bt⟩:=v.o;obtain⟨U,dG,ct,cu,W,bx⟩:=GR cz;obtain⟨bY,_,bZ,_,_⟩:=hL dG;have b0:=(nP o.o.1).1;have B:=GM dG d.2 o.o.2.2.1 o.o.2.2.2;rw[<-S.o] at B;have v0:_=_:=bY;have b1:_=_:=bZ;have b2:av (∀g d w1,(de c k s vt cr).J g d w1->b_ U w3.drew g w1->_/\_):=fun g d w1 i j=>⟨(W g d w1 i j).1,bs.trans (W g d w1 i j).2⟩
  have Y:_/\¬U (w.heap.size+1):=⟨bt,fun f=>n4 (bx _ f)⟩
  go_wp2_with fail
  go_region_held3 (fun w'=>w'.cell? (am w.heap.size 0)=some (aj c.pk)/\w'.cell? (am c.pk 0)=some (aj k.a.pw)/\w'.cell? (am k.a.pw 0)=some (aj k.a.p)/\w'.cell? (am (w.heap.size+1) 0)=some (ah d.2)) (go_keep)
   (first
     |(go_at_call 130;refine B.mono ?_;rintro e q ⟨b3,rfl,x,ab⟩;obtain⟨r0,_,cv,_,_⟩:=hL x;obtain⟨A,b4⟩:=b2.o b3 _ q x ab;obtain⟨_,_,b5,_⟩:=gw A;have r1:q.cell? (am w.heap.size 0)=some (aj c.pk):=ay b5;have cw:=(aU (a:=⟨w.heap.size+1,0,none⟩) (ab.fr.block _ (by simpa using Y.1) Y.2)).trans b0;have H:=dC A b4))
  all_goals
   have v:=dC ((dd (de c k s vt cr) w.heap.size (dl c)).below H.o.1 (aD _ q).drew) (H.o.2.below (aD _ q).drew)
   have ad:=GQ v.o.1 l.o.2.2.2.2.2 l.o.2.2.2.1 E.o;rw[<-n.o.2] at ad;have cx:q.cell? (am c.pk 1)=some (.slice O k.Y.length P):=by obtain⟨_,p,_⟩:=gw H.o.1;exact(nT p).1.trans (by rw[E.o])
   go_wp2_with fail
   go_region_held3 (fun w'=>w'.cell? (am w.heap.size 0)=some (aj c.pk)/\w'.cell? (am c.pk 1)=some (.slice O k.Y.length P)) (go_keep)
    (first
      |(go_at_call 124;refine ad.mono ?_;rintro e ag ⟨cA,rfl,ai,b6⟩;obtain⟨_,p,q3,_⟩:=gw ai;have cB:ag.cell? (am w.heap.size 0)=some (aj c.pk):=ay q3;have m1:_=_:=(nT p).1.trans (by rw[E.o]);have al:=dC ai (v.o.2.trans b6)))
   all_goals
    obtain⟨b7,ap,cC,cD,ar⟩:=gw al.o.1;obtain⟨v0,_,b1,_,_⟩:=hL ap;have B:=GN ap;have b9:av (∀g d w1,(de c k s vt cr).J g d w1->b_ b7 ag g w1->_/\_):=fun g d w1 i j=>⟨(ar g d w1 i j).1,al.o.2.trans (ar g d w1 i j).2⟩
    go_wp2_with fail;refine B.mono ?_;rintro e I ⟨ca,rfl,cb,cc⟩
    obtain⟨cd,ce⟩:=b9.o ca _ I cb cc;obtain⟨cf,ax,cg,cE,aB⟩:=gw cd;have z0:I.cell? (am w.heap.size 0)=some (aj c.pk):=ay cg
    obtain⟨cF,_,_,_,_⟩:=hL ax;obtain⟨cG,aF⟩:=GO ax;rw[<-n.o.1] at aF;have ch:av (∀g d w1,(de c k s vt cr).J g d w1->b_ cf I g w1->_/\_):=fun g d w1 i j=>⟨(aB g d w1 i j).1,ce.trans (aB g d w1 i j).2⟩
    go_wp2_with fail;refine aF.mono ?_;rintro e ci ⟨aR,rfl,aT,cj⟩
    have aV:=dC aT.1 ((ch.o aR _ ci aT cj).2.less (fun b f=>aJ f))
    go_wp2_with fail;go_end0;exact⟨aR,rfl,aV.o.1,aV.o.2⟩
end
theorem zm (f:Nat)(c:Array Value)(p:Int->Bool)(m:d3 f)(w:au)(l:List Int)
 (hl:∀(w':au)(x:Int),x∈l->Below w.heap.size w w'->Calls prog f (#[ah x]++c) w' fun r s=>r=.returned (.bool (p x))/\Below w'.heap.size w' s)
 (n:Option Addr)(t:Nat)(hm:l.length<=100000)(hp:iF w n l):
 Calls prog 186 #[.slice n l.length t,.func (.func f) #[] c] w fun r w'=>Below w.heap.size w w'/\((r=.returned (ah (-1))/\∀e∈l,p e=false)\/∃i:Nat,r=.returned (ah i)/\i<l.length/\p (l.getD i 0)=true/\∀e∈l.take i,p e=false):=by
 have u:=hide hl;have v:=hide hp;have F:∀(args:Array Value)(w:au),_=_:=m;clear hl hp m;go_enter func186,ntmps186;go_wp2_with fail
 go_loopw [8] (fun iv wr=>∃j:Nat,j<=l.length/\iv=ah j/\av (∀e∈l.take j,p e=false)/\Below w.heap.size w wr) (fun iv _=>l.length-(intOf iv).toNat)
 case atStart=>exact⟨0,aS _,rfl,by simp[av,Hid],aD _ _⟩
 case round=>
  obtain⟨j,G,rfl,g,b⟩:=hrel;by_cases d:j<l.length
  ·obtain⟨H,I,A,J,hc⟩:=v.o.below b V;have B:=hc j d;have hd:l.getD j 0∈l:=by rw[aC,aG d];exact a6 d
   obtain⟨x,k⟩:∃x,l.getD j 0=x:=⟨_,rfl⟩
   have o:av (_=_):=k;rw[k] at B hd;have P:=u.o wr x hd b;clear hc k hd;subst A;go_wp2_with fail;refine P.mono ?_;rintro r w1 ⟨rfl,C⟩
   have q:=b.trans (C.mono b.size)
   cases hp:p x
   ·have D:av (∀e∈l.take (j+1),p e=false):=fun e he=>by
     rw[fz l j d 0,List.mem_append,bD] at he;rcases he with he|he
     ·exact g.o e he
     ·rw[he,o.o];exact hp
    go_wp2_with fail;go_roundw
    case rel=>exact⟨j+1,V,af,D,q⟩
    case measure=>simp[intOf];omega
   ·have E:av (p (l.getD j 0)=true):=by show _=_;rw[o.o];exact hp
    go_wp2_with fail;go_ret;exact⟨q,aI ⟨j,rfl,d,E.o,g.o⟩⟩
  ·obtain rfl:j=l.length:=V;rw[a_] at g;go_wp2_with fail;go_ret;exact⟨b,aJ ⟨rfl,g.o⟩⟩
theorem GT:d3 168:=gP func168 ae rfl
theorem GU {pk pw p q N O y g bx be:Nat}{ws:List Int}{e:Int}(w:au)(b:At w p q N O y g ws)(c0:w.cell? (am bx 0)=some (aj pk))(c1:w.cell? (am pk 0)=some (aj pw))(c2:w.cell? (am pw 0)=some (aj p))(c3:w.cell? (am be 0)=some (ah e))(a:Int)(ha:0<=a/\a<=100000):
 Calls prog 168 #[ah a,aj bx,aj be] w fun r w'=>r=.returned (.bool (decide (e<=a+pf (ld N y g ws a))))/\Below w.heap.size w w':=by
 have P:=fY a w b;have d:=di (ld N y g ws a)
 clear b;go_enter func168,ntmps168;go_wp2_with fail;refine P.mono ?_;clear P;rintro r w1 ⟨rfl,c⟩
 have f:=(c.cell (p:=am be 0) (aK w _ c3)).trans c3;clear c0 c1 c2 c3;go_wp2;go_ret;exact⟨by first|rfl|(done)|(omega),c⟩
def ed (p:Int->Bool)(l:List Int):List Int:=l.filter (fun x=>!p x)
theorem t9 (p:Int->Bool)(l:List Int)(x:Int):ed p (l++[x])=if p x=true then ed p l else ed p l++[x]:=by unfold ed;cases h:p x<;>simp[h]
theorem qM {p:Int->Bool}{l:List Int}(h:∀e∈l,p e=false):ed p l=l:=by unfold ed;rw[List.filter_eq_self];intro a ha;rw[h a ha];rfl
theorem zn {base size n g d i:Nat}{e:TypeId}:∀(c:List Value)(o:Nat){w:au}{xs:List Value},w.ownsRow base e size (.slice (ak g) n d) n xs->i<=o->∃b,(w.setCells g o c).ownsRow base e size (.slice (ak g) n d) n b/\b.take i=xs.take i
 |[],o,w,xs,h,_=>⟨xs,h,rfl⟩
 |v::c,o,w,xs,h,hi=>by
  obtain⟨b,f,j⟩:=zn c (o+1) (qD h o v) (by omega:i<=o+1)
  refine⟨b,f,j.trans ?_⟩
  rw[List.take_set_of_le hi]
theorem zo {g:Nat}:∀(c:List Value)(o:Nat)(w:au),Fr (fun b=>b=g) w (w.setCells g o c)
 |[],_,w=>Fr.refl _ w
 |v::c,o,w=>((Fr.refl (fun b=>b=g) w).set g o v rfl).trans (zo c (o+1) _) (fun _ e=>aJ e)
theorem GV (f:Nat)(c:Array Value)(p:Int->Bool)(I:d3 f)(w:au)(l:List Int)(g m B:Nat)
 (hl:∀(w':au)(x:Int),x∈l->Fr (fun b=>b=g) w w'->Calls prog f (#[ah x]++c) w' fun r ai=>r=.returned (.bool (p x))/\Below w'.heap.size w' ai)
 (hm:l.length<=100000)(D:w.ownsRow B 3 1 (.slice (ak g) l.length m) l.length (l.map (Value.int .i64))):
 Calls prog 167 #[.slice (ak g) l.length m,.func (.func f) #[] c] w fun r w'=>r=.returned (.slice (ak g) (ed p l).length m)/\w'.ownsRow B 3 1 (.slice (ak g) (ed p l).length m) (ed p l).length ((ed p l).map (Value.int .i64))/\Fr (fun b=>b=g) w w':=by
 have Q:=hide hl;have P:=zm f c p I w l (fun w' x E al=>Q.o w' x E (Fr.of al)) (ak g) m hm (gO D)
 have F:av (_):=D;have aF:=vE D;have aR:∀(args:Array Value)(w:au),(callFunc f args).run prog w=.ok (.enter f args) w:=I;clear hl D I;go_enter func167,ntmps167;go_wp2_with fail;refine P.mono ?_;clear P;rintro r w1 ⟨o,⟨rfl,t⟩|⟨n,rfl,R,S,t⟩⟩
 ·have U:av (ed p l=l/\w1.ownsRow B 3 1 (.slice (ak g) l.length m) l.length (l.map (Value.int .i64))/\Fr (fun b=>b=g) w w1):=⟨qM t,cv F.o (fun b e=>o.block b (ce F.o b e).2),Fr.of o⟩
  clear o t;go_wp2_with fail;go_ret;rw[U.o.1];exact⟨rfl,U.o.2⟩
 ·have ap:(n:Int)<l.length:=V;have W:av (ed p (l.take (n+1))=l.take n/\w1.ownsRow B 3 1 (.slice (ak g) l.length m) l.length (l.map (Value.int .i64))/\Fr (fun b=>b=g) w w1):=by
   refine⟨?_,cv F.o (fun b e=>o.block b (ce F.o b e).2),Fr.of o⟩
   rw[fz l n R 0,t9,aH S,qM t]
  clear t S o;go_wp2_with fail;have Y:((n:Int)==-1)=false:=by rw[beq_eq_false_iff_ne];omega
  rw[Y];clear Y
  go_loopw [5,6] (fun iv J wr=>∃(i j:Nat),i<j/\j<=l.length/\iv=ah i/\J=ah j/\av ((ed p (l.take j)).length=i/\wr.ownsRow B 3 1 (.slice (ak g) l.length m) l.length ((ed p (l.take j)++l.drop i).map (Value.int .i64))/\Fr (fun b=>b=g) w wr)) (fun _ J _=>l.length-(intOf J).toNat)
  ·
    refine⟨n,n+1,V,V,rfl,af,?_⟩
    obtain⟨u,G,K⟩:=W.o;refine⟨by rw[u,bf];omega,?_,K⟩
    rw[u,List.take_append_drop];exact G
  ·
    clear W R ap;obtain⟨i,j,aT,aV,rfl,rfl,d⟩:=hrel;by_cases q:j<l.length
    ·have hd:l.getD j 0∈l:=by rw[aC,aG q];exact a6 q
     have E:((ed p (l.take j)++l.drop i).map (Value.int .i64))[j]?=some (ah (l.getD j 0)):=by have e:=d.o.1;rw[bq,List.getElem?_append_right V,List.getElem?_drop,e,show i+(j-i)=j from by omega,aG q,aC,aG q];rfl
     have ab:=(e8 d.o.2.1 E).1;have P:=Q.o wr (l.getD j 0) hd d.o.2.2;have v:av (_=_):=fz l j q 0;generalize l.getD j 0=x at ab P v;have j0:(0:Int)<=(j:Int):=V;have a0:(j:Int)<l.length:=V;have n:(0:Int)<=(i:Int):=V;have ar:(i:Int)<l.length:=V;clear E hd;go_wp2_with fail;refine P.mono ?_;clear P ab;rintro r A ⟨rfl,L⟩
     have s:=dC (cv d.o.2.1 (fun b e=>L.block b (ce d.o.2.1 b e).2)) (d.o.2.2.trans (Fr.of (X:=fun b=>b=g) L) (fun _ C=>aJ C))
     clear L;cases hp:p x
     ·have hy:∃y,((ed p (l.take j)++l.drop i).map (Value.int .i64))[i]?=some (Value.int .i64 y):=by
       have e:=d.o.1;have M:i<l.length:=V;refine⟨l[i],?_⟩
       rw[bq,List.getElem?_append_right V,List.getElem?_drop,e,Nat.sub_self,Nat.add_zero,aG M];rfl
      obtain⟨y,hy⟩:=hy;obtain⟨y1,a1⟩:=e8 s.o.1 hy;have N:av ((ed p (l.take (j+1))).length=i+1/\(A.setCell ⟨g,i,none⟩ (.int .i64 x)).ownsRow B 3 1 (.slice (ak g) l.length m) l.length ((ed p (l.take (j+1))++l.drop (i+1)).map (Value.int .i64))/\Fr (fun b=>b=g) w (A.setCell ⟨g,i,none⟩ (.int .i64 x))):=by
       have e:=d.o.1;have M:i<l.length:=V;have eT:ed p (l.take (j+1))=ed p (l.take j)++[x]:=by rw[v.o,t9,hp];rfl
       refine⟨by rw[eT,aW,e];rfl,?_,s.o.2.trans ((Fr.refl (fun b=>b=g) A).set g i _ rfl) (fun _ C=>aJ C)⟩
       have H:=qD s.o.1 i (Value.int .i64 x)
       have ax:((ed p (l.take j)++l.drop i).map (Value.int .i64)).set i (ah x)=(ed p (l.take (j+1))++l.drop (i+1)).map (Value.int .i64):=by rw[eT,<-List.map_set,List.set_append_right _ _ V,e,Nat.sub_self,List.drop_eq_getElem_cons M,List.set_cons_zero,bj];rfl
       rw[ax] at H;exact H
      clear hp hy d s v;go_wp2_with fail;go_roundw;exact⟨i+1,j+1,V,V,af,af,N⟩
      simp[intOf];omega
     ·have N:av ((ed p (l.take (j+1))).length=i/\A.ownsRow B 3 1 (.slice (ak g) l.length m) l.length ((ed p (l.take (j+1))++l.drop i).map (Value.int .i64))/\Fr (fun b=>b=g) w A):=by
       have eT:ed p (l.take (j+1))=ed p (l.take j):=by rw[v.o,t9,hp];rfl
       rw[eT];exact⟨d.o.1,s.o⟩
      clear hp d s v;go_wp2_with fail;go_roundw;exact⟨i,j+1,V,V,rfl,af,N⟩
      simp[intOf];omega
    ·obtain rfl:j=l.length:=V;have O:((ed p (l.take l.length)++l.drop i).map (Value.int .i64)).length=l.length:=by have e:=d.o.1;rw[aQ,aW,e,List.length_drop];omega
     have a2:∀ty,(Builtin.clear_ #[96] ty #[.slice (some ⟨g,i,none⟩) (l.length-i) (m-i)]).run prog wr=.ok (.tuple #[]) (wr.setCells g i (List.replicate (l.length-i) (ah 0))):=fun ty=>
      Lib.run_clear_slice wr _ _ ty _ underlying96 (fun w=>lE w) rfl rfl g i _ _ V (fun k hk=>by rw[(e8 d.o.2.1 (aG (by rw[O];omega:i+k<_))).1];rfl) (fun k hk=>(e8 d.o.2.1 (aG (by rw[O];omega:i+k<_))).2)
     have ad:av ((ed p l).length=i/\(wr.setCells g i (List.replicate (l.length-i) (ah 0))).ownsRow B 3 1 (.slice (ak g) i m) i ((ed p l).map (Value.int .i64))/\Fr (fun b=>b=g) w (wr.setCells g i (List.replicate (l.length-i) (ah 0)))):=by
      obtain⟨u,G,K⟩:=d.o;rw[a_] at u G;refine⟨u,?_,K.trans (zo _ _ _) (fun _ C=>aJ C)⟩
      obtain⟨xs,aB,H⟩:=zn (i:=i) (List.replicate (l.length-i) (Value.int .i64 0)) i G bW
      have ag:=vD aB i V;rw[H,bA,List.take_append_of_le_length (by simp;omega),List.take_of_length_le (by simp;omega)] at ag;exact ag
     have n:(0:Int)<=(i:Int):=V;have ar:(i:Int)<l.length:=V;clear q d O;go_wp2_with fail;go_ret;rw[ad.o.1];exact⟨rfl,ad.o.2⟩
def ec.j0 (a:Wc)(s:ec):b8:=⟨a,s,ed (fun x=>decide ((s.y:Int)<=x+pf (ld a.N s.y s.g s.ws x))) (dS a.N s.y s.g s.ws),ed (fun x=>decide ((a.N:Int)+s.g<=x+pf (ld a.N s.y s.g s.ws x))) (dw a.N s.y s.g s.ws)⟩
def gF:ct:=⟨fun _=>-1,[],[]⟩
def ck.j2 (a:Wc)(S:ck):ct×List bZ:=(S.s.j0 a).sp ((S.s.j0 a).cJ gF 12,S.q)
def ck.cy (a:Wc)(S:ck):ct:=((S.s.j0 a).eO (S.j2 a) S.r).1
def ck.r3 (a:Wc)(S:ck):List bZ:=(S.s.j0 a).sR (S.j2 a) S.r
def ck.q3 (a:Wc)(S:ck):List bZ:=(S.s.j0 a).i5 (S.j2 a) S.r
def ck.cz (a:Wc)(S:ck):ct:=((S.s.j0 a).pl (S.cy a)).1
def ck.n4 (a:Wc)(S:ck):Int:=((S.s.j0 a).pl (S.cy a)).2-a.N
def ck.fD (a:Wc)(S:ck):Bool:=decide ((a.O:Int)<S.n4 a)
def ck.k5 (a:Wc)(S:ck):b8:=(S.s.j0 a).eW (S.cz a)
def ck.dG (a:Wc)(S:ck):ct:=((S.k5 a).tS (S.cz a,S.q3 a) (S.r3 a)).1
def ck.k6 (a:Wc)(S:ck):b8:=(S.k5 a).sl (S.dG a)
def ck.dA (a:Wc)(S:ck):ck:=if S.fD a=true then S else⟨(S.k6 a).s,(S.k5 a).tR (S.cz a,S.q3 a) (S.r3 a),(S.k5 a).hP (S.cz a,S.q3 a) (S.r3 a)⟩
def ck.hQ (a:Wc)(S:ck):Int:=if S.fD a=true then 3 else 0
section
variable {a:Wc}{s:ec}
theorem zp {p:Int->Bool}{l:List Int}{x:Int}(h:x∈ed p l):x∈l:=(List.mem_filter.1 h).1
theorem zq (p:Int->Bool)(l:List Int):(ed p l).length<=l.length:=bk _ _
theorem cU.start (hN:a.N<=256)(hO:a.O<=1024)(hy:s.y<=a.N)(hg:s.g<=a.O):cU (s.j0 a) gF:=by
 have f:∀x∈(s.j0 a).Y,0<=x/\x<s.y:=fun x b=>by
  have c:=mz x (zp b)
  omega
 have g:∀x∈(s.j0 a).G,(a.N:Int)<=x/\x<(a.N:Int)+s.g:=fun x b=>by
  have c:=mo _ _ x (zp b)
  omega
 have nd:(s.j0 a).T.Nodup:=by
  unfold b8.T;rw[List.nodup_append];refine⟨(qK 2000 _).filter _,(qK 2000 0).filter _,fun x b z hz e=>?_⟩
  have c:=g x b;have i:=f z hz;omega
 have tl:(s.j0 a).T.length<=4000:=by
  unfold b8.T;rw[aW];have c:(s.j0 a).G.length<=2000:=aP (zq _ _) (iz _ _)
  have i:(s.j0 a).Y.length<=2000:=aP (zq _ _) (iz _ _)
  omega
 refine⟨nd,fun x b=>?_,fun x b=>by simp[gF] at b,fun x b=>by simp[gF] at b,tl,?_⟩
 ·rcases List.mem_append.1 b with d|d
  ·have:=g x d;omega
  ·have:=f x d;omega
 ·exact bk _ _
end
def b8.nU (k:b8)(s:ct)(a:Int):Prop:=∀i:Nat,(i:Int)<pf (k.ld a)->k.cQ s (k.ld (a+1+i))=false
section
variable {k:b8}{C X:Int->Prop}{s:ct}
theorem b8.pm {x:Int}(h:k.jt x=true):k.cQ s x=false↔s.f (cf x)≠-1:=by unfold b8.cQ;rw[h,Bool.true_and,beq_eq_false_iff_ne]
theorem nV {x:Int}(h:k.jt x=true):cf x∈k.T:=by unfold b8.jt at h;rw[ba] at h;exact List.contains_iff_mem.1 h.2
structure dO (k:b8)(s t:ct):Prop where
 f:∀b,s.f b≠-1->t.f b=s.f b
theorem dO.cQ {t:ct}(h:dO k s t){y:Int}(hy:k.cQ s y=false):k.cQ t y=false:=by
 cases hj:k.jt y
 ·unfold b8.cQ;rw[hj];rfl
 ·rw[b8.pm hj] at hy⊢;rw[h.f _ hy];exact hy
theorem dO.refl (s:ct):dO k s s:=⟨fun _ _=>rfl⟩
theorem dO.trans {t u:ct}(h:dO k s t)(j:dO k t u):dO k s u:=⟨fun b c=>by have e:=h.f b c;rw[j.f b (by rw[e];exact c),e]⟩
theorem dO.nU {t:ct}(h:dO k s t){a:Int}(ha:k.nU s a):k.nU t a:=fun i hi=>h.cQ (ha i hi)
end
structure mS (k:b8)(s:ct)(a:Int):Prop where
 p:pk (k.ld a)=1\/pk (k.ld a)=2->k.nU s a
 w:pk (k.ld a)=3->k.cQ s (k.ld (a+2))=false
 e:pk (k.ld a)=4->a∈s.ep\/k.cQ s (k.ld (a+2))=false
structure cZ (k:b8)(X:Int->Prop)(s:ct):Prop where
 eS:cU k s
 self:∀a∈k.T,s.f a≠-1->s.f a=a
 td:∀a∈s.td,s.f a≠-1
 cmp:∀a∈k.T,s.f a≠-1->a∈s.td\/X a\/mS k s a
section
variable {k:b8}{X:Int->Prop}{s t:ct}
theorem mS.le {a:Int}(h:mS k s a)(l:dO k s t)(he:∀b∈s.ep,b∈t.ep):mS k t a:=
 ⟨fun q=>l.nU (h.p q),fun q=>l.cQ (h.w q),fun q=>(h.e q).imp (he a) l.cQ⟩
theorem qN (k:b8)(s:ct)(x:Int):(k.ma s x).ep=s.ep:=by unfold b8.ma;split<;>rfl
theorem cZ.ma (h:cZ k X s)(x:Int):cZ k X (k.ma s x)/\dO k s (k.ma s x)/\k.cQ (k.ma s x) x=false:=by
 by_cases c:k.cQ s x=true
 ·obtain⟨p,m,n⟩:=b8.qG c;have hp:=(h.eS.ps _ m).1;have o:k.jt x=true:=by unfold b8.cQ at c;rw[ba] at c;exact c.1
  have e:k.ma s x={s with f:=gq s.f (cf x) (cf x),td:=s.td++[cf x]}:=by unfold b8.ma;rw[aH c]
  have j:∀b,(k.ma s x).f b=if b=cf x then cf x else s.f b:=fun b=>by rw[e];rfl
  have l:(k.ma s x).td=s.td++[cf x]:=by rw[e]
  have le:dO k s (k.ma s x):=⟨fun b d=>by rw[j,aE (fun e=>d (by rw[e];exact n))]⟩
  refine⟨⟨(h.eS.ma x).1,fun b d i=>?_,fun b d=>?_,fun b d i=>?_⟩,le,?_⟩
  ·rw[j] at i⊢;by_cases g:b=cf x
   ·rw[aH g,g]
   ·rw[aE g] at i⊢;exact h.self b d i
  ·rw[l] at d;rw[j];by_cases g:b=cf x
   ·rw[aH g];omega
   ·rw[aE g];rcases List.mem_append.1 d with d|d
    ·exact h.td b d
    ·exact absurd (List.mem_singleton.1 d) g
  ·rw[l];by_cases g:b=cf x
   ·exact aJ (by rw[g];simp)
   ·rw[j,aE g] at i;rcases h.cmp b d i with q|q|q
    ·exact aJ (aZ _ q)
    ·exact aI (aJ q)
    ·exact aI (aI (q.le le (fun b d=>by rw[qN];exact d)))
  ·rw[b8.pm o,j,aH rfl];omega
 ·have e:k.ma s x=s:=by unfold b8.ma;rw[aE c]
  rw[e];exact⟨h,dO.refl _,by simpa using c⟩
theorem GW (k:b8)(s:ct)(a:Int):∀n,(k.e3 s a n).ep=s.ep
 |0=>rfl
 |n+1=>(qN _ _ _).trans (GW k s a n)
theorem cZ.e3 (h:cZ k X s)(a:Int):∀n:Nat,cZ k X (k.e3 s a n)/\dO k s (k.e3 s a n)/\∀i:Nat,i<n->k.cQ (k.e3 s a n) (k.ld (a+1+i))=false
 |0=>⟨h,dO.refl _,fun i hi=>V⟩
 |n+1=>by obtain⟨h1,h2,h3⟩:=cZ.e3 h a n;exact zl
theorem cZ.lk {x:Int}(h:cZ k (fun b=>b=x) s)(l:x∈k.T)(m:k.lost s+s.td.length+s.ep.length+1<=k.T.length):cZ k (fun _=>False) (k.lk s x)/\dO k s (k.lk s x):=by
 have d:∀u:ct,cZ k (fun b=>b=x) u->mS k u x->cZ k (fun _=>False) u:=fun u e n=>⟨e.eS,e.self,e.td,fun a ha f=>by
  rcases e.cmp a ha f with q|q|q
  ·exact aJ q
  ·rw[q];exact aI (aI n)
  ·exact aI (aI q)⟩
 have c:=(h.eS.lk l m).1;unfold b8.lk at c⊢;by_cases c1:pk (k.ld x)=1\/pk (k.ld x)=2
 ·rw[aH c1];obtain⟨m1,g,j⟩:=h.e3 x _;exact⟨d _ m1 ⟨fun _ i hi=>j i V,fun q=>V,fun q=>V⟩,g⟩
 ·rw[aE c1] at c⊢;by_cases c3:pk (k.ld x)=3
  ·rw[aH c3];obtain⟨m1,g,j⟩:=h.ma _;exact⟨d _ m1 ⟨fun q=>absurd q c1,fun _=>j,fun q=>V⟩,g⟩
  ·rw[aE c3] at c⊢;by_cases c4:pk (k.ld x)=4
   ·rw[aH c4] at c⊢;have le:dO k s {s with ep:=s.ep++[x]}:=⟨fun _ _=>rfl⟩
    refine⟨d _ ⟨c,h.self,h.td,fun a ha f=>?_⟩ ⟨fun q=>absurd q c1,fun q=>absurd q c3,fun _=>aJ Z⟩,le⟩
    exact(h.cmp a ha f).imp id (fun q=>q.imp id (fun q=>q.le le (fun b o=>aZ _ o)))
   ·rw[aE c4];exact⟨d _ h ⟨fun q=>absurd q c1,fun q=>absurd q c3,fun q=>absurd q c4⟩,dO.refl _⟩
theorem cZ.l1 (h:cZ k (fun _=>False) s)(hl:0<s.td.length):cZ k (fun _=>False) (k.l1 s)/\dO k s (k.l1 s):=by
 obtain⟨x,d⟩:∃x,s.td.getD (s.td.length-1) 0=x:=⟨_,rfl⟩
 have hm:x∈s.td:=by rw[<-d,aC,aG V];exact a6 _
 have f:∀b,b∈s.td->b∈s.td.take (s.td.length-1)\/b=x:=fun b c=>by
  have e:=fz s.td (s.td.length-1) V 0;rw[show s.td.length-1+1=s.td.length from by omega,a_,d] at e;have g:b∈s.td.take (s.td.length-1)++[x]:=by rw[<-e];exact c
  rcases List.mem_append.1 g with c|c
  ·exact aJ c
  ·exact aI (List.mem_singleton.1 c)
 have hs:=h.eS.sum;have m:(s.td.take (s.td.length-1)).length=s.td.length-1:=by rw[bf];omega
 have j0:cU k {s with td:=s.td.take (s.td.length-1)}:=⟨h.eS.nd,h.eS.ps,fun a ha=>h.eS.td a (bE ha),h.eS.ep,h.eS.tl,by show k.lost s+(s.td.take _).length+s.ep.length<=_;omega⟩
 have h0:cZ k (fun b=>b=x) {s with td:=s.td.take (s.td.length-1)}:=⟨j0,h.self,fun a ha=>h.td a (bE ha),fun a ha i=>by
  rcases h.cmp a ha i with q|q|q
  ·exact(f a q).imp id aJ
  ·exact absurd q id
  ·exact aI (aI ⟨q.p,q.w,q.e⟩)⟩
 obtain⟨m1,j⟩:=h0.lk (h.eS.td x hm) (by show k.lost s+(s.td.take _).length+s.ep.length+1<=_;omega)
 have l:k.l1 s=k.lk {s with td:=s.td.take (s.td.length-1)} x:=by unfold b8.l1;rw[d]
 rw[l];exact⟨m1,⟨fun b c=>j.f b c⟩⟩
theorem cZ.lm:∀(n:Nat){s:ct},cZ k (fun _=>False) s->cZ k (fun _=>False) (k.lm n s)/\dO k s (k.lm n s)
 |0,s,h=>⟨h,dO.refl _⟩
 |n+1,s,h=>by
  unfold b8.lm;by_cases c:0<s.td.length
  ·rw[aH c];obtain⟨b,d⟩:=h.l1 c;obtain⟨e,j2⟩:=cZ.lm n b;exact⟨e,d.trans j2⟩
  ·rw[aE c];exact⟨h,dO.refl _⟩
theorem cZ.eI (h:cZ k (fun _=>False) s):cZ k (fun _=>False) (k.eI s)/\dO k s (k.eI s)/\(k.eI s).td=[]:=by obtain⟨b,c⟩:=cZ.lm _ h;exact⟨b,c,FY h.eS⟩
theorem cZ.ik:∀(l:List Int){t:List Int×ct},cZ k X t.2->cZ k X (l.foldl k.cO t).2/\dO k t.2 (l.foldl k.cO t).2/\(l.foldl k.cO t).2.ep=t.2.ep/\(∀a∈t.1,a∈(l.foldl k.cO t).1)/\∀a∈l,a∈(l.foldl k.cO t).1\/k.cQ (l.foldl k.cO t).2 (k.ld (a+2))=false
 |[],t,h=>⟨h,dO.refl _,rfl,fun _ q=>q,fun a ha=>by cases ha⟩
 |a::l,t,h=>by
  have key:cZ k X (k.cO t a).2/\dO k t.2 (k.cO t a).2/\(k.cO t a).2.ep=t.2.ep/\(∀b∈t.1,b∈(k.cO t a).1)/\(a∈(k.cO t a).1\/k.cQ (k.cO t a).2 (k.ld (a+2))=false):=by
   unfold b8.cO;split
   ·exact⟨h,dO.refl _,rfl,fun b c=>aZ _ c,aJ Z⟩
   ·obtain⟨m1,g,i⟩:=h.ma _;exact⟨m1,g,qN _ _ _,fun _ c=>c,aI i⟩
  obtain⟨k1,j,m,n,k5⟩:=key;obtain⟨o,d,p,f,s⟩:=cZ.ik l k1;refine⟨o,j.trans d,p.trans m,fun b c=>f b (n b c),fun b c=>?_⟩
  rcases List.mem_cons.1 c with e|c
  ·rw[e];exact k5.imp (f a) d.cQ
  ·exact s b c
theorem cZ.kv (h:cZ k (fun _=>False) s):cZ k (fun _=>False) (k.kv s).2/\dO k s (k.kv s).2:=by
 obtain⟨b,e,f,_,g⟩:=cZ.ik s.ep (t:=([],s)) h;have b:=b;have le:dO k (k.dx s s.ep).2 (k.kv s).2:=⟨fun _ _=>rfl⟩
 refine⟨⟨h.eS.kv.1,b.self,b.td,fun a ha i=>?_⟩,e.trans le⟩
 rcases b.cmp a ha i with q|q|q
 ·exact aJ q
 ·exact absurd q id
 ·refine aI (aI ⟨fun c=>le.nU (q.p c),fun c=>le.cQ (q.w c),fun c=>?_⟩)
  rcases q.e c with d|d
  ·rw[f] at d;exact(g a d).imp id le.cQ
  ·exact aI (le.cQ d)
theorem zr:∀(l:List Int)(t:List Int×ct),t.1.length+l.length<=(l.foldl k.cO t).1.length->l.foldl k.cO t=(t.1++l,t.2)/\∀a∈l,k.cQ t.2 (k.ld (a+1))=true
 |[],t,_=>⟨Z,fun a ha=>by cases ha⟩
 |a::l,t,h=>by
  have g:∀(l:List Int)(t:List Int×ct),(l.foldl k.cO t).1.length<=t.1.length+l.length:=fun l=>by
   induction l with
   |nil=>intro t;simp
   |cons b l i=>
    intro t;rw[a8];have q:=i (k.cO t b)
    have f:(k.cO t b).1.length<=t.1.length+1:=by
     unfold b8.cO;split
     ·simp
     ·simp
    simp only [List.length_cons];omega
  rw[a8] at h⊢;simp only [List.length_cons] at h;by_cases c:k.cQ t.2 (k.ld (a+1))=true
  ·have e:k.cO t a=(t.1++[a],t.2):=by unfold b8.cO;rw[aH c]
   rw[e] at h⊢;obtain⟨q1,f⟩:=zr l (t.1++[a],t.2) (by simp only [List.length_append,List.length_cons,List.length_nil];omega)
   rw[q1];refine⟨Z,fun b d=>?_⟩
   rcases List.mem_cons.1 d with e|d
   ·rw[e];exact c
   ·exact f b d
  ·have e:k.cO t a=(t.1,k.ma t.2 (k.ld (a+2))):=by unfold b8.cO;rw[aE c]
   rw[e] at h;have:=g l (t.1,k.ma t.2 (k.ld (a+2)))
   dsimp only at this
   omega
theorem GX (h:(k.kv s).1=false):(k.kv s).2=s/\∀a∈s.ep,k.cQ s (k.ld (a+1))=true:=by
 have c:=of_decide_eq_false h;obtain⟨q1,b⟩:=zr s.ep ([],s) (by show 0+s.ep.length<=(k.dx s s.ep).1.length;omega)
 have q1:k.dx s s.ep=(s.ep,s):=by have:k.dx s s.ep=([]++s.ep,s):=q1;simpa using this
 refine⟨?_,b⟩
 unfold b8.kv;rw[q1]
end
structure fE (k:b8)(s:ct)(q:List bZ):Prop where
 jE:cZ k (fun _=>False) s
 td:s.td=[]
 ep:∀a∈s.ep,k.cQ s (k.ld (a+1))=true
 wq:∀e∈q,k.al s e.2=true\/k.al s e.1=false
section
variable {k:b8}{s:ct}
theorem zs {t:ct}(l:dO k s t){x:Int}(h:k.al s x=true):k.al t x=true:=by unfold b8.al at h⊢;rw[l.cQ (by simpa using h)];rfl
theorem GG {b:Type}(l:List b)(i:Nat)(c:b):l.set i (l.getD i c)=l:=by
 by_cases h:i<l.length
 ·rw[aC,aG h];simp
 ·rw[List.set_eq_of_length_le V]
theorem cZ.j9:∀(l:List Nat)(t:(ct×List bZ)×Bool),cZ k (fun _=>False) t.1.1->cZ k (fun _=>False) (l.foldl (dB k.al k.mp) t).1.1/\dO k t.1.1 (l.foldl (dB k.al k.mp) t).1.1/\(l.foldl (dB k.al k.mp) t).1.2=t.1.2/\
 ((l.foldl (dB k.al k.mp) t).2=false->t.2=false/\l.foldl (dB k.al k.mp) t=t/\∀i∈l,k.al t.1.1 (t.1.2.getD i (0,0)).2=true\/k.al t.1.1 (t.1.2.getD i (0,0)).1=false)
 |[],t,h=>⟨h,dO.refl _,rfl,fun e=>⟨e,rfl,fun i hi=>by cases hi⟩⟩
 |i::l,t,h=>by
  rw[a8];by_cases c:(k.al t.1.1 (t.1.2.getD i (0,0)).2||!k.al t.1.1 (t.1.2.getD i (0,0)).1)=true
  ·have e:dB k.al k.mp t i=t:=by unfold dB;rw[aH c]
   rw[e];obtain⟨b,d,f,g⟩:=cZ.j9 l t h;refine⟨b,d,f,fun q=>?_⟩
   obtain⟨q1,n,q3⟩:=g q;refine⟨q1,n,fun j m=>?_⟩
   rcases List.mem_cons.1 m with e|m
   ·rw[e];rw[Bool.or_eq_true] at c;exact c.imp id (fun c=>by simpa using c)
   ·exact q3 j m
  ·have e:dB k.al k.mp t i=((k.ma t.1.1 (t.1.2.getD i (0,0)).2,t.1.2),true):=by exact zk
   rw[e];obtain⟨m1,o,_⟩:=h.ma _;obtain⟨b,d,f,g⟩:=cZ.j9 l ((k.ma t.1.1 _,t.1.2),true) m1;refine⟨b,o.trans d,f,fun q=>?_⟩
   have:=(g q).1;cases this
theorem cZ.wa {t:ct×List bZ}(h:cZ k (fun _=>False) t.1):cZ k (fun _=>False) (k.wa t).1.1/\dO k t.1 (k.wa t).1.1/\(k.wa t).1.2=t.2/\((k.wa t).2=false->(k.wa t).1=t/\∀e∈t.2,k.al t.1 e.2=true\/k.al t.1 e.1=false):=by
 obtain⟨b,c,d,f⟩:=cZ.j9 _ (t,false) h;refine⟨b,c,d,fun q=>?_⟩
 obtain⟨_,g,q3⟩:=f q;refine⟨?_,fun e he=>?_⟩
 ·show(gC k.al k.mp t _).1=t;unfold gC;rw[g]
 ·obtain⟨i,hi,j⟩:=List.mem_iff_getElem.1 he;have:=q3 i (by simpa using hi)
  have l:t.2.getD i (0,0)=e:=by rw[aC,aG hi,j];rfl
  rw[l] at this
  exact this
theorem cZ.cV:∀(n:Nat)(t:ct×List bZ),cZ k (fun _=>False) t.1->cZ k (fun _=>False) (k.cV n t).1/\dO k t.1 (k.cV n t).1/\(k.cV n t).2=t.2/\(k.mu t.1<n->fE k (k.cV n t).1 (k.cV n t).2)
 |0,t,h=>⟨h,dO.refl _,rfl,fun e=>V⟩
 |n+1,t,h=>by
  obtain⟨l1,l2,j⟩:=h.eI;obtain⟨v1,v2⟩:=l1.kv;have m1:=(du.eI h.eS).mu;obtain⟨s,l⟩:=du.kv l1.eS;unfold b8.cV;by_cases c:(k.kv (k.eI t.1)).1=true
  ·rw[aH c];obtain⟨d,f,g,i⟩:=cZ.cV n ((k.kv _).2,t.2) v1;have:=l c;exact⟨d,(l2.trans v2).trans f,g,fun e=>i (by dsimp only;omega)⟩
  ·rw[aE c];have c2:(k.kv (k.eI t.1)).1=false:=by simpa using c
   obtain⟨s1,s2⟩:=GX c2;rw[s1];obtain⟨w1,m,w3,o⟩:=cZ.wa (t:=(k.eI t.1,t.2)) l1;by_cases b:(k.wa (k.eI t.1,t.2)).2=true
   ·rw[aH b];obtain⟨d,f,g,i⟩:=cZ.cV n _ w1;have:=(du.wa l1.eS).2.2 b;dsimp only at this
    exact⟨d,(l2.trans m).trans f,g.trans w3,fun e=>i V⟩
   ·rw[aE b];have p:(k.wa (k.eI t.1,t.2)).2=false:=by simpa using b
    obtain⟨q1,q⟩:=o p;rw[q1];exact⟨l1,l2,rfl,fun _=>⟨l1,j,s2,q⟩⟩
theorem cZ.sp {t:ct×List bZ}(h:cZ k (fun _=>False) t.1):fE k (k.sp t).1 (k.sp t).2/\dO k t.1 (k.sp t).1/\(k.sp t).2=t.2:=by obtain⟨e,b,c,d⟩:=cZ.cV _ t h;exact⟨d V,b,c⟩
theorem cZ.ke {t:ct×List bZ}(h:cZ k (fun _=>False) t.1)(x:Int):fE k (k.ke t x).2.1 (k.ke t x).2.2/\dO k t.1 (k.ke t x).2.1/\(k.ke t x).2.2=t.2/\k.al (k.ke t x).2.1 x=true:=by
 obtain⟨m1,c,d⟩:=h.ma x;obtain⟨e,b,f⟩:=cZ.sp (t:=(k.ma t.1 x,t.2)) m1;refine⟨e,c.trans b,f,?_⟩
 show(!k.cQ (k.sp (k.ma t.1 x,t.2)).1 x)=true;rw[(b.cQ d)];rfl
def b8.fu (k:b8):ct×List bZ->bZ->Bool×(ct×List bZ):=cm (dK ct) (fun s x=>k.al s.1 x) k.ke
theorem fE.cm {t:ct×List bZ}(h:fE k t.1 t.2)(e:bZ):fE k (k.fu t e).2.1 (k.fu t e).2.2/\dO k t.1 (k.fu t e).2.1:=by
 unfold b8.fu;cases c:k.al t.1 e.1
 ·rw[nu (o:=dK ct) (is:=fun s x=>k.al s.1 x) (kp:=k.ke) (s:=t) (e:=e) c];exact⟨h,dO.refl _⟩
 ·rw[ny (o:=dK ct) (is:=fun s x=>k.al s.1 x) (kp:=k.ke) (s:=t) (e:=e) c];obtain⟨b,d,i,f⟩:=h.jE.ke e.2;show fE k (k.ke t e.2).2.1 ((k.ke t e.2).2.2++[(e.1,e.2)])/\dO k t.1 (k.ke t e.2).2.1;refine⟨⟨b.jE,b.td,b.ep,fun g hd=>?_⟩,d⟩
  rcases List.mem_append.1 hd with hd|hd
  ·exact b.wq g hd
  ·rw[List.mem_singleton.1 hd];exact aJ f
theorem fE.pl:∀(l:List bZ)(u:List bZ×List bZ×(ct×List bZ)),fE k u.2.2.1 u.2.2.2->fE k (l.foldl (ej k.fu) u).2.2.1 (l.foldl (ej k.fu) u).2.2.2/\dO k u.2.2.1 (l.foldl (ej k.fu) u).2.2.1
 |[],u,h=>⟨h,dO.refl _⟩
 |e::l,u,h=>by
  have key:(ej k.fu u e).2.2=(k.fu u.2.2 e).2:=by unfold ej;split<;>rfl
  obtain⟨c1,c2⟩:=h.cm e;rw[<-key] at c1 c2;obtain⟨b,c⟩:=fE.pl l _ c1;exact⟨b,c2.trans c⟩
theorem fE.eD:∀(n:Nat)(t:ct×List bZ)(b:List bZ),fE k t.1 t.2->fE k (eD k.fu n t b).1.1 (eD k.fu n t b).1.2/\dO k t.1 (eD k.fu n t b).1.1
 |0,t,b,h=>⟨h,dO.refl _⟩
 |n+1,t,b,h=>by
  obtain⟨d,e⟩:=fE.pl b ([],[],t) h;have d:fE k (pts k.fu t b).2.2.1 (pts k.fu t b).2.2.2:=d;have e:dO k t.1 (pts k.fu t b).2.2.1:=e;by_cases c:(pts k.fu t b).1.length=0
  ·rw[lN _ _ _ _ c];exact⟨d,e⟩
  ·rw[lO _ _ _ _ c];obtain⟨f,g⟩:=fE.eD n (pts k.fu t b).2.2 (pts k.fu t b).2.1 d;exact⟨f,e.trans g⟩
theorem fE.eO {t:ct×List bZ}(h:fE k t.1 t.2)(r:List bZ):fE k (k.eO t r).1 (k.eO t r).2/\dO k t.1 (k.eO t r).1:=fE.eD _ t _ h
theorem cZ.start (h:cU k gF){X:Int->Prop}:cZ k X gF:=⟨h,fun _ _ b=>absurd rfl b,fun _ ha=>by simp[gF] at ha,fun _ _ b=>absurd rfl b⟩
theorem cZ.cJ {X:Int->Prop}(h:cZ k X s):∀n,cZ k X (k.cJ s n)/\dO k s (k.cJ s n)/\∀i,i<n->k.cQ (k.cJ s n) (k.s.rs.getD i 0)=false
 |0=>⟨h,dO.refl _,fun i hi=>V⟩
 |n+1=>by obtain⟨h1,h2,h3⟩:=cZ.cJ h n;exact zl
end
theorem nW {a:Wc}{S:ck}(c:cU (S.s.j0 a) gF):fE (S.s.j0 a) (S.cy a) ((S.s.j0 a).eO (S.j2 a) S.r).2/\dO (S.s.j0 a) (S.j2 a).1 (S.cy a)/\∀i,i<12->(S.s.j0 a).cQ (S.cy a) (S.s.rs.getD i 0)=false:=by obtain⟨d,_,e⟩:=(cZ.start c).cJ 12;obtain⟨f,g,_⟩:=cZ.sp (t:=((S.s.j0 a).cJ gF 12,S.q)) d;obtain⟨j,b⟩:=fE.eO f S.r;exact⟨j,b,fun i hi=>b.cQ (g.cQ (e i hi))⟩
theorem GY {p q N O y g:Nat}{ws:List Int}(w:au)(h:At w p q N O y g ws):
 Calls prog 104 #[aj p] w fun e w'=>∃v1 v2,e=.returned (.tuple #[v1,v2])/\w'.ownsRow w.heap.size 3 1 v1 (dS N y g ws).length ((dS N y g ws).map (Value.int .i64))/\w'.ownsRow w.heap.size 3 1 v2 (dw N y g ws).length ((dw N y g ws).map (Value.int .i64))/\(∀b,some b=v1.ownBlock->some b≠v2.ownBlock)/\Below w.heap.size w w':=by
 obtain⟨c0,c1,c2,c3,c4,c5,j⟩:=h.cells;have lp:=h.eJ;have A:=h.eK;have k1:=h.hN';have B:=h.hy;have C:=h.hO;have D:=h.hg;go_enter func104,ntmps104;go_wp2_with fail;refine(v_ 0 N y w.heap.size _ ((h.alloc _).alloc _) ((a4 _ _ _ Z).trans (aL _ _)) V V V V V V).mono ?_;rintro e w1 ⟨rfl,v1,k,i,c⟩
 have l:=((h.alloc _).alloc _).same (c.block p (by simp;omega) V) (c.block q (by simp;omega) V)
 have d:=(c.block (w.heap.size+1) Z V).trans (r7 _ Z)
 have o:=hide k;have s:=hide d;have t:=c.size;simp only [World.size_alloc] at t;clear k d c0 c1 c2 c3 c4 c5 j;obtain⟨c0,c1,c2,c3,c4,c5,j⟩:=l.cells;go_wp2_with fail;refine(wu N O g (w.heap.size+1) _ l s.o V V V V V V).mono ?_;rintro e m ⟨rfl,v2,d,n,f⟩
 have E:m.cell? (am w.heap.size 0)=some v1:=by have:=(f.block w.heap.size V V).trans o.o;simp[World.cell?,this]
 have F:m.cell? (am (w.heap.size+1) 0)=some v2:=ay d
 have G:=f.size;clear d;go_wp2_with fail
 go_quiet (fail)
 go_wp2_with fail;go_ret2;have u:∀b,some b=v1.ownBlock->some b≠v2.ownBlock:=fun b e v=>by have q1:=(ce i b e).2;have H:=(ce n b v).1;omega
 simp only [World.size_alloc] at i c;have x:dS N y g ws=eA N y g ws (0+(y:Int)) 2000 0:=by rw[Int.zero_add];rfl
 refine⟨v1,v2,rfl,?_,?_,u,?_⟩
 ·rw[x];exact lA (ni (base:=w.heap.size+1+1) (v4 i f bW V) V) (below_drewN bX _)
 ·exact lA (ni n V) (below_drewN bX _)
 ·exact below_drewN (((bX.alloc bW _).alloc Z _).trans ((c.below V bW).trans (f.below V V))) _
theorem GZ (f:Nat)(c:Array Value)(p:Int->Bool)(b:d3 f)(w:au):
 Calls prog 167 #[.slice none 0 0,.func (.func f) #[] c] w fun r w'=>r=.returned (.slice none 0 0)/\Below w.heap.size w w':=by
 go_enter func167,ntmps167;go_wp2_with fail;refine(zm f c p b w [] (fun w' x d _=>by cases d) none 0 Z (fun h=>by simp at h)).mono ?_;rintro r w1 ⟨e,⟨rfl,_⟩|⟨i,_,g,_⟩⟩
 ·go_wp2;go_ret;exact⟨rfl,e⟩
 ·simp at g
theorem G0 (f:Nat)(c:Array Value)(p:Int->Bool)(k:d3 f)(w:au)(l:List Int)(i:Option Addr)(d B:Nat)
 (hl:∀(w':au)(x:Int),x∈l->Fr (fun b=>some b=(Value.slice i l.length d).ownBlock) w w'->Calls prog f (#[ah x]++c) w' fun r o=>r=.returned (.bool (p x))/\Below w'.heap.size w' o)
 (hm:l.length<=100000)(m:w.ownsRow B 3 1 (.slice i l.length d) l.length (l.map (Value.int .i64))):
 Calls prog 167 #[.slice i l.length d,.func (.func f) #[] c] w fun r w'=>r=.returned (.slice i (ed p l).length d)/\w'.ownsRow B 3 1 (.slice i (ed p l).length d) (ed p l).length ((ed p l).map (Value.int .i64))/\Fr (fun b=>some b=(Value.slice i l.length d).ownBlock) w w':=by
 rcases m.2 with⟨j,q⟩|⟨g,u,v,j,_⟩
 ·have s:=List.eq_nil_of_length_eq_zero q;subst s;simp at j;obtain⟨rfl,rfl⟩:=j;refine(GZ f c p k w).mono ?_;rintro r w' ⟨rfl,t⟩
  exact⟨rfl,a7 _ _ _ _,Fr.of t⟩
 ·obtain⟨rfl,rfl⟩:=j;have e:∀n d,(fun b=>some b=(Value.slice (ak g) n d).ownBlock)=(fun b=>b=g):=fun n d=>by simp[Value.ownBlock]
  rw[e] at hl⊢;exact GV f c p k w l g d B hl hm m
theorem zt {pk pw p q N O y g:Nat}{ws:List Int}(w:au)(k:At w p q N O y g ws)(c1:w.cell? (am pk 0)=some (aj pw))(c2:w.cell? (am pw 0)=some (aj p))(l:List Int)(c:Option Addr)(d B:Nat)(e:Int)(hl:l.length<=100000)(t:∀x∈l,0<=x/\x<=100000)
 (i:w.ownsRow B 3 1 (.slice c l.length d) l.length (l.map (Value.int .i64)))(hB:pk<B/\pw<B/\p<B/\q<B):
 Calls prog 107 #[aj pk,.slice c l.length d,ah e] w fun r w'=>r=.returned (.slice c (ed (fun x=>decide (e<=x+pf (ld N y g ws x))) l).length d)/\w'.ownsRow B 3 1 (.slice c (ed (fun x=>decide (e<=x+pf (ld N y g ws x))) l).length d) (ed (fun x=>decide (e<=x+pf (ld N y g ws x))) l).length ((ed (fun x=>decide (e<=x+pf (ld N y g ws x))) l).map (Value.int .i64))/\Fr (fun b=>some b=(Value.slice c l.length d).ownBlock) w w':=by
 obtain⟨W,f⟩:∃W,W=(w.alloc (.cells #[.pointer (some ⟨pk,0,none⟩)] 112)).alloc (.cells #[.int .i64 e] 3):=⟨_,rfl⟩
 have m:Below w.heap.size w W:=by rw[f];exact((aD _ w).alloc bW _).alloc Z _
 have u:W.heap[w.heap.size]?=some (.cells #[aj pk] 112 (0,0)):=by rw[f,a4 _ _ _ Z];exact aL _ _
 have v:W.heap[w.heap.size+1]?=some (.cells #[ah e] 3 (0,0)):=by rw[f];simpa using aL (w.alloc (.cells #[.pointer (some ⟨pk,0,none⟩)] 112)) _
 have F:W.heap.size=w.heap.size+2:=by rw[f];simp
 have P:=G0 168 #[aj w.heap.size,aj (w.heap.size+1)] (fun x=>decide (e<=x+pf (ld N y g ws x))) GT W l c d B (fun w' x A j=>by
  have o:∀b,some b=(Value.slice c l.length d).ownBlock->_:=fun b e=>ce i b e;have k0:∀b,b<B->b<w.heap.size->_=_:=fun b C n=>(j.block b V (fun e=>by have:=(o b e).1;omega)).trans (m.block b n)
  have k1:∀b,w.heap.size<=b->b<W.heap.size->_=_:=fun b C n=>j.block b n (fun e=>by have:=(o b e).2;omega)
  exact GU w' (k.same (k0 p hB.2.2.1 k.eJ) (k0 q hB.2.2.2 k.eK)) (by simp[World.cell?,((k1 w.heap.size _ V).trans u)]) ((aU (k0 pk hB.1 (aK w _ c1))).trans c1) ((aU (k0 pw hB.2.1 (aK w _ c2))).trans c2) (by simp[World.cell?,((k1 _ V V).trans v)]) x (t x A)) hl (cv i (fun b e=>m.block b (ce i b e).2))
 have D:av (_/\∀b,some b=(Value.slice c l.length d).ownBlock->b<w.heap.size):=⟨m,fun b e=>(ce i b e).2⟩
 go_enter func107,ntmps107;go_wp2_with fail;rw[<-(hide f).o];refine P.mono ?_;rintro r w1 ⟨rfl,E,j⟩
 have s:=dC E ((Fr.of D.o.1).trans j (fun b e=>aJ e))
 go_wp2_with fail;go_ret;exact⟨rfl,s.o.1,s.o.2⟩
theorem G1 (w:au)(pk:Nat)(G Y:List Int)(c d:Option Addr)(gc f:Nat)(l:w.cell? (am pk 1)=some (.slice d Y.length f))(q:w.cell? (am pk 2)=some (.slice c G.length gc))(yr:w.ownsRow 0 3 1 (.slice d Y.length f) Y.length (Y.map (Value.int .i64)))(gr:w.ownsRow 0 3 1 (.slice c G.length gc) G.length (G.map (Value.int .i64)))(hl:G.length+Y.length<=4000):
 Calls prog 108 #[aj pk] w fun e w'=>∃a g,e=.returned (.slice a (G.length+Y.length) g)/\w'.ownsRow w.heap.size 3 1 (.slice a (G.length+Y.length) g) (G.length+Y.length) ((G++Y).map (Value.int .i64))/\Below w.heap.size w w':=by
 have lk:=aK w _ l;have s:=an w.drew (.cells #[.slice c G.length gc,.slice d Y.length f] 96)
 have i:=(ao w).drew.trans (s.mono bW)
 have m:=aL w.drew (.cells #[.slice c G.length gc,.slice d Y.length f] 96)
 have P:=y_ (w.drew.alloc (.cells #[.slice c G.length gc,.slice d Y.length f] 96)) w.heap.size G Y c d gc f (by simp only [World.cell?];rw[show w.heap.size=w.drew.heap.size from rfl,m];rfl) (by simp only [World.cell?];rw[show w.heap.size=w.drew.heap.size from rfl,m];rfl) (cv gr (fun b e=>i.block b (ce gr b e).2)) (cv yr (fun b e=>i.block b (ce yr b e).2)) V;have j:=hide i;go_enter func108,ntmps108;go_wp2_with fail
 go_region_held3 (fun w'=>w'.cell? (am pk 1)=some (.slice d Y.length f)/\w'.cell? (am pk 2)=some (.slice c G.length gc)) (go_keep)
  (first
    |(go_at_call 169;refine P.mono ?_;rintro e w3 ⟨a,g,rfl,n,t⟩;have k:=j.o.trans (t.mono j.o.size);have y1:=(k.cell (p:=am pk 1) lk).trans l;have u:=(k.cell (p:=am pk 2) lk).trans q;have o:=dC (d7 n (fun b e=>aP j.o.size (ce n b e).1)) k))
 go_wp2_with fail;go_ret;exact⟨a,g,rfl,o.o.1,o.o.2⟩
abbrev zu (a:Wc)(co ps:Nat)(yv ov:Value):Obj:=.cells #[aj a.pw,yv,ov,.map (some co),aj ps,.slice none 0 0,.slice none 0 0] 115 (0,0)
structure fw (a:Wc)(S:ck)(w:au)(pk co ps:Nat)(b0:Option Addr)(d0:Nat)(b1:Option Addr)(d1:Nat)(yv ov:Value)(T:List Int)(w':au):Prop where
 bl:Below w.heap.size w w'
 cb:w'.heap[pk]?=some (zu a co ps yv ov)
 sd:gn w' ps b0 d0 b1 d1 S.r S.q
 mp:Mp w' co T (fun _=>-1)
 j_:w.heap.size=co
 jk:co<ps
 pp:ps<pk
 l0:∀k,some k=(Value.slice b0 S.r.length d0).ownBlock->co<k/\k<pk
 l1:∀k,some k=(Value.slice b1 S.q.length d1).ownBlock->co<k/\k<pk
 ln:∀k,some k=(Value.slice b0 S.r.length d0).ownBlock->some k≠(Value.slice b1 S.q.length d1).ownBlock
section
variable {a:Wc}{S:ck}{w w' w'':au}{pk co ps:Nat}{b0 b1:Option Addr}{d0 d1:Nat}{yv ov:Value}{T:List Int}
theorem fw.fr {X:Nat->Prop}(h:fw a S w pk co ps b0 d0 b1 d1 yv ov T w')(f:Fr X w' w'')(d:∀b,X b->pk<b):fw a S w pk co ps b0 d0 b1 d1 yv ov T w'':=by
 have i:=h.j_;have j:=h.jk;have k:=h.pp;have l:=lt_of_some h.cb;have hk:∀b,b<=pk->_=_:=fun b c=>f.block b V (fun g=>by have:=d b g;omega)
 exact {
  bl:=⟨f.os.trans h.bl.os,f.tape.trans h.bl.tape,f.output.trans h.bl.output,aP h.bl.size f.size,fun b c=>(hk b V).trans (h.bl.block b c)⟩
  cb:=(hk pk bW).trans h.cb
  sd:=⟨(hk ps V).trans h.sd.blk,cv h.sd.r0 (fun b e=>hk b (by have:=(h.l0 b e).2;omega)),cv h.sd.q0 (fun b e=>hk b (by have:=(h.l1 b e).2;omega))⟩
  mp:=h.mp.same (hk co V)
  j_:=h.j_,jk:=h.jk,pp:=h.pp,l0:=h.l0,l1:=h.l1,ln:=h.ln}
theorem fw.below (h:fw a S w pk co ps b0 d0 b1 d1 yv ov T w')(f:Below w'.heap.size w' w''):fw a S w pk co ps b0 d0 b1 d1 yv ov T w'':=h.fr (Fr.of (X:=fun _=>False) f) (fun _ b=>b.elim)
theorem fw.set (h:fw a S w pk co ps b0 d0 b1 d1 yv ov T w')(i:Nat)(v:Value){c d:Value}(e:(w'.setCell ⟨pk,i,none⟩ v).heap[pk]?=some (zu a co ps c d)):fw a S w pk co ps b0 d0 b1 d1 c d T (w'.setCell ⟨pk,i,none⟩ v):=by
 have j:=h.j_;have k:=h.jk;have l:=h.pp;have f:=(Fr.refl _ w').set pk i v rfl;have hk:∀b,b<pk->_=_:=fun b g=>f.block b (by have:=lt_of_some h.cb;omega) (fun m=>by omega)
 exact {
  bl:=⟨f.os.trans h.bl.os,f.tape.trans h.bl.tape,f.output.trans h.bl.output,aP h.bl.size f.size,fun b g=>(hk b V).trans (h.bl.block b g)⟩
  cb:=e
  sd:=⟨(hk ps V).trans h.sd.blk,cv h.sd.r0 (fun b e=>hk b (h.l0 b e).2),cv h.sd.q0 (fun b e=>hk b (h.l1 b e).2)⟩
  mp:=h.mp.same (hk co V)
  j_:=h.j_,jk:=h.jk,pp:=h.pp,l0:=h.l0,l1:=h.l1,ln:=h.ln}
theorem fw.set1 (h:fw a S w pk co ps b0 d0 b1 d1 yv ov T w')(v:Value):fw a S w pk co ps b0 d0 b1 d1 v ov T (w'.setCell ⟨pk,1,none⟩ v):=h.set 1 v (by simp only [World.setCell,Array.getElem?_modify,if_true,h.cb,Option.map_some];simp)
theorem fw.set2 (h:fw a S w pk co ps b0 d0 b1 d1 yv ov T w')(v:Value):fw a S w pk co ps b0 d0 b1 d1 yv v T (w'.setCell ⟨pk,2,none⟩ v):=h.set 2 v (by simp only [World.setCell,Array.getElem?_modify,if_true,h.cb,Option.map_some];simp)
theorem fw.add {x:Int}(h:fw a S w pk co ps b0 d0 b1 d1 yv ov T w')(f:Fr (fun b=>b=co) w' w'')(hm:Mp w'' co (T++[x]) (fun _=>-1)):fw a S w pk co ps b0 d0 b1 d1 yv ov (T++[x]) w'':=by
 have i:=h.j_;have j:=h.jk;have k:=h.pp;have l:=lt_of_some h.cb;have hk:∀b,b<=pk->b≠co->_=_:=fun b c d=>f.block b V (fun g=>d g)
 exact {
  bl:=⟨f.os.trans h.bl.os,f.tape.trans h.bl.tape,f.output.trans h.bl.output,aP h.bl.size f.size,fun b c=>(hk b V V).trans (h.bl.block b c)⟩
  cb:=(hk pk bW V).trans h.cb
  sd:=⟨(hk ps V V).trans h.sd.blk,cv h.sd.r0 (fun b e=>hk b (by have:=(h.l0 b e).2;omega) (by have:=(h.l0 b e).1;omega)),cv h.sd.q0 (fun b e=>hk b (by have:=(h.l1 b e).2;omega) (by have:=(h.l1 b e).1;omega))⟩
  mp:=hm
  j_:=h.j_,jk:=h.jk,pp:=h.pp,l0:=h.l0,l1:=h.l1,ln:=h.ln}
theorem fw.cells (h:fw a S w pk co ps b0 d0 b1 d1 yv ov T w'):w'.cell? (am pk 0)=some (aj a.pw)/\w'.cell? (am pk 1)=some yv/\w'.cell? (am pk 2)=some ov/\w'.cell? (am pk 3)=some (.map (some co))/\(∀i,w'.frozen? (am pk i)=false)/\pk<w'.heap.size:=by
 have b:=h.cb;refine⟨?_,?_,?_,?_,fun i=>?_,lt_of_some b⟩
 all_goals first|simp[World.cell?,b]|simp[World.frozen?,b]
theorem fw.done {f:Nat->Prop}{g i:Option Addr}{j gc:Nat}(hw:(dY a).J f S.s w)(x:cU (S.s.j0 a) gF)(h:fw a S w pk co ps b0 d0 b1 d1 (.slice g (S.s.j0 a).Y.length j) (.slice i (S.s.j0 a).G.length gc) (S.s.j0 a).T w')
 (yr:w'.ownsRow (pk+1) 3 1 (.slice g (S.s.j0 a).Y.length j) (S.s.j0 a).Y.length ((S.s.j0 a).Y.map (Value.int .i64)))(gr:w'.ownsRow (pk+1) 3 1 (.slice i (S.s.j0 a).G.length gc) (S.s.j0 a).G.length ((S.s.j0 a).G.map (Value.int .i64)))(A:∀b,some b=(Value.slice g (S.s.j0 a).Y.length j).ownBlock->some b≠(Value.slice i (S.s.j0 a).G.length gc).ownBlock):
 ∃p,(c9 (dN ⟨pk,co,ps,.slice g (S.s.j0 a).Y.length j,.slice i (S.s.j0 a).G.length gc⟩ (S.s.j0 a)) ps (.slice b0 S.r.length d0)).J p (gF,S.q) w'/\(∀b,some b=(Value.slice b0 S.r.length d0).ownBlock->¬p b/\w.heap.size<=b)/\(∀b,p b->f b\/w.heap.size<=b):=by
 have I:=h.j_;have m1:=h.jk;have J:=h.pp;have lk:=lt_of_some h.cb;have s:=(dY a).lt hw
 classical
 obtain⟨own,l⟩:∃own:Nat->Nat,own=fun b=>if f b then 1 else if b=pk then 5 else if b=co then 6 else if some b=(Value.slice g (S.s.j0 a).Y.length j).ownBlock then 9 else if some b=(Value.slice i (S.s.j0 a).G.length gc).ownBlock then 10 else 0:=⟨_,rfl⟩
 have m:∀b,w.heap.size<=b->¬f b:=fun b d c=>by have:=s b c;omega
 have o1:∀b,f b↔own b=1:=fun b=>by
  rw[l];dsimp only;by_cases c:f b
  ·simp[c]
  ·rw[aE c];refine⟨fun e=>absurd e c,fun e=>?_⟩
   split at e
   ·omega
   ·split at e
    ·omega
    ·split at e
     ·omega
     ·split at e<;>omega
 have ok:own pk=5:=by rw[l];dsimp only;rw[aE (m pk V),aH rfl]
 have B:own co=6:=by rw[l];dsimp only;rw[aE (m co V),aE V,aH rfl]
 have C:∀b,some b=(Value.slice g (S.s.j0 a).Y.length j).ownBlock->own b=9:=fun b e=>by have q:=(ce yr b e).1;rw[l];dsimp only;rw[aE (m b V),aE V,aE V,aH e]
 have D:∀b,some b=(Value.slice i (S.s.j0 a).G.length gc).ownBlock->own b=10:=fun b e=>by have q:=(ce gr b e).1;rw[l];dsimp only;rw[aE (m b V),aE V,aE V,aE (fun o=>A b o e),aH e]
 have n:∀b,own b≠0->b<w'.heap.size/\(f b\/b=pk\/b=co\/pk<b):=fun b d=>by
  rw[l] at d;dsimp only at d;by_cases c:f b
  ·have:=s b c;have:=h.bl.size;exact⟨V,aJ c⟩
  ·rw[aE c] at d;by_cases t:b=pk
   ·exact⟨V,aI (aJ t)⟩
   ·rw[aE t] at d;by_cases o:b=co
    ·exact⟨V,aI (aI (aJ o))⟩
    ·rw[aE o] at d;by_cases u:some b=(Value.slice g (S.s.j0 a).Y.length j).ownBlock
     ·have:=ce yr b u;exact⟨this.2,aI (aI (aI V))⟩
     ·rw[aE u] at d;by_cases v:some b=(Value.slice i (S.s.j0 a).G.length gc).ownBlock
      ·have:=ce gr b v;exact⟨this.2,aI (aI (aI V))⟩
      ·rw[aE v] at d;exact absurd rfl d
 have E:(dN ⟨pk,co,ps,.slice g (S.s.j0 a).Y.length j,.slice i (S.s.j0 a).G.length gc⟩ (S.s.j0 a)).J (fun b=>own b≠0) gF w':=by
  refine⟨⟨.slice none 0 0,.slice none 0 0,f,own,?_,fun b=>Iff.rfl⟩,x⟩
  exact {
   wd:=(dY a).keep hw h.bl.size (fun b d=>h.bl.block b (s b d))
   w1:=o1
   cb:=h.cb
   k1:=ok
   mp:=h.mp
   m1:=B
   tr:=a7 _ _ _ _
   gI:=fun b e=>by simp[Value.ownBlock] at e
   er:=a7 _ _ _ _
   eo:=fun b e=>by simp[Value.ownBlock] at e
   yr:=d7 yr (fun _ _=>aS _)
   hC:=C
   gr:=d7 gr (fun _ _=>aS _)
   go:=D
   lt:=fun b d=>(n b d).1}
 have F:¬own ps≠0:=fun c=>by
  rcases(n ps c).2 with q|q|q|q
  ·exact m ps V q
  ·omega
  ·omega
  ·omega
 have n1:∀k,co<k->k<pk->¬own k≠0:=fun k k1 K c=>by
  rcases(n k c).2 with q|q|q|q
  ·exact m k V q
  ·omega
  ·omega
  ·omega
 have G:∀k,some k=(Value.slice b0 S.r.length d0).ownBlock->k≠ps:=fun k e H=>by obtain⟨L,hc⟩:=dZ h.sd.r0 k e;rw[H,h.sd.blk] at hc;simp at hc
 refine⟨fun b=>own b≠0\/b=ps\/some b=(Value.slice b1 S.q.length d1).ownBlock,⟨fun b=>own b≠0,b1,d1,E,h.sd.blk,h.sd.q0,fun k hk=>aJ hk,aI (aJ rfl),F,fun k e=>⟨aI (aI e),n1 k (h.l1 k e).1 (h.l1 k e).2⟩,fun k hk=>?_⟩,fun b e=>⟨fun c=>?_,by have:=(h.l0 b e).1;omega⟩,fun b c=>?_⟩
 ·rcases hk with c|c|c
  ·exact(n k c).1
  ·omega
  ·have:=(h.l1 k c).2;omega
 ·rcases c with c|c|c
  ·exact n1 b (h.l0 b e).1 (h.l0 b e).2 c
  ·exact G b e c
  ·exact h.ln b e c
 ·rcases c with c|c|c
  ·rcases(n b c).2 with q|q|q|q
   ·exact aJ q
   ·exact aI V
   ·exact aI V
   ·exact aI V
  ·exact aI V
  ·have:=(h.l1 b c).1;exact aI V
end
end Go.Proofs.YtjpjpjemibgjpaaGreat
