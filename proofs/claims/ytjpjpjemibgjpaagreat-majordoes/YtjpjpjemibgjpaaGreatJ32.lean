import Derived.Test.YtjpjpjemibgjpaaGreatJ31
import Derived.Test.YtjpjpjemibgjpaaGreatJ04
import Derived.Deep.DeepCutAuto
import Derived.Test.YtjpjpjemibgjpaaGreatJ05
import Derived.Test.YtjpjpjemibgjpaaGreatJ07
import Derived.Test.YtjpjpjemibgjpaaGreatJ15
import Derived.Test.YtjpjpjemibgjpaaGreatJ06
import Derived.Test.YtjpjpjemibgjpaaGreatJ02
import Derived.Test.YtjpjpjemibgjpaaGreatJ00
import Derived.Test.YtjpjpjemibgjpaaGreatJ01
import Derived.Test.YtjpjpjemibgjpaaGreatJ03
namespace Go.Proofs.YtjpjpjemibgjpaaGreat
set_option maxRecDepth 100000
set_option maxHeartbeats 4000000
open Tryz
open Go.RowKit W Kp bY
def bZ.ja (a:Wc)(W:bZ)(i:Nat):Int:=if tB a.N W.s.y W.s.g W.s.ws (W.s.rs.getD i 0)=true then pk (ld a.N W.s.y W.s.g W.s.ws (bQ (W.s.rs.getD i 0))) else 0
def bZ.p4 (a:Wc)(W:bZ)(i:Nat):Int:=if tB a.N W.s.y W.s.g W.s.ws (W.s.rs.getD i 0)=true then pf (ld a.N W.s.y W.s.g W.s.ws (bQ (W.s.rs.getD i 0))) else 0
def bZ.iq (a:Wc)(W:bZ)(i:Nat):Int:=if tB a.N W.s.y W.s.g W.s.ws (W.s.rs.getD i 0)=true then pc (ld a.N W.s.y W.s.g W.s.ws (bQ (W.s.rs.getD i 0))) else 2
def bZ.rK (a:Wc)(W:bZ)(i k:Nat):Bool:=decide (W.iq a k=0/\W.iq a i=0/\W.ja a k=5)
def bZ.kX (a:Wc)(W:bZ)(i k:Nat):bZ:=if W.rK a i k=true then(if 24<=W.r.length+W.q.length then W else⟨W.s,W.r++[(W.s.rs.getD k 0,W.s.rs.getD i 0)],W.q⟩) else W
section
variable {c:ej}{F:Nat->Prop}{S:bZ×b_}{w:World}
def ir (c:ej)(S:bZ×b_)(a C:Int):bZ×b_:=(S.1.kX c.a (bV a) (bV C),if S.2.rc (bV a) (bV C)=0 then {S.2 with rg:=S.2.rg++[(S.2.gd (bV C),S.2.th (bV a))]} else S.2)
theorem Ao (h:(ce c).J F S w)(g z:Int)(b:S.1.r.length<=90000)(hq:S.1.q.length<=90000):Calls prog 32 #[af c.a.sd,.agg #[ae g,ae z]] w fun e w'=>∃a,e=.returned (.bool (!g5 (S.1.r.length+S.1.q.length)))/\(ce c).J a (if 24<=S.1.r.length+S.1.q.length then S.1 else⟨S.1.s,S.1.r++[(g,z)],S.1.q⟩,S.2) w'/\bM F w a w':=by
 obtain⟨m,d,_,f⟩:=ip h;refine(Af d g z b hq).mono ?_;rintro e w' ⟨n,rfl,i,j⟩
 obtain⟨k,m1,l⟩:=f _ _ _ i j;exact⟨k,rfl,m1,l⟩
theorem Ap (h:(ce c).J F S w)(hB:jD S.2)(bR:S.1.r.length<=90000)(hq:S.1.q.length<=90000)(a B C:Int):
 Calls prog 8 #[af c.pb,j_ 5 a B C] w fun e w'=>∃d,e=.returned (.bool ((S.1.rK c.a (bV a) (bV C)&&!g5 (S.1.r.length+S.1.q.length))==(S.2.rc (bV a) (bV C)==0)))/\(ce c).J d (ir c S a C) w'/\bM F w d w':=by
 have bi:Hid (∀(i:Nat)(d:Nat->Prop)(w':World),(ce c).J d S w'->Calls prog 31 #[af c.a.pw,ae (S.1.s.rs.getD i 0)] w' fun e s=>e=.returned (.tuple #[ae (S.1.ja c.a i),ae (S.1.p4 c.a i),ae (S.1.iq c.a i)])/\Below w'.heap.size w' s):=fun i d w' h=>by obtain⟨cm,cc,_⟩:=ip h;obtain⟨cn,g1,_⟩:=i9 cc;exact wN _ _ (hH g1).1 (hG g1).1
 have X:=fun d w' h=>bi.out (bV a) d w' h;have Y:=fun d w' h=>bi.out (bV C) d w' h;have O:Hid (∀(d:Nat->Prop)(w':World),(ce c).J d S w'->Calls prog 32 #[af c.a.sd,.agg #[ae (S.1.s.rs.getD (bV C) 0),ae (S.1.s.rs.getD (bV a) 0)]] w' fun e s=>∃bS,e=.returned (.bool (!g5 (S.1.r.length+S.1.q.length)))/\(ce c).J bS (if 24<=S.1.r.length+S.1.q.length then S.1 else⟨S.1.s,S.1.r++[(S.1.s.rs.getD (bV C) 0,S.1.s.rs.getD (bV a) 0)],S.1.q⟩,S.2) s/\bM d w' bS s):=fun d w' h=>Ao h _ _ bR hq;have m:Hid (ir c S a C=(if S.1.rK c.a (bV a) (bV C)=true then(if 24<=S.1.r.length+S.1.q.length then S.1 else⟨S.1.s,S.1.r++[(S.1.s.rs.getD (bV C) 0,S.1.s.rs.getD (bV a) 0)],S.1.q⟩) else S.1,if S.2.rc (bV a) (bV C)=0 then {S.2 with rg:=S.2.rg++[(S.2.gd (bV C),S.2.th (bV a))]} else S.2)):=rfl;have aT:Hid (∀(t:Nat->Prop)(w':World),(cf c.rp c.rb c.bS c.bT).J t S.2 w'->Calls prog 14 #[af c.rp,jB 9 0 (bV a) (bV C) 0 0] w' fun e s=>∃d,e=.returned (ae (S.2.rc (bV a) (bV C)))/\(cf c.rp c.rb c.bS c.bT).J d (if S.2.rc (bV a) (bV C)=0 then {S.2 with rg:=S.2.rg++[(S.2.gd (bV C),S.2.th (bV a))]} else S.2) s/\bM t w' d s):=fun t w' h=>z9 h _ _ (dY a) (dY C) (hB.th _ (dY C)) hB.lr hB.lw;have n:Hid (S.1.rK c.a (bV a) (bV C)=decide (S.1.iq c.a (bV C)=0/\S.1.iq c.a (bV a)=0/\S.1.ja c.a (bV C)=5)):=rfl;generalize (if S.2.rc (bV a) (bV C)=0 then {S.2 with rg:=S.2.rg++[(S.2.gd (bV C),S.2.th (bV a))]} else S.2)=o at m aT;generalize S.2.rc (bV a) (bV C)=z at aT⊢;generalize ir c S a C=ad at m⊢;have bl:(if 24<=S.1.r.length+S.1.q.length then S.1 else⟨S.1.s,S.1.r++[(S.1.s.rs.getD (bV C) 0,S.1.s.rs.getD (bV a) 0)],S.1.q⟩:bZ).s=S.1.s:=by split<;>rfl
 generalize (if 24<=S.1.r.length+S.1.q.length then S.1 else⟨S.1.s,S.1.r++[(S.1.s.rs.getD (bV C) 0,S.1.s.rs.getD (bV a) 0)],S.1.q⟩)=ax at m O bl;generalize g5 (S.1.r.length+S.1.q.length)=fl at O⊢;generalize S.1.rK c.a (bV a) (bV C)=aV at m n⊢;have bn:Hid (∀(d:Nat->Prop)(w':World),(ce c).J d (ax,S.2) w'->w'.cell? ⟨c.pb,0,none⟩=some (.pointer (some ⟨c.a.pw,0,none⟩))/\w'.cell? ⟨c.a.pw,2,none⟩=some (.pointer (some ⟨c.a.sd,0,none⟩))/\w'.cell? ⟨c.a.pw,3,none⟩=some (.slice (some ⟨c.a.nb,0,none⟩) 12 12)/\w'.cell? ⟨c.a.nb,bV a,none⟩=some (.int .i64 (S.1.s.rs.getD (bV a) 0))/\w'.cell? ⟨c.a.nb,bV C,none⟩=some (.int .i64 (S.1.s.rs.getD (bV C) 0))):=fun d w' h=>by have cd:ax.s=S.1.s:=bl;obtain⟨v0,_,_,v2,cg,bT,_⟩:=dF h;have g1:=(bT _ (dY a)).1;have g2:=(bT _ (dY C)).1;dsimp only at g1 g2;rw[cd] at g1 g2;exact⟨v0,v2,cg,g1,g2⟩
 clear bl;obtain⟨ok,bo⟩:∃ok,ok=(aV&&!fl):=⟨_,rfl⟩
 rw[<-bo];have ai:Hid (ok=(aV&&!fl)):=bo;clear bo hB bR hq bi;generalize S.1.iq c.a (bV C)=bp at Y n;generalize S.1.ja c.a (bV C)=k1 at Y n;generalize S.1.p4 c.a (bV C)=ch at Y;generalize S.1.iq c.a (bV a)=br at X n;generalize S.1.ja c.a (bV a)=a1 at X;generalize S.1.p4 c.a (bV a)=a2 at X;have X:Hid (∀(d:Nat->Prop)(w':World),(ce c).J d S w'->Calls prog 31 #[af c.a.pw,ae (S.1.s.rs.getD (bV a) 0)] w' fun e s=>e=.returned (.tuple #[ae a1,ae a2,ae br])/\Below w'.heap.size w' s):=X;have Y:Hid (∀(d:Nat->Prop)(w':World),(ce c).J d S w'->Calls prog 31 #[af c.a.pw,ae (S.1.s.rs.getD (bV C) 0)] w' fun e s=>e=.returned (.tuple #[ae k1,ae ch,ae bp])/\Below w'.heap.size w' s):=Y;have bU:=(Below.refl w.heap.size w).alloc bJ (cJ 5 a B C)
 have bb:Hid ((ce c).J F S w/\Below w.heap.size w (w.alloc (cJ 5 a B C))):=⟨h,bU⟩
 have bW:=hL a;have bX:=hL C;have bY:=dY C;have b4:=dY a;have a0:Hid ((w.alloc (cJ 5 a B C)).heap[w.heap.size]?=some (cJ 5 a B C)):=aw _ _;obtain⟨q0,q1,bs,q3⟩:=fJ a0.out;generalize bV a=N at*;generalize bV C=Q at*;clear h bU;go_enter func8,ntmps8
 go_upto_region 1 with fail
 go_region_held3 (fun w'=>w'.cell? (ah w.heap.size 1)=some (ae a)/\w'.cell? (ah w.heap.size 3)=some (ae C)) (go_keep)
  (first
    |(go_at_call 23;refine(bW _).mono ?_;rintro e ci ⟨rfl,aB⟩;have aB:=aB.symm;subst aB)
    |(go_at_call 23;refine(bX _).mono ?_;rintro e ci ⟨rfl,aB⟩;have aB:=aB.symm;subst aB))
 have bx:=bb.out.2.drew;have bL:=(ce c).below bb.out.1 bx;have bd:Hid ((ce c).J F S (w.alloc (cJ 5 a B C)).drew/\bM F w F (w.alloc (cJ 5 a B C)).drew/\∀b,F b->b<w.heap.size):=⟨bL,bM.of bx,(ce c).lt bb.out.1⟩
 have be:(w.alloc (cJ 5 a B C)).drew.heap[w.heap.size]?=some (cJ 5 a B C):=a0.out;clear bb a0 q0 q1 bs q3 bW bX bx;generalize (w.alloc (cJ 5 a B C)).drew=al at*;obtain⟨q0,q1,bs,q3⟩:=fJ be;have a0:Hid (al.heap[w.heap.size]?=some (cJ 5 a B C)):=be;obtain⟨b0,b1,b2,b3,b5,b6,l1,l2,aF,n1,co,cp⟩:=dF bL;have cj:=lt_of_some be;have cq:(0:Int)<=(Q:Int):=I;have cr:(Q:Int)<12:=I;have j0:(0:Int)<=(N:Int):=I;have cs:(N:Int)<12:=I;clear bL be;obtain⟨R,_⟩:=b6 N b4;obtain⟨U,_⟩:=b6 Q bY;clear b6;have b7:Hid (∃x y:Int,x=S.1.s.rs.getD N 0/\y=S.1.s.rs.getD Q 0):=⟨_,_,rfl,rfl⟩
 obtain⟨x,y,bN,bO⟩:=b7.out;rw[<-bN] at R X O bn;rw[<-bO] at U Y O bn;have bP:Hid (x=S.1.s.rs.getD N 0/\y=S.1.s.rs.getD Q 0):=⟨bN,bO⟩
 clear bN bO b7 q1 bs q3;have P:=Y.out F al.drew ((ce c).below bd.out.1 (Below.refl al.heap.size al).drew)
 clear Y;go_wp2_with fail
 go_region_held3 (fun w'=>w'.cell? (ah c.pb 0)=some (af c.a.pw)/\w'.cell? (ah c.a.pw 3)=some (.slice (ag c.a.nb) 12 12)/\w'.cell? (ah c.a.nb Q)=some (ae y)) (go_keep)
  (first
    |(go_at_call 31;refine P.mono ?_;clear P;rintro e w3 ⟨rfl,W⟩;have W:Below al.heap.size al w3:=(Below.refl al.heap.size al).drew.trans W;have b8:=(W.cell (p:=ah c.pb 0) l1).trans b0;have y1:=(W.cell (p:=ah c.a.pw 3) l2).trans b5;have ck:=(W.cell (p:=ah c.a.nb Q) aF).trans U))
 have b9:=(W.cell (p:=ah c.a.nb N) aF).trans R;have a3:Hid ((ce c).J F S w3/\bM F w F w3):=⟨(ce c).below bd.out.1 W,bd.out.2.1.below W⟩
 clear b0 b1 b2 b3 b5 R U l1 l2 aF q0 bd a0 cj W;obtain⟨_,_,_,_,_,_,l1,l2,aF,_⟩:=dF a3.out.1;have P:=X.out F w3.drew ((ce c).below a3.out.1 (Below.refl w3.heap.size w3).drew)
 clear X;go_wp2_with fail
 go_region_held3 (fun w'=>w'.cell? (ah c.pb 0)=some (af c.a.pw)/\w'.cell? (ah c.a.pw 3)=some (.slice (ag c.a.nb) 12 12)/\w'.cell? (ah c.a.nb N)=some (ae x)) (go_keep)
  (first
    |(go_at_call 31;refine P.mono ?_;clear P;rintro e f ⟨rfl,ar⟩;have ar:Below w3.heap.size w3 f:=(Below.refl w3.heap.size w3).drew.trans ar;have u0:=(ar.cell (p:=ah c.pb 0) l1).trans b8;have cl:=(ar.cell (p:=ah c.a.pw 3) l2).trans y1;have ca:=(ar.cell (p:=ah c.a.nb N) aF).trans b9))
 have q:Hid ((ce c).J F S f/\bM F w F f):=⟨(ce c).below a3.out.1 ar,a3.out.2.below ar⟩
 clear b8 y1 ck b9 u0 cl ca l1 l2 aF a3 ar;obtain⟨b0,b1,b2,b3,b5,b6,l1,l2,aF,_⟩:=dF q.out.1;obtain⟨R,_⟩:=b6 N b4;obtain⟨U,_⟩:=b6 Q bY;rw[<-bP.out.1] at R;rw[<-bP.out.2] at U;clear b6 bP;by_cases he:bp=0
 ·by_cases hd:br=0
  ·by_cases hk:k1=5
   ·have k:aV=true:=by rw[n.out];simp[he,hd,hk]
    have aR:Hid (ad=(ax,o)):=by rw[m.out,aq k];exact(rfl:(ax,o)=(ax,o))
    rw[k] at ai;subst he hd hk;clear m n k;have P:=O.out F f.drew ((ce c).below q.out.1 (Below.refl f.heap.size f).drew)
    clear O;go_wp2_with fail
    go_region_held3 (fun w'=>w'.cell? (ah c.pb 0)=some (af c.a.pw)/\w'.cell? (ah c.a.pw 2)=some (af c.a.sd)/\w'.cell? (ah c.a.pw 3)=some (.slice (ag c.a.nb) 12 12)/\w'.cell? (ah c.a.nb N)=some (ae x)/\w'.cell? (ah c.a.nb Q)=some (ae y)) (go_keep)
     (first
       |(go_at_call 32;refine P.mono ?_;clear P;rintro e j ⟨bg,rfl,cC,cb⟩;have g:Hid ((ce c).J bg (ax,S.2) j/\bM F w bg j):=⟨cC,(q.out.2.below (Below.refl f.heap.size f).drew).trans cb⟩;obtain⟨u0,ca,ct,cu,cv⟩:=bn.out _ _ cC;clear cC cb))
    clear b0 b1 b2 b3 b5 R U;obtain⟨b0,b1,_⟩:=dF g.out.1;obtain⟨t,r1,r0,u⟩:=hx g.out.1;have P:=aT.out _ _ r1;have v:Hid (∀A s1 w',(cf c.rp c.rb c.bS c.bT).J A s1 w'->bM t j A w'->∃d,(ce c).J d (ax,s1) w'/\bM bg j d w'):=u;have D:Hid (bM F w bg j):=g.out.2;clear r1 r0 u g;go_wp2_with fail;refine P.mono ?_;clear P;rintro e E ⟨bQ,rfl,G,H⟩
    obtain⟨l,J,K⟩:=v.out _ _ _ G H;have L:Hid ((ce c).J l ad E/\bM F w l E):=⟨by rw[aR.out];exact J,D.out.trans K⟩
    clear G H J K v D;go_wp2_with fail;go_ret;refine⟨l,?_,L.out.1,L.out.2⟩
    rw[ai.out];simp
   ·have k:aV=false:=by rw[n.out];simp[hk]
    have aR:Hid (ad=(S.1,o)):=by rw[m.out,ao (by rw[k];decide)];exact(rfl:(S.1,o)=(S.1,o))
    rw[k] at ai;subst he hd;have cw:(k1==5)=false:=by simpa using hk
    clear m n k O;go_wp2_with fail
    go_quiet (fail)
    have M:=below_drewN (Below.refl f.heap.size f) nq;have g:Hid ((ce c).J F S (f.drewN nq)/\bM F w F (f.drewN nq)):=⟨(ce c).below q.out.1 M,q.out.2.below M⟩
    clear M q b0 b1 b2 b3 b5 R U;generalize f.drewN nq=j at*;obtain⟨b0,b1,_⟩:=dF g.out.1;obtain⟨t,r1,r0,u⟩:=hx g.out.1;have P:=aT.out _ _ r1;have v:Hid (∀A s1 w',(cf c.rp c.rb c.bS c.bT).J A s1 w'->bM t j A w'->∃d,(ce c).J d (S.1,s1) w'/\bM F j d w'):=u;have D:Hid (bM F w F j):=g.out.2;clear r1 r0 u g;go_wp2_with fail;refine P.mono ?_;clear P;rintro e E ⟨bQ,rfl,G,H⟩
    obtain⟨l,J,K⟩:=v.out _ _ _ G H;have L:Hid ((ce c).J l ad E/\bM F w l E):=⟨by rw[aR.out];exact J,D.out.trans K⟩
    clear G H J K v D;go_wp2_with fail;go_ret;refine⟨l,?_,L.out.1,L.out.2⟩
    rw[ai.out];simp
  ·have k:aV=false:=by rw[n.out];simp[hd]
   have aR:Hid (ad=(S.1,o)):=by rw[m.out,ao (by rw[k];decide)];exact(rfl:(S.1,o)=(S.1,o))
   rw[k] at ai;subst he;have cx:(br==0)=false:=by simpa using hd
   clear m n k O;go_wp2_with fail
   go_quiet (fail)
   have M:=below_drewN (Below.refl f.heap.size f) nq;have g:Hid ((ce c).J F S (f.drewN nq)/\bM F w F (f.drewN nq)):=⟨(ce c).below q.out.1 M,q.out.2.below M⟩
   clear M q b0 b1 b2 b3 b5 R U;generalize f.drewN nq=j at*;obtain⟨b0,b1,_⟩:=dF g.out.1;obtain⟨t,r1,r0,u⟩:=hx g.out.1;have P:=aT.out _ _ r1;have v:Hid (∀A s1 w',(cf c.rp c.rb c.bS c.bT).J A s1 w'->bM t j A w'->∃d,(ce c).J d (S.1,s1) w'/\bM F j d w'):=u;have D:Hid (bM F w F j):=g.out.2;clear r1 r0 u g;go_wp2_with fail;refine P.mono ?_;clear P;rintro e E ⟨bQ,rfl,G,H⟩
   obtain⟨l,J,K⟩:=v.out _ _ _ G H;have L:Hid ((ce c).J l ad E/\bM F w l E):=⟨by rw[aR.out];exact J,D.out.trans K⟩
   clear G H J K v D;go_wp2_with fail;go_ret;refine⟨l,?_,L.out.1,L.out.2⟩
   rw[ai.out];simp
 ·have k:aV=false:=by rw[n.out];simp[he]
  have aR:Hid (ad=(S.1,o)):=by rw[m.out,ao (by rw[k];decide)];exact(rfl:(S.1,o)=(S.1,o))
  rw[k] at ai;have cy:(bp==0)=false:=by simpa using he
  clear m n k O;go_wp2_with fail
  go_quiet (fail)
  have M:=below_drewN (Below.refl f.heap.size f) nq;have g:Hid ((ce c).J F S (f.drewN nq)/\bM F w F (f.drewN nq)):=⟨(ce c).below q.out.1 M,q.out.2.below M⟩
  clear M q b0 b1 b2 b3 b5 R U;generalize f.drewN nq=j at*;obtain⟨b0,b1,_⟩:=dF g.out.1;obtain⟨t,r1,r0,u⟩:=hx g.out.1;have P:=aT.out _ _ r1;have v:Hid (∀A s1 w',(cf c.rp c.rb c.bS c.bT).J A s1 w'->bM t j A w'->∃d,(ce c).J d (S.1,s1) w'/\bM F j d w'):=u;have D:Hid (bM F w F j):=g.out.2;clear r1 r0 u g;go_wp2_with fail;refine P.mono ?_;clear P;rintro e E ⟨bQ,rfl,G,H⟩
  obtain⟨l,J,K⟩:=v.out _ _ _ G H;have L:Hid ((ce c).J l ad E/\bM F w l E):=⟨by rw[aR.out];exact J,D.out.trans K⟩
  clear G H J K v D;go_wp2_with fail;go_ret;refine⟨l,?_,L.out.1,L.out.2⟩
  rw[ai.out];simp
end
section
variable {c:ej}{F:Nat->Prop}{S:bZ×b_}{w:World}
theorem Aq (h:(ce c).J F S w)(a d B C:Int)(hd:a<0\/5<a):
 Calls prog 8 #[af c.pb,j_ a d B C] w fun e w'=>∃m,e=.returned (.bool true)/\(ce c).J m S w'/\bM F w m w':=by
 have A:(a==0)=false:=by rw[beq_eq_false_iff_ne];omega
 have D:(a==1)=false:=by rw[beq_eq_false_iff_ne];omega
 have E:(a==2)=false:=by rw[beq_eq_false_iff_ne];omega
 have G:(a==3)=false:=by rw[beq_eq_false_iff_ne];omega
 have H:(a==4)=false:=by rw[beq_eq_false_iff_ne];omega
 have J:(a==5)=false:=by rw[beq_eq_false_iff_ne];omega
 clear hd;have n:=(Below.refl w.heap.size w).alloc bJ (cJ a d B C)
 have g:Hid ((ce c).J F S w/\Below w.heap.size w (w.alloc (cJ a d B C))):=⟨h,n⟩
 have o:=hL d;have p:=hL C;have K:=dY C;have L:=dY d;have i:Hid ((w.alloc (cJ a d B C)).heap[w.heap.size]?=some (cJ a d B C)):=aw _ _;obtain⟨q0,q1,q,q3⟩:=fJ i.out;generalize bV d=s at*;generalize bV C=t at*;clear h n;go_enter func8,ntmps8
 go_upto_region 1 with fail
 go_region_held3 (fun w'=>w'.cell? (ah w.heap.size 1)=some (ae d)/\w'.cell? (ah w.heap.size 3)=some (ae C)) (go_keep)
  (first
    |(go_at_call 23;refine(o _).mono ?_;rintro e v ⟨rfl,f⟩;have f:=f.symm;subst f)
    |(go_at_call 23;refine(p _).mono ?_;rintro e v ⟨rfl,f⟩;have f:=f.symm;subst f))
 have k:=g.out.2.drew;have l:=(ce c).below g.out.1 k;have u:Hid ((ce c).J F S (w.alloc (cJ a d B C)).drew/\bM F w F (w.alloc (cJ a d B C)).drew/\∀b,F b->b<w.heap.size):=⟨l,bM.of k,(ce c).lt g.out.1⟩
 have j:(w.alloc (cJ a d B C)).drew.heap[w.heap.size]?=some (cJ a d B C):=i.out;clear g i q0 q1 q q3 o p k;generalize (w.alloc (cJ a d B C)).drew=x at*;obtain⟨q0,q1,q,q3⟩:=fJ j;have i:Hid (x.heap[w.heap.size]?=some (cJ a d B C)):=j;obtain⟨b0,b1,b2,b3,b5,b6,l1,l2,M,n1,N,O⟩:=dF l;have P:=lt_of_some j;have Q:(0:Int)<=(t:Int):=I;have R:(t:Int)<12:=I;have j0:(0:Int)<=(s:Int):=I;have U:(s:Int)<12:=I;clear l j;clear b6;go_wp2_with fail;go_ret;exact⟨F,rfl,u.out.1,u.out.2.1⟩
end
open Go.RowKit W
theorem Ar {P:Program}{o:Oper}{a:Act}{w:World}{K:Act->World->Prop}{Q:Exit->Act->World->Prop}(n:o.guard=none)(e s:Operand)(f sT i:TypeId)
 (x:o.op=.call {callee:=.builtin .copy,args:=#[e,s],argTypes:=#[f,sT]})(A:P.underlying f=some (.slice i))(B:(P.info? i).map (·.size)=some 1)
 (k sp:Option Addr)(l p m q:Nat)(hd:a.eval e=.slice k l p)(hs:a.eval s=.slice sp m q)
 (g c:Nat)(d:List Value)(t:TypeId)(hg:w.heap[g]?=some (.cells d.toArray t (0,0)))(b:List Value)(C:b.length=Nat.min m l)
 (D:0<b.length->k=some ⟨g,c,none⟩/\∃u,sp=some u/\∀j v,b[j]?=some v->w.cell? (u.add j)=some v)
 (F:c+b.length<=d.length)(G:∀v∈b,v.oneCell'=true)
 (h:∀w',l9 w w' g d c b->K (a.put o.dst (goInt b.length)) w'):Oper.wp P o a w K Q:=by
 have:=oX (P:=P) (ops:=#[]) (o:=o) (a:=a) (w:=w) (K:=K) (Q:=Q) (E:=False) n e s f sT i x A B k sp l p m q hd hs g c d t hg b C D F G h;rwa [aq (show Region.wanted o (yielded #[] a.tmps)=true by simp[Region.wanted,n])] at this
theorem As {P:Program}{ops:Array Oper}{rest:List Oper}{o:Oper}{a:Act}{w:World}{Q:Exit->Act->World->Prop}(n:o.guard=none)(e s:Operand)(f sT i:TypeId)
 (x:o.op=.call {callee:=.builtin .copy,args:=#[e,s],argTypes:=#[f,sT]})(A:P.underlying f=some (.slice i))(B:(P.info? i).map (·.size)=some 1)
 (k sp:Option Addr)(l p m q:Nat)(hd:a.eval e=.slice k l p)(hs:a.eval s=.slice sp m q)
 (g c:Nat)(d:List Value)(t:TypeId)(hg:w.heap[g]?=some (.cells d.toArray t (0,0)))(b:List Value)(C:b.length=Nat.min m l)
 (D:0<b.length->k=some ⟨g,c,none⟩/\∃u,sp=some u/\∀j v,b[j]?=some v->w.cell? (u.add j)=some v)
 (E:c+b.length<=d.length)(F:∀v∈b,v.oneCell'=true)
 (h:∀w',l9 w w' g d c b->wpList P ops Q rest (a.put o.dst (goInt b.length)) w'):wpList P ops Q (o::rest) a w:=
 wpList_plain n fun _ G=>Ar n e s f sT i x A B k sp l p m q hd hs g c d t hg b C D E F (fun w' hw=>G _ _ (h w' hw))
theorem Au (w:World):Calls prog 177 #[.int .u64 1,.int .u64 12] w fun e w'=>e=.returned (.tuple #[.int .u64 0,.int .u64 12])/\w'=w:=by go_enter func177,ntmps177;go_wp2_with fail;go_ret2;exact⟨rfl,rfl⟩
theorem Av (w:World):Calls prog 134 #[.int .u64 1,.int .u64 12] w fun e w'=>e=.returned (.tuple #[.int .u64 0,.int .u64 12])/\w'=w:=by
 go_enter func134,ntmps134;go_wp2_with fail;refine(Au w).mono ?_;rintro e w1 ⟨rfl,hw⟩
 have hw:=hw.symm;subst hw;go_wp2_with fail;go_ret2;exact⟨rfl,rfl⟩
def tw (v:Int)(n:Nat):List Int:=List.replicate n v++List.replicate (12-n) 0
theorem p5 (v:Int)(n:Nat)(h:n<=12):(tw v n).length=12:=by simp[tw];omega
theorem Aw (v:Int)(n m:Nat)(h:n+m<=12):splice (tw v n) n (List.replicate m v)=tw v (n+m):=by unfold splice tw;rw[List.take_left' V,List.length_replicate,List.drop_append,List.length_replicate];simp only [List.drop_replicate];rw[show n-(n+m)=0 by omega,show 12-n-(n+m-n)=12-(n+m) by omega];simp;rw[<-aU,List.replicate_append_replicate]
theorem Ax (v:Int)(n i:Nat)(h:i<n):(tw v n).getD i 0=v:=by unfold tw;rw[aj,ba (by simpa using h)];simp[h]
theorem one_cell {w:World}{b:Nat}{v:Int}(hc:w.cell? (ah b 0)=some (ae v)):∀j u,((List.replicate 1 v).map (Value.int .i64))[j]?=some u->w.cell? ((⟨b,0,none⟩:Addr).add j)=some u:=by
 intro j u a;have c:j=0:=by have:=(List.getElem?_eq_some_iff.1 a).1;simpa using this
 subst c;simp at a;rw[<-a];simpa[Addr.add] using hc
theorem Ay {w:World}{nb n:Nat}{v:Int}(b:w.heap[nb]?=some (.cells ((tw v n).map (Value.int .i64)).toArray 2 (0,0)))(c:n<=12)(m:Nat)(hm:m<=n):∀j u,((List.replicate m v).map (Value.int .i64))[j]?=some u->w.cell? ((⟨nb,0,none⟩:Addr).add j)=some u:=by
 intro j u a;have d:j<m:=by have:=(List.getElem?_eq_some_iff.1 a).1;simpa using this
 have e:u=ae v:=by simp[d] at a;exact a.symm
 have hl:=p5 v n c;have hg:=Ax v n j I;rw[aj,am (by omega:j<(tw v n).length)] at hg;simp at hg;have ea:(⟨nb,0,none⟩:Addr).add j=⟨nb,j,none⟩:=by simp[Addr.add];intro h;exact h.symm
 rw[ea,e];have f:j<(tw v n).length:=I;simp[World.cell?,b,List.getElem?_eq_getElem f];exact hg
theorem t_ {w w':World}{nb n m B:Nat}{v:Int}(a:l9 w w' nb ((tw v n).map (Value.int .i64)) n ((List.replicate m v).map (Value.int .i64)))(b:w.heap[nb]?=some (.cells ((tw v n).map (Value.int .i64)).toArray 2 (0,0)))(hm:0<m)(h:n+m<=12)(hB:B<=nb):w'.heap[nb]?=some (.cells ((tw v (n+m)).map (Value.int .i64)).toArray 2 (0,0))/\Below B w w':=by
 rcases a with⟨h0,_⟩|rfl
 ·have:=congrArg List.length h0;simp at this
  omega
 ·rw[q_,Aw v n m h];exact⟨setRow_heap w nb _ _ _ _ b,⟨rfl,rfl,rfl,by simp[World.setRow],fun k hk=>setRow_other w nb k _ I⟩⟩
theorem Az (w:World)(b:Nat)(v:Int)(hc:w.cell? (ah b 0)=some (ae v)):
 Calls prog 63 #[.slice (ag b) 1 1,ae 12] w fun e w'=>∃nb,e=.returned (.slice (ag nb) 12 12)/\w.heap.size<=nb/\w'.heap[nb]?=some (.cells ((tw v 12).map (Value.int .i64)).toArray 2 (0,0))/\Below w.heap.size w w':=by
 obtain⟨q,hi,L,M,N⟩:=info_parts q8;have lb:=au w _ hc;dsimp only at lb;go_enter func63,ntmps63;go_wp2_with fail;refine(Av w).mono ?_;rintro e w0 ⟨rfl,hw⟩
 have hw:=hw.symm;subst hw
 go_upto_region 7 with(at_make;refine wpList_make_full _ rfl _ _ 53 rfl w.heap.size 2 q (ae 0) 1 Tryz.underlying53 hi L M .i64 .i64 _ _ 12 rfl rfl I I (by rw[N];omega) (by unfold maxLen;omega) bJ ?_;intro w1 s t)
 have x:w1.heap[w.heap.size]?=some (.cells ((tw v 0).map (Value.int .i64)).toArray 2 (0,0)):=by have O:=q9 s;simpa[tw] using O
 have g:Below w.heap.size w w1:=(Below.refl _ w).grown t bJ (fun _ h=>by cases h)
 have A:=(g.cell (p:=ah b 0) lb).trans hc;clear s t;have a:Hid (∀j u,((List.replicate 1 v).map (Value.int .i64))[j]?=some u->w1.cell? ((⟨b,0,none⟩:Addr).add j)=some u):=one_cell A;have i:Hid (w1.heap[w.heap.size]?=some (.cells ((tw v 0).map (Value.int .i64)).toArray 2 (0,0))):=x;have c:Hid (((List.replicate 1 v).map (Value.int .i64)).length=Nat.min 1 12):=rfl;have d:Hid (0+((List.replicate 1 v).map (Value.int .i64)).length<=((tw v 0).map (Value.int .i64)).length):=by show _<=_;rw[aE,aE,p5 v 0 I];simp
 clear A x;go_wp2_with (refine As rfl _ _ 53 53 2 rfl Tryz.underlying53 oY (ag w.heap.size) (ag b) 12 12 1 1 rfl rfl w.heap.size 0 ((tw v 0).map (Value.int .i64)) 2 i.out ((List.replicate 1 v).map (Value.int .i64)) c.out (fun _=>⟨rfl,_,rfl,a.out⟩) d.out (oZ _) ?_;intro W C)
 obtain⟨D,E⟩:=t_ (B:=w.heap.size) C i.out I I bJ
 have F:=g.trans E;clear C a i c d g E
 go_loopw [8] (fun nv wr=>∃n:Nat,1<=n/\n<=12/\nv=ae n/\Hid (wr.heap[w.heap.size]?=some (.cells ((tw v n).map (Value.int .i64)).toArray 2 (0,0)))/\Below w.heap.size w wr) (fun nv _=>12-(intOf nv).toNat)
 case atStart=>exact⟨1,ak _,I,rfl,D,F⟩
 case round=>
  clear D F;obtain⟨n,n1,G,rfl,k,l⟩:=hrel;by_cases X:n<12
  ·obtain⟨m,hm,P,o,Q⟩:∃m,m=Nat.min n (12-n)/\0<m/\n+m<=12/\m<=n:=⟨_,rfl,by simp only [Nat.min_def];split<;>omega,by simp only [Nat.min_def];split<;>omega,by simp only [Nat.min_def];split<;>omega⟩
   have f:Hid (wr.drew.heap[w.heap.size]?=some (.cells ((tw v n).map (Value.int .i64)).toArray 2 (0,0))):=k.out;have a:Hid (∀j u,((List.replicate m v).map (Value.int .i64))[j]?=some u->wr.drew.cell? ((⟨w.heap.size,0,none⟩:Addr).add j)=some u):=Ay f.out G m Q;have c:Hid (((List.replicate m v).map (Value.int .i64)).length=Nat.min n (12-n)):=by show _=_;rw[<-hm];simp
   have d:Hid (n+((List.replicate m v).map (Value.int .i64)).length<=((tw v n).map (Value.int .i64)).length):=by show _<=_;rw[aE,aE,p5 v n G];simpa using o
   have Y:¬12=n:=I;have q:(0:Int)<=(n:Int):=I;have ad:(n:Int)<=12:=I;have ai:(n:Int)<12:=I;clear k;go_wp2_with fail
   go_region_law (refine oX rfl (.tmp 41) (.tmp 44) 53 53 2 rfl Tryz.underlying53 oY (some ⟨w.heap.size,n,none⟩) (ag w.heap.size) (12-n) (12-n) n 12 ?_ ?_ w.heap.size n ((tw v n).map (Value.int .i64)) 2 f.out ((List.replicate m v).map (Value.int .i64)) c.out (fun _=>⟨rfl,_,rfl,a.out⟩) d.out (oZ _) ?_;(simp[Act.eval,Act.put]);(simp[Act.eval,Act.put]);intro w3 H)
   obtain⟨J,K⟩:=t_ (B:=w.heap.size) H f.out P o bJ
   have R:Hid (w3.heap[w.heap.size]?=some (.cells ((tw v (n+m)).map (Value.int .i64)).toArray 2 (0,0))):=J;have S:=l.drew.trans K;have hw:IntKind.i64.wrap ((n:Int)+(m:Int))=((n+m:Nat):Int):=by rw[a_];omega
   clear J K H f a c d l;simp[Act.put,go_sem,Exit.inBlock];rw[<-hm,hw];refine⟨⟨_,_,_,_,_,_,_,_,_,_,_,_,_,_,?rel,rfl⟩,?measure⟩
   case rel=>exact⟨n+m,I,o,rfl,R,S⟩
   case measure=>simp[intOf];omega
  ·obtain rfl:n=12:=I;have U:=k.out;go_wp2_with fail;go_ret;exact⟨w.heap.size,rfl,ak _,U,l⟩
theorem AA (n o:Nat)(w:World)(h0:16<=n)(bp:n<=256)(br:o<=1024):
 Calls prog 21 #[ae n,ae o] w fun e w'=>∃pw p q pc ct s nb,e=.returned (.tuple #[af pw,.agg #[ae 0,ae 0]])/\f0 w' pw p q pc ct n o 0 0 (List.replicate (n+o) 0) (dx o) [] (af s) (.slice (ag nb) 12 12)/\w'.heap[s]?=some (.cells #[.slice none 0 0,.slice none 0 0] 128 (0,0))/\w'.heap[nb]?=some (.cells ((tw 2 12).map (Value.int .i64)).toArray 2 (0,0))/\
  (w.heap.size<=pw/\w.heap.size<=p/\w.heap.size<=q/\w.heap.size<=pc/\w.heap.size<=ct/\w.heap.size<=s/\w.heap.size<=nb)/\Below w.heap.size w w':=by
 have D:=(Below.refl w.heap.size w).alloc bJ (.cells #[ae 0,ae 0] 28)
 have E:=aw w (.cells #[ae 0,ae 0] 28)
 have P:=wi n o (w.alloc (.cells #[.int .i64 0,.int .i64 0] 28)) I I I I;simp only [Int.toNat_natCast] at P;go_enter func21,ntmps21;go_wp2_with fail;refine P.mono ?_;clear P;rintro e w1 ⟨p,q,rfl,F,hp,hq,m⟩
 have G:=(m.block w.heap.size V).trans E;have ad:=D.trans (m.mono V)
 simp at hp hq;have ai:=m.size;simp at ai;have u:=F.alloc (.cells #[.int .i64 0,.int .i64 0] 28)
 have A:=(Below.refl w1.heap.size w1).alloc bJ (.cells #[ae 0,ae 0] 28)
 have al:=ad.trans (A.mono I)
 clear m E D;go_wp2_with fail;refine(jQ _ u).mono ?_;rintro e w3 ⟨rfl,j⟩
 have H:=u.below j bJ
 have ar:=al.trans (j.mono (by simp;omega))
 have ax:=j.size;simp at ax;have J:=((j.block w.heap.size (by simp;omega)).trans (A.block w.heap.size I)).trans G;clear F u j A G;go_wp2_with fail;refine(wW n o w3 I).mono ?_;rintro e c ⟨pc,ct,rfl,K,bs,bx,l⟩
 have L:=H.below l bJ
 have aB:=ar.trans (l.mono I)
 have bL:=l.size;have M:=(l.block w.heap.size I).trans J;clear H l J;go_wp2_with fail;have i:=(Below.refl c.heap.size c).alloc bJ (.cells #[.slice none 0 0,.slice none 0 0] 128)
 have B:=aw c (.cells #[.slice none 0 0,.slice none 0 0] 128)
 refine(oO _).mono ?_;rintro e C ⟨rfl,hw⟩
 have aF:C.heap.size=c.heap.size+1:=by rw[hw];simp
 rw[<-hw] at i B;clear hw;have N:=L.below i bJ
 have O:=K.below i bJ
 have aR:=aB.trans (i.mono I)
 have Q:=(i.block w.heap.size I).trans M;clear L K M i;go_wp2_with fail;have R:=(Below.refl C.heap.size C).alloc bJ (.cells #[ae 2] 2)
 refine(Az _ (c.heap.size+1) 2 (by rw[<-aF];simp)).mono ?_;rintro e b ⟨nb,rfl,S,U,W⟩
 have d:=R.trans (W.mono V)
 have aT:=N.below d bJ
 have aV:=O.below d bJ
 have a0:=aR.trans (d.mono I)
 have t:=(d.block w.heap.size I).trans Q;have a1:=(d.block c.heap.size I).trans B;have bM:=d.size;have bN:w.heap.size<nb:=by simp at S;omega
 have bO:=lt_of_some U;have X:b.cell? (ah w.heap.size 0)=some (ae 0):=by simp[World.cell?,t]
 have y1:b.cell? (ah w.heap.size 1)=some (ae 0):=by simp[World.cell?,t]
 have a2:b.frozen? (ah w.heap.size 0)=false:=by simp[World.frozen?,t]
 have a3:b.frozen? (ah w.heap.size 1)=false:=by simp[World.frozen?,t]
 have bb:w.heap.size<b.heap.size:=I;clear N O Q B W d R S;go_wp2_with fail;obtain⟨a,f⟩:∃a,a=(b.setCell ⟨w.heap.size,0,none⟩ (.int .i64 0)).setCell ⟨w.heap.size,1,none⟩ (.int .i64 0):=⟨_,rfl⟩
 rw[<-f];have bd:a.heap.size=b.heap.size:=by rw[f];simp[World.setCell]
 have k0:∀k,k≠w.heap.size->a.heap[k]?=b.heap[k]?:=fun k hk=>by rw[f];exact(Below.heap_setCell _ _ _ _ hk).trans (Below.heap_setCell _ _ _ _ hk)
 have g0:a.cell? (ah w.heap.size 0)=some (ae 0):=by rw[f,aC _ _ _ _ V];exact aH _ _ _ X
 have g1:a.cell? (ah w.heap.size 1)=some (ae 0):=by rw[f];exact aH _ _ _ ((aC b ⟨w.heap.size,0,none⟩ ⟨w.heap.size,1,none⟩ _ V).trans y1)
 have be:Below w.heap.size w a:=by rw[f];exact a0.trans ((((Fr.refl (fun k=>k=w.heap.size) b).set w.heap.size 0 _ rfl).set w.heap.size 1 _ rfl).below (Nat.le_of_lt bb) (fun x e=>by have e:x=w.heap.size:=e;omega))
 have Y:=aw a (.cells #[af p,af pc,af c.heap.size,.slice (ag nb) 12 12] 55)
 rw[bd] at Y;have g:=(Below.refl a.heap.size a).alloc bJ (.cells #[af p,af pc,af c.heap.size,.slice (ag nb) 12 12] 55)
 have bg:=(aT.same (w':=a) (k0 p I) (k0 q I)).below g bJ
 have bi:=(aV.same (w':=a) (k0 pc I) (k0 ct I)).below g bJ
 have bl:=((g.block c.heap.size I).trans (k0 _ I)).trans a1;have bn:=((g.block nb I).trans (k0 _ I)).trans U;have r0:=(g.cell (p:=ah w.heap.size 0) (by show w.heap.size<_;omega)).trans g0;have r1:=(g.cell (p:=ah w.heap.size 1) (by show w.heap.size<_;omega)).trans g1;have bo:=be.trans (g.mono I)
 clear X y1 a2 a3 f;generalize a.alloc (.cells #[.pointer (some ⟨p,0,none⟩),.pointer (some ⟨pc,0,none⟩),.pointer (some ⟨c.heap.size,0,none⟩),.slice (some ⟨nb,0,none⟩) 12 12] 55)=bP at*;refine aW (v:=.tuple #[af b.heap.size,.agg #[ae 0,ae 0]]) (by simp[results,results21,go_sem,r0,r1]) rfl ⟨b.heap.size,p,q,pc,ct,c.heap.size,nb,rfl,⟨Y,bg,bi⟩,bl,bn,⟨I,I,I,I,I,I,I⟩,bo⟩
theorem AB (n o:Int)(w:World)(h:n<16\/256<n\/o<0\/1024<o):
 Calls prog 21 #[ae n,ae o] w fun e w'=>e=.returned (.tuple #[.pointer none,.agg #[ae 1,ae (-1)]])/\Below w.heap.size w w':=by
 have g:=(Below.refl w.heap.size w).alloc bJ (.cells #[ae 0,ae 0] 28)
 have i:=aw w (.cells #[ae 0,ae 0] 28)
 have P:=wj n o (w.alloc (.cells #[.int .i64 0,.int .i64 0] 28)) h;clear h;go_enter func21,ntmps21;go_wp2_with fail;refine P.mono ?_;clear P;rintro e w1 ⟨rfl,d⟩
 have c:=(d.block w.heap.size V).trans i;have l:=g.trans (d.mono V)
 have m:=d.size;simp at m;have j:w1.cell? (ah w.heap.size 0)=some (ae 0):=by simp[World.cell?,c]
 have y1:w1.cell? (ah w.heap.size 1)=some (ae 0):=by simp[World.cell?,c]
 have q:w1.frozen? (ah w.heap.size 0)=false:=by simp[World.frozen?,c]
 have s:w1.frozen? (ah w.heap.size 1)=false:=by simp[World.frozen?,c]
 have l1:w.heap.size<w1.heap.size:=I;have A:¬w.heap.size=w1.heap.size:=I;have B:¬w1.heap.size=w.heap.size:=I;clear d i g c;go_wp2_with fail
 go_region_law (fail)
 all_goals
  obtain⟨a,b⟩:∃a,a=(w1.setCell ⟨w.heap.size,0,none⟩ (.int .i64 1)).setCell ⟨w.heap.size,1,none⟩ (.int .i64 (-1)):=⟨_,rfl⟩
  rw[<-b];have C:a.heap.size=w1.heap.size:=by rw[b];simp[World.setCell]
  have g0:a.cell? (ah w.heap.size 0)=some (ae 1):=by rw[b,aC _ _ _ _ V];exact aH _ _ _ j
  have g1:a.cell? (ah w.heap.size 1)=some (ae (-1)):=by rw[b];exact aH _ _ _ ((aC w1 ⟨w.heap.size,0,none⟩ ⟨w.heap.size,1,none⟩ _ V).trans y1)
  have t:Below w.heap.size w a:=by rw[b];exact l.trans ((((Fr.refl (fun k=>k=w.heap.size) w1).set w.heap.size 0 _ rfl).set w.heap.size 1 _ rfl).below (Nat.le_of_lt l1) (fun x e=>by have e:x=w.heap.size:=e;omega))
  have f:=((Below.refl a.heap.size a).alloc bJ (.cells #[ae 1,ae (-1)] 28)).drew;have r0:=(f.cell (p:=ah w.heap.size 0) (by show w.heap.size<_;omega)).trans g0;have r1:=(f.cell (p:=ah w.heap.size 1) (by show w.heap.size<_;omega)).trans g1;have u:=t.trans (f.mono I)
  clear j y1 q s b f g0 g1;generalize (a.alloc (.cells #[.int .i64 1,.int .i64 (-1)] 28)).drew=D at*;go_wp2_with fail;refine aW (v:=.tuple #[.pointer none,.agg #[ae 1,ae (-1)]]) (by simp[results,results21,go_sem,r0,r1]) rfl ⟨rfl,u⟩
structure Wf (w:World)(pw p q pc ct sd nb N O y g:Nat)(ws:List Int)(c:Int)(M rs:List Int):Prop where
 gn:f0 w pw p q pc ct N O y g ws c M (af sd) (.slice (ag nb) 12 12)
 AC:w.heap[sd]?=some (.cells #[.slice none 0 0,.slice none 0 0] 128 (0,0))
 rts:w.heap[nb]?=some (.cells (rs.map (Value.int .i64)).toArray 2 (0,0))
 rl:rs.length=12
 nq:nb≠q
section
variable {w w':World}{pw p q pc ct sd nb N O y g:Nat}{ws:List Int}{c:Int}{M rs:List Int}
theorem Wf.apart (h:Wf w pw p q pc ct sd nb N O y g ws c M rs):(sd≠p/\sd≠q/\sd≠pc/\sd≠ct)/\(nb≠p/\nb≠q/\nb≠pc/\nb≠ct)/\nb≠pw/\nb≠sd:=by
 obtain⟨D,⟨l,m,d,_⟩,_⟩:=h.gn.cd.hq;have j:=h.gn.blk;have f:=h.gn.ar.hp;have k:=h.gn.ar.hq;have i:=h.gn.cd.hp;have b:=h.AC;have a:=h.rts;refine⟨⟨fun e=>?_,fun e=>?_,fun e=>?_,fun e=>?_⟩,⟨fun e=>?_,h.nq,fun e=>?_,fun e=>?_⟩,fun e=>?_,fun e=>?_⟩
 ·rw[e,f] at b;simp at b
 ·rw[e,k] at b;simp at b
 ·rw[e,i] at b;simp at b
 ·rw[e,d] at b;simp at b
 ·rw[e,f] at a;simp at a
 ·rw[e,i] at a;simp at a
 ·rw[e,d] at a;simp at a
 ·rw[e,j] at a;simp at a
 ·rw[e,b] at a;simp at a
end
def p6:List Int:=eA (List.replicate 24 0) 0 (hw 1 2) 2
def n6:List Int:=fi 16 3 0 p6 (ew 3 0) 1 20
def ua:List Int:=(tw 2 12).set 0 (ew 3 0)
theorem b1:dH 16 3 0 p6 (ew 3 0) 1=0:=by decide+kernel
theorem b2:stM 16 3 0 p6 (ew 3 0) 1 20 (dx 8) []=[]:=by decide+kernel
theorem b3:dH 16 3 0 n6 (ew 3 0) 1=0:=by decide+kernel
theorem b4:ld 16 3 0 n6 (bQ (ew 3 0)+1+1)=20:=by decide+kernel
theorem b5:(c_ 16 3 0 n6 [] ua).1=[(3,0),(0,0),(0,0),(0,0),(0,0),(0,0),(0,0),(0,0),(0,0),(0,0),(0,0),(0,0)]:=by decide+kernel
theorem b6:(c_ 16 3 0 n6 [] ua).2.2=[(1,[(0,0),(1,5)])]:=by decide+kernel
theorem AD {w w':World}{pw p q pc ct s nb n o:Nat}(b:f0 w' pw p q pc ct n o 0 0 (List.replicate (n+o) 0) (dx o) [] (af s) (.slice (ag nb) 12 12))(hs:w'.heap[s]?=some (.cells #[.slice none 0 0,.slice none 0 0] 128 (0,0)))(c:w'.heap[nb]?=some (.cells ((tw 2 12).map (Value.int .i64)).toArray 2 (0,0)))(_:Below w.heap.size w w')(h0:16<=n):
 Wf w' pw p q pc ct s nb n o 0 0 (List.replicate (n+o) 0) (dx o) [] (tw 2 12):=by
 refine⟨b,hs,c,Z,fun e=>?_⟩
 have:=b.ar.hq;rw[<-e,c] at this
 simp only [Option.some.injEq,Obj.cells.injEq,and_true] at this
 have d:=congrArg (fun a:Array Value=>a[0]?) this
 rw[show n+o=(n+o-1)+1 by omega] at d;simp[tw,List.replicate_succ] at d
end Go.Proofs.YtjpjpjemibgjpaaGreat
