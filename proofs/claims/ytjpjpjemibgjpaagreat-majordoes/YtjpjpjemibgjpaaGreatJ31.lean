import Derived.Test.YtjpjpjemibgjpaaGreatJ30
import Derived.Test.YtjpjpjemibgjpaaGreatJ01
import Derived.Test.YtjpjpjemibgjpaaGreatJ04
import Derived.Test.YtjpjpjemibgjpaaGreatJ02
import Derived.Test.YtjpjpjemibgjpaaGreatJ00
import Derived.Test.YtjpjpjemibgjpaaGreatJ05
namespace Go.Proofs.YtjpjpjemibgjpaaGreat
set_option maxRecDepth 100000
set_option maxHeartbeats 4000000
open Tryz
open Go.RowKit W Kp bY
abbrev j_ (a b B C:Int):Value:=.agg #[ae a,ae b,ae B,ae C]
abbrev cJ (a b B C:Int):Obj:=.cells #[ae a,ae b,ae B,ae C] 31
section
variable {c:ej}{F:Nat->Prop}{S:bZ×b_}{w:World}
theorem fJ {a c B C:Int}{b:Nat}{w1:World}(h:w1.heap[b]?=some (cJ a c B C)):w1.cell? (ah b 0)=some (ae a)/\w1.cell? (ah b 1)=some (ae c)/\w1.cell? (ah b 2)=some (ae B)/\w1.cell? (ah b 3)=some (ae C):=
 ⟨by simp[World.cell?,h],by simp[World.cell?,h],by simp[World.cell?,h],by simp[World.cell?,h]⟩
theorem dF (h:(ce c).J F S w):w.cell? (ah c.pb 0)=some (af c.a.pw)/\w.cell? (ah c.pb 1)=some (af c.rp)/\w.cell? (ah c.a.pw 0)=some (af c.a.p)/\w.cell? (ah c.a.pw 2)=some (af c.a.sd)/\w.cell? (ah c.a.pw 3)=some (.slice (ag c.a.nb) 12 12)/\(∀i,i<12->w.cell? (ah c.a.nb i)=some (ae (S.1.s.rs.getD i 0))/\w.frozen? (ah c.a.nb i)=false)/\c.pb<w.heap.size/\c.a.pw<w.heap.size/\c.a.nb<w.heap.size/\c.a.nb≠c.pb/\c.a.nb≠c.a.pw/\c.a.nb≠c.rp:=by
 obtain⟨b0,b1,b2⟩:=n3 h;obtain⟨d,f,a,g,t,j,k,u,v⟩:=h;obtain⟨x,g1,_⟩:=i9 a;obtain⟨c0,_,c2,l,lw,_,ln,m⟩:=hH g1;obtain⟨A,ar,B,⟨C,D,E,⟨own,ct,hM,hO⟩,G,H,n,_⟩,r0,r1,o⟩:=a;have b:d c.a.nb:=(o _).2 (ap (n _ ((hO _).2 (by rw[hM.r1];decide))))
 obtain⟨J,K,L,M,N,p,q⟩:=g;have s:f c.rp:=(q _).2 (by rw[p.b1];decide)
 exact⟨b0,b1,c0,c2,l,m,b2,lw,ln,fun e=>k (by rw[<-e];exact b),fun e=>by have a:=hM.r1;rw[e,hM.w1] at a;omega,fun e=>j _ b (by rw[e];exact s)⟩
theorem n5 (h:(ce c).J F S w)(i:Nat)(x:Int):∃a,(ce c).J a (⟨{S.1.s with rs:=S.1.s.rs.set i x},S.1.r,S.1.q⟩,S.2) (w.setCell ⟨c.a.nb,i,none⟩ (.int .i64 x))/\bM F w a (w.setCell ⟨c.a.nb,i,none⟩ (.int .i64 x)):=by obtain⟨f,b,_,d⟩:=ip h;obtain⟨g,g1,g2⟩:=i9 b;obtain⟨k1,e⟩:=ta g1 i x;obtain⟨j,l1,l2⟩:=g2 _ _ _ k1 e;exact d _ _ _ l1 l2
theorem Ag (h:(ce c).J F S w)(a B C:Int):
 Calls prog 8 #[af c.pb,j_ 4 a B C] w fun e w'=>∃d,e=.returned (.bool true)/\(ce c).J d (⟨{S.1.s with rs:=S.1.s.rs.set (bV C) 2},S.1.r,S.1.q⟩,{S.2 with rs:=S.2.rs.set (bV C) (0,0)}) w'/\bM F w d w':=by
 have p:=(Below.refl w.heap.size w).alloc bJ (cJ 4 a B C)
 have f:Hid ((ce c).J F S w/\Below w.heap.size w (w.alloc (cJ 4 a B C))):=⟨h,p⟩
 have q:=hL a;have s:=hL C;have t:=dY C;have R:=dY a;have g:Hid ((w.alloc (cJ 4 a B C)).heap[w.heap.size]?=some (cJ 4 a B C)):=aw _ _;obtain⟨q0,q1,_,q3⟩:=fJ g.out;generalize bV a=ra at*;generalize bV C=rc at*;clear h p;go_enter func8,ntmps8
 go_upto_region 1 with fail
 go_region_held3 (fun w'=>w'.cell? (ah w.heap.size 1)=some (ae a)/\w'.cell? (ah w.heap.size 3)=some (ae C)) (go_keep)
  (first
    |(go_at_call 23;refine(q _).mono ?_;rintro e u ⟨rfl,b⟩;have b:=b.symm;subst b)
    |(go_at_call 23;refine(s _).mono ?_;rintro e u ⟨rfl,b⟩;have b:=b.symm;subst b))
 have i:=f.out.2.drew;have j:=(ce c).below f.out.1 i;have k:Hid ((ce c).J F S (w.alloc (cJ 4 a B C)).drew/\bM F w F (w.alloc (cJ 4 a B C)).drew):=⟨j,bM.of i⟩
 have v:(w.alloc (cJ 4 a B C)).drew.heap[w.heap.size]?=some (cJ 4 a B C):=g.out;clear f g q0 q1 q3 q s i;generalize (w.alloc (cJ 4 a B C)).drew=l at*;obtain⟨q0,q1,_,q3⟩:=fJ v;obtain⟨b0,b1,_,_,b5,b6,l1,l2,U,n1,W,X⟩:=dF j;obtain⟨N,O⟩:=b6 rc t;have Y:(0:Int)<=(rc:Int):=I;have ad:(rc:Int)<12:=I;clear b6 j v;go_wp2_with fail
 go_region_held3 (fun w'=>w'.cell? (ah c.pb 0)=some (af c.a.pw)/\w'.cell? (ah c.a.pw 3)=some (.slice (ag c.a.nb) 12 12)) (go_keep)
  (first
    |(go_at_call 30;refine(oO _).mono ?_;rintro e u ⟨rfl,b⟩;have b:=b.symm;subst b))
 obtain⟨x,b7,t3⟩:=n5 k.out.1 rc 2;have m:=(Below.refl (l.setCell ⟨c.a.nb,rc,none⟩ (.int .i64 2)).heap.size (l.setCell ⟨c.a.nb,rc,none⟩ (.int .i64 2))).drew;have n:=(ce c).below b7 m;have A:=(k.out.2.trans t3).below m;clear b7 t3 m b0 b1 b5 N O k;generalize (l.setCell ⟨c.a.nb,rc,none⟩ (.int .i64 2)).drew=w3 at*;obtain⟨b0,b1,_⟩:=dF n;obtain⟨Q,r1,_,D⟩:=hx n;have P:=z7 r1 rc t;have E:Hid (∀G s1 w',(cf c.rp c.rb c.bS c.bT).J G s1 w'->bM Q w3 G w'->∃d,(ce c).J d (⟨{S.1.s with rs:=S.1.s.rs.set rc 2},S.1.r,S.1.q⟩,s1) w'/\bM x w3 d w'):=D;have H:Hid (bM F w x w3):=A;clear r1 D n A;go_wp2_with fail;refine P.mono ?_;clear P;rintro e J ⟨rfl,b9,K⟩
 obtain⟨o,cC,L⟩:=E.out _ _ _ b9 K;have M:Hid ((ce c).J o (⟨{S.1.s with rs:=S.1.s.rs.set rc 2},S.1.r,S.1.q⟩,{S.2 with rs:=S.2.rs.set rc (0,0)}) J/\bM F w o J):=⟨cC,H.out.trans L⟩
 clear b9 K cC L E H;go_wp2_with fail;go_ret;exact⟨o,rfl,M.out.1,M.out.2⟩
end
section
variable {c:ej}{F:Nat->Prop}{S:bZ×b_}{w:World}
def jC (S:bZ×b_)(a C:Int):bZ×b_:=(⟨{S.1.s with rs:=if vc 1 a=0 then S.1.s.rs.set (bV C) (ew 1 a) else S.1.s.rs},S.1.r,S.1.q⟩,if rc a (-1152921504606846976)=0 then {S.2 with rs:=S.2.rs.set (bV C) (1,a)} else S.2)
theorem Ah (h:(ce c).J F S w)(d B C:Int):
 Calls prog 8 #[af c.pb,j_ 3 d B C] w fun e w'=>∃j,e=.returned (.bool (vc 1 d==rc d (-1152921504606846976)))/\(ce c).J j (jC S d C) w'/\bM F w j w':=by
 have W:=qT 1 d;have k:Hid (jC S d C=(⟨{S.1.s with rs:=if vc 1 d=0 then S.1.s.rs.set (bV C) (ew 1 d) else S.1.s.rs},S.1.r,S.1.q⟩,if rc d (-1152921504606846976)=0 then {S.2 with rs:=S.2.rs.set (bV C) (1,d)} else S.2)):=rfl;have ax:Hid (∀{F:Nat->Prop}{s:b_}{w:World},(cf c.rp c.rb c.bS c.bT).J F s w->∀(R:Nat),R<12->Calls prog 14 #[af c.rp,jB 1 R 0 0 0 d] w fun e w'=>e=.returned (ae (rc d (-1152921504606846976)))/\(cf c.rp c.rb c.bS c.bT).J F (if rc d (-1152921504606846976)=0 then {s with rs:=s.rs.set R (1,d)} else s) w'/\bM F w F w'):=fun h R bn=>z6 h R bn d;generalize jC S d C=a0 at k⊢;generalize rc d (-1152921504606846976)=z at k ax⊢;generalize vc 1 d=v at W k⊢;generalize ew 1 d=x at W k;have a1:=(Below.refl w.heap.size w).alloc bJ (cJ 3 d B C)
 have X:Hid ((ce c).J F S w/\Below w.heap.size w (w.alloc (cJ 3 d B C))):=⟨h,a1⟩
 have bo:Hid (c.a.nb<w.heap.size/\c.a.pw<w.heap.size/\c.pb<w.heap.size):=⟨(dF h).2.2.2.2.2.2.2.2.1,(dF h).2.2.2.2.2.2.2.1,(dF h).2.2.2.2.2.2.1⟩
 have a2:=hL d;have a3:=hL C;have aB:=dY C;have bs:=dY d;have u:Hid ((w.alloc (cJ 3 d B C)).heap[w.heap.size]?=some (cJ 3 d B C)):=aw _ _;obtain⟨q0,q1,l,q3⟩:=fJ u.out;generalize bV d=bb at*;generalize bV C=i at*;clear h a1;go_enter func8,ntmps8
 go_upto_region 1 with fail
 go_region_held3 (fun w'=>w'.cell? (ah w.heap.size 1)=some (ae d)/\w'.cell? (ah w.heap.size 3)=some (ae C)) (go_keep)
  (first
    |(go_at_call 23;refine(a2 _).mono ?_;rintro e bp ⟨rfl,m⟩;have m:=m.symm;subst m)
    |(go_at_call 23;refine(a3 _).mono ?_;rintro e bp ⟨rfl,m⟩;have m:=m.symm;subst m))
 have aF:=X.out.2.drew;have aR:=(ce c).below X.out.1 aF;have Y:Hid ((ce c).J F S (w.alloc (cJ 3 d B C)).drew/\bM F w F (w.alloc (cJ 3 d B C)).drew/\∀b,F b->b<w.heap.size):=⟨aR,bM.of aF,(ce c).lt X.out.1⟩
 have ad:(w.alloc (cJ 3 d B C)).drew.heap[w.heap.size]?=some (cJ 3 d B C):=u.out;clear X u q0 q1 l q3 a2 a3 aF;generalize (w.alloc (cJ 3 d B C)).drew=bd at*;obtain⟨q0,q1,l,q3⟩:=fJ ad;have u:Hid (bd.heap[w.heap.size]?=some (cJ 3 d B C)):=ad;obtain⟨b0,b1,b2,b3,b5,b6,l1,l2,ai,n1,be,bg⟩:=dF aR;have A:=lt_of_some ad;have bx:(0:Int)<=(i:Int):=I;have bL:(i:Int)<12:=I;have j0:(0:Int)<=(bb:Int):=I;have bN:(bb:Int)<12:=I;clear aR ad;go_wp2_with fail;refine(W bd).mono ?_;clear W;rintro e w3 ⟨rfl,al⟩
 have E:Hid ((ce c).J F S w3/\bM F w F w3):=⟨(ce c).below Y.out.1 al,Y.out.2.1.below al⟩
 have bi:Hid (∀b,F b->b<w.heap.size):=Y.out.2.2;have ar:Hid (w3.heap[w.heap.size]?=some (cJ 3 d B C)):=(al.block _ A).trans u.out;clear b0 b1 b2 b3 b5 b6 l1 l2 ai q0 q1 l q3 Y u A al;by_cases aT:v=0
 ·subst aT;rw[aq rfl] at k;obtain⟨b0,b1,b2,b3,b5,b6,l1,l2,ai,_⟩:=dF E.out.1;obtain⟨bO,bP⟩:=b6 i aB;clear b6;obtain⟨G,b9,aV⟩:=n5 E.out.1 i x;have fr:Fr (fun b=>b=c.a.nb) w3 (w3.setCell ⟨c.a.nb,i,none⟩ (.int .i64 x)):=(Fr.refl _ w3).set _ i _ rfl;have nx:w.heap.size≠c.a.nb:=fun e=>by have:=bo.out;omega
  have bl:=(fr.block w.heap.size (lt_of_some ar.out) nx).trans ar.out;have f:Hid ((ce c).J G (⟨{S.1.s with rs:=S.1.s.rs.set i x},S.1.r,S.1.q⟩,S.2) (w3.setCell ⟨c.a.nb,i,none⟩ (.int .i64 x))/\bM F w G (w3.setCell ⟨c.a.nb,i,none⟩ (.int .i64 x))/\(w3.setCell ⟨c.a.nb,i,none⟩ (.int .i64 x)).heap[w.heap.size]?=some (cJ 3 d B C)/\¬G w.heap.size):=⟨b9,E.out.2.trans aV,bl,fun D=>(aV.sub _ D).elim (fun D=>by have:=bi.out _ D;omega) (fun D=>by have:=lt_of_some ar.out;omega)⟩
  clear b9 aV fr bl
  go_upto_region 19 with fail
  generalize w3.setCell ⟨c.a.nb,i,none⟩ (.int .i64 x)=g at*;have n:=(Below.refl g.heap.size g).drew;have H:=(ce c).below f.out.1 n;have J:Hid (bM F w G g.drew):=f.out.2.1.below n;obtain⟨b0,b1,b2,b3,b5,b6,l1,l2,ai,n1,be,bg⟩:=dF f.out.1;obtain⟨q0,q1,l,q3⟩:=fJ f.out.2.2.1;have A:=lt_of_some f.out.2.2.1;obtain⟨K,r1,r0,L⟩:=hx H;have P:=ax.out r1 i aB;have M:Hid (∀N s1 w',(cf c.rp c.rb c.bS c.bT).J N s1 w'->bM K g.drew N w'->∃j,(ce c).J j (⟨{S.1.s with rs:=S.1.s.rs.set i x},S.1.r,S.1.q⟩,s1) w'/\bM G g.drew j w'):=L;have O:Hid (¬K w.heap.size/\g.heap[w.heap.size]?=some (cJ 3 d B C)):=⟨fun e=>f.out.2.2.2 (r0 _ e),f.out.2.2.1⟩
  clear r1 r0 L H n b6 f
  go_region_held3 (fun w'=>w'.cell? (ah c.pb 1)=some (af c.rp)/\w'.cell? (ah w.heap.size 1)=some (ae d)) (go_keep)
   (first
     |(go_at_call 14;refine P.mono ?_;clear P;rintro e o ⟨rfl,cC,p⟩;have br:o.cell? (ah w.heap.size 1)=some (ae d):=(aD (a:=⟨w.heap.size,1,none⟩) (p.fr.block w.heap.size A O.out.1)).trans q1;obtain⟨q,t,Q⟩:=M.out _ _ _ cC p;have U:Hid ((ce c).J q a0 o/\bM F w q o):=⟨by rw[k.out];exact t,J.out.trans Q⟩;have y1:=(dF t).2.1;clear cC p t Q))
  clear M J O b0 b1 b2 b3 b5 q0 q1 l q3;go_wp2_with fail;go_ret;exact⟨q,rfl,U.out.1,U.out.2⟩
 ·have bQ:(v==0)=false:=by simpa using aT
  rw[ao aT] at k;have f:Hid ((ce c).J F (⟨{S.1.s with rs:=S.1.s.rs},S.1.r,S.1.q⟩,S.2) w3/\bM F w F w3/\w3.heap[w.heap.size]?=some (cJ 3 d B C)/\¬F w.heap.size):=⟨E.out.1,E.out.2,ar.out,fun D=>by have:=bi.out _ D;omega⟩
  go_upto_region 19 with fail
  obtain⟨g,rfl⟩:∃g,g=w3:=⟨w3,rfl⟩
  have n:=(Below.refl g.heap.size g).drew;have H:=(ce c).below f.out.1 n;have J:Hid (bM F w F g.drew):=f.out.2.1.below n;obtain⟨b0,b1,b2,b3,b5,b6,l1,l2,ai,n1,be,bg⟩:=dF f.out.1;obtain⟨q0,q1,l,q3⟩:=fJ f.out.2.2.1;have A:=lt_of_some f.out.2.2.1;obtain⟨K,r1,r0,L⟩:=hx H;have P:=ax.out r1 i aB;have M:Hid (∀N s1 w',(cf c.rp c.rb c.bS c.bT).J N s1 w'->bM K g.drew N w'->∃j,(ce c).J j (⟨{S.1.s with rs:=S.1.s.rs},S.1.r,S.1.q⟩,s1) w'/\bM F g.drew j w'):=L;have O:Hid (¬K w.heap.size/\g.heap[w.heap.size]?=some (cJ 3 d B C)):=⟨fun e=>f.out.2.2.2 (r0 _ e),f.out.2.2.1⟩
  clear r1 r0 L H n b6 f
  go_region_held3 (fun w'=>w'.cell? (ah c.pb 1)=some (af c.rp)/\w'.cell? (ah w.heap.size 1)=some (ae d)) (go_keep)
   (first
     |(go_at_call 14;refine P.mono ?_;clear P;rintro e o ⟨rfl,cC,p⟩;have br:o.cell? (ah w.heap.size 1)=some (ae d):=(aD (a:=⟨w.heap.size,1,none⟩) (p.fr.block w.heap.size A O.out.1)).trans q1;obtain⟨q,t,Q⟩:=M.out _ _ _ cC p;have U:Hid ((ce c).J q a0 o/\bM F w q o):=⟨by rw[k.out];exact t,J.out.trans Q⟩;have y1:=(dF t).2.1;clear cC p t Q))
  clear M J O b0 b1 b2 b3 b5 q0 q1 l q3;go_wp2_with fail;go_ret;exact⟨q,rfl,U.out.1,U.out.2⟩
end
structure jD (s:b_):Prop where
 th:∀i,i<12->0<=s.th i->s.th i<s.T.length
 tl:∀t∈s.T,t.2.1.length<=12
 ll:s.T.length<=10000
 lr:s.rg.length<=10000
 lw:s.wt.length<=10000
section
variable {c:ej}{F:Nat->Prop}{S:bZ×b_}{w:World}
def jE (c:ej)(S:bZ×b_)(a B C:Int):bZ×b_:=(⟨{S.1.s with rs:=if dH c.a.N S.1.s.y S.1.s.g S.1.s.ws (S.1.s.rs.getD (bV a) 0) B=0 then S.1.s.rs.set (bV C) (if dH c.a.N S.1.s.y S.1.s.g S.1.s.ws (S.1.s.rs.getD (bV a) 0) B=0 then ld c.a.N S.1.s.y S.1.s.g S.1.s.ws (bQ (S.1.s.rs.getD (bV a) 0)+1+B) else 0) else S.1.s.rs},S.1.r,S.1.q⟩,if S.2.gc (bV a) B=0 then {S.2 with rs:=S.2.rs.set (bV C) (S.2.gf (bV a) B)} else S.2)
theorem Ai (h:(ce c).J F S w)(hB:jD S.2)(d B C:Int):
 Calls prog 8 #[af c.pb,j_ 2 d B C] w fun e w'=>∃j,e=.returned (.bool (dH c.a.N S.1.s.y S.1.s.g S.1.s.ws (S.1.s.rs.getD (bV d) 0) B==S.2.gc (bV d) B))/\(ce c).J j (jE c S d B C) w'/\bM F w j w':=by
 have GE:Hid (∀(j:Nat->Prop)(w':World),(ce c).J j S w'->Calls prog 28 #[af c.a.pw,ae (S.1.s.rs.getD (bV d) 0),ae B] w' fun e bn=>e=.returned (.tuple #[ae (if dH c.a.N S.1.s.y S.1.s.g S.1.s.ws (S.1.s.rs.getD (bV d) 0) B=0 then ld c.a.N S.1.s.y S.1.s.g S.1.s.ws (bQ (S.1.s.rs.getD (bV d) 0)+1+B) else 0),ae (dH c.a.N S.1.s.y S.1.s.g S.1.s.ws (S.1.s.rs.getD (bV d) 0) B)])/\Below w'.heap.size w' bn):=fun j w' h=>by obtain⟨bO,bo,_⟩:=ip h;obtain⟨bP,g1,_⟩:=i9 bo;exact wO _ _ _ (hH g1).1 (hG g1).1
 have n:Hid (jE c S d B C=(⟨{S.1.s with rs:=if dH c.a.N S.1.s.y S.1.s.g S.1.s.ws (S.1.s.rs.getD (bV d) 0) B=0 then S.1.s.rs.set (bV C) (if dH c.a.N S.1.s.y S.1.s.g S.1.s.ws (S.1.s.rs.getD (bV d) 0) B=0 then ld c.a.N S.1.s.y S.1.s.g S.1.s.ws (bQ (S.1.s.rs.getD (bV d) 0)+1+B) else 0) else S.1.s.rs},S.1.r,S.1.q⟩,if S.2.gc (bV d) B=0 then {S.2 with rs:=S.2.rs.set (bV C) (S.2.gf (bV d) B)} else S.2)):=rfl;have ai:Hid (∀{F:Nat->Prop}{w:World},(cf c.rp c.rb c.bS c.bT).J F S.2 w->Calls prog 14 #[af c.rp,jB 11 (bV C) (bV d) 0 B 0] w fun e w'=>e=.returned (ae (S.2.gc (bV d) B))/\(cf c.rp c.rb c.bS c.bT).J F (if S.2.gc (bV d) B=0 then {S.2 with rs:=S.2.rs.set (bV C) (S.2.gf (bV d) B)} else S.2) w'/\bM F w F w'):=fun h=>Aa h _ _ (dY C) (dY d) B (hB.th _ (dY d)) hB.tl hB.ll;generalize jE c S d B C=a2 at n⊢;generalize S.2.gc (bV d) B=z at n ai⊢;generalize S.2.gf (bV d) B=fv at n ai;generalize (if dH c.a.N S.1.s.y S.1.s.g S.1.s.ws (S.1.s.rs.getD (bV d) 0) B=0 then ld c.a.N S.1.s.y S.1.s.g S.1.s.ws (bQ (S.1.s.rs.getD (bV d) 0)+1+B) else 0)=gB at GE n;generalize dH c.a.N S.1.s.y S.1.s.g S.1.s.ws (S.1.s.rs.getD (bV d) 0) B=v at GE n⊢;clear hB;have a3:=(Below.refl w.heap.size w).alloc bJ (cJ 2 d B C)
 have al:Hid ((ce c).J F S w/\Below w.heap.size w (w.alloc (cJ 2 d B C))):=⟨h,a3⟩
 have bp:Hid (c.a.nb<w.heap.size/\c.a.pw<w.heap.size/\c.pb<w.heap.size):=⟨(dF h).2.2.2.2.2.2.2.2.1,(dF h).2.2.2.2.2.2.2.1,(dF h).2.2.2.2.2.2.1⟩
 have bb:=hL d;have bd:=hL C;have br:=dY C;have bs:=dY d;have E:Hid ((w.alloc (cJ 2 d B C)).heap[w.heap.size]?=some (cJ 2 d B C)):=aw _ _;obtain⟨q0,q1,k,q3⟩:=fJ E.out;generalize bV d=G at*;generalize bV C=i at*;clear h a3;go_enter func8,ntmps8
 go_upto_region 1 with fail
 go_region_held3 (fun w'=>w'.cell? (ah w.heap.size 1)=some (ae d)/\w'.cell? (ah w.heap.size 3)=some (ae C)) (go_keep)
  (first
    |(go_at_call 23;refine(bb _).mono ?_;rintro e bx ⟨rfl,q⟩;have q:=q.symm;subst q)
    |(go_at_call 23;refine(bd _).mono ?_;rintro e bx ⟨rfl,q⟩;have q:=q.symm;subst q))
 have aB:=al.out.2.drew;have aF:=(ce c).below al.out.1 aB;have J:Hid ((ce c).J F S (w.alloc (cJ 2 d B C)).drew/\bM F w F (w.alloc (cJ 2 d B C)).drew/\∀b,F b->b<w.heap.size):=⟨aF,bM.of aB,(ce c).lt al.out.1⟩
 have ar:(w.alloc (cJ 2 d B C)).drew.heap[w.heap.size]?=some (cJ 2 d B C):=E.out;clear al E q0 q1 k q3 bb bd aB;generalize (w.alloc (cJ 2 d B C)).drew=o at*;obtain⟨q0,q1,k,q3⟩:=fJ ar;have E:Hid (o.heap[w.heap.size]?=some (cJ 2 d B C)):=ar;obtain⟨b0,b1,b2,b3,b5,b6,l1,l2,K,n1,be,bg⟩:=dF aF;have s:=lt_of_some ar;have bR:(0:Int)<=(i:Int):=I;have bS:(i:Int)<12:=I;have j0:(0:Int)<=(G:Int):=I;have bT:(G:Int)<12:=I;clear aF ar;obtain⟨aR,_⟩:=b6 G bs;clear b6;generalize S.1.s.rs.getD G 0=x at*;have l:=(Below.refl o.heap.size o).drew;have P:=GE.out F o.drew ((ce c).below J.out.1 l)
 clear GE l;go_wp2_with fail
 go_region_held3 (fun w'=>w'.cell? (ah c.pb 0)=some (af c.a.pw)/\w'.cell? (ah c.a.pw 3)=some (.slice (ag c.a.nb) 12 12)/\w'.cell? (ah c.a.nb G)=some (ae x)/\w'.cell? (ah w.heap.size 2)=some (ae B)) (go_keep)
  (first
    |(go_at_call 28;refine P.mono ?_;clear P;rintro e w3 ⟨rfl,m⟩;have m:Below o.heap.size o w3:=(Below.refl o.heap.size o).drew.trans m;have bL:=(m.cell (p:=ah c.pb 0) l1).trans b0;have y1:=(m.cell (p:=ah c.a.pw 3) l2).trans b5;have aT:=(m.cell (p:=ah c.a.nb G) K).trans aR;have bN:=(m.cell (p:=ah w.heap.size 2) s).trans k))
 have L:Hid ((ce c).J F S w3/\bM F w F w3):=⟨(ce c).below J.out.1 m,J.out.2.1.below m⟩
 have bi:Hid (∀b,F b->b<w.heap.size):=J.out.2.2;have ax:Hid (w3.heap[w.heap.size]?=some (cJ 2 d B C)):=(m.block _ s).trans E.out;clear b0 b1 b2 b3 b5 aR l1 l2 K q0 q1 k q3 J E s m bL y1 aT bN;by_cases a0:v=0
 ·subst a0;rw[aq rfl] at n;obtain⟨b0,b1,b2,b3,b5,b6,l1,l2,K,_⟩:=dF L.out.1;obtain⟨aR,bU⟩:=b6 i br;clear b6;obtain⟨M,b9,a1⟩:=n5 L.out.1 i gB;have fr:Fr (fun b=>b=c.a.nb) w3 (w3.setCell ⟨c.a.nb,i,none⟩ (.int .i64 gB)):=(Fr.refl _ w3).set _ i _ rfl;have nx:w.heap.size≠c.a.nb:=fun e=>by have:=bp.out;omega
  have bl:=(fr.block w.heap.size (lt_of_some ax.out) nx).trans ax.out;have f:Hid ((ce c).J M (⟨{S.1.s with rs:=S.1.s.rs.set i gB},S.1.r,S.1.q⟩,S.2) (w3.setCell ⟨c.a.nb,i,none⟩ (.int .i64 gB))/\bM F w M (w3.setCell ⟨c.a.nb,i,none⟩ (.int .i64 gB))/\(w3.setCell ⟨c.a.nb,i,none⟩ (.int .i64 gB)).heap[w.heap.size]?=some (cJ 2 d B C)/\¬M w.heap.size):=⟨b9,L.out.2.trans a1,bl,fun H=>(a1.sub _ H).elim (fun H=>by have:=bi.out _ H;omega) (fun H=>by have:=lt_of_some ax.out;omega)⟩
  clear b9 a1 fr bl
  go_upto_region 14 with fail
  generalize w3.setCell ⟨c.a.nb,i,none⟩ (.int .i64 gB)=g at*;have l:=(Below.refl g.heap.size g).drew;have N:=(ce c).below f.out.1 l;have O:Hid (bM F w M g.drew):=f.out.2.1.below l;obtain⟨b0,b1,b2,b3,b5,b6,l1,l2,K,n1,be,bg⟩:=dF f.out.1;obtain⟨q0,q1,k,q3⟩:=fJ f.out.2.2.1;have s:=lt_of_some f.out.2.2.1;obtain⟨Q,r1,r0,R⟩:=hx N;have P:=ai.out r1;have U:Hid (∀W s1 w',(cf c.rp c.rb c.bS c.bT).J W s1 w'->bM Q g.drew W w'->∃j,(ce c).J j (⟨{S.1.s with rs:=S.1.s.rs.set i gB},S.1.r,S.1.q⟩,s1) w'/\bM M g.drew j w'):=R;have X:Hid (¬Q w.heap.size/\g.heap[w.heap.size]?=some (cJ 2 d B C)):=⟨fun e=>f.out.2.2.2 (r0 _ e),f.out.2.2.1⟩
  clear r1 r0 R N l b6 f
  go_region_held3 (fun w'=>w'.cell? (ah c.pb 1)=some (af c.rp)/\w'.cell? (ah w.heap.size 2)=some (ae B)) (go_keep)
   (first
     |(go_at_call 14;refine P.mono ?_;clear P;rintro e t ⟨rfl,cC,u⟩;have aT:t.cell? (ah w.heap.size 2)=some (ae B):=(aD (a:=⟨w.heap.size,2,none⟩) (u.fr.block w.heap.size s X.out.1)).trans k;obtain⟨A,D,Y⟩:=U.out _ _ _ cC u;have ad:Hid ((ce c).J A a2 t/\bM F w A t):=⟨by rw[n.out];exact D,O.out.trans Y⟩;have y1:=(dF D).2.1;clear cC u D Y))
  clear U O X b0 b1 b2 b3 b5 q0 q1 k q3;go_wp2_with fail;go_ret;exact⟨A,rfl,ad.out.1,ad.out.2⟩
 ·have bW:(v==0)=false:=by simpa using a0
  rw[ao a0] at n;have f:Hid ((ce c).J F (⟨{S.1.s with rs:=S.1.s.rs},S.1.r,S.1.q⟩,S.2) w3/\bM F w F w3/\w3.heap[w.heap.size]?=some (cJ 2 d B C)/\¬F w.heap.size):=⟨L.out.1,L.out.2,ax.out,fun H=>by have:=bi.out _ H;omega⟩
  go_upto_region 14 with fail
  obtain⟨g,rfl⟩:∃g,g=w3:=⟨w3,rfl⟩
  have l:=(Below.refl g.heap.size g).drew;have N:=(ce c).below f.out.1 l;have O:Hid (bM F w F g.drew):=f.out.2.1.below l;obtain⟨b0,b1,b2,b3,b5,b6,l1,l2,K,n1,be,bg⟩:=dF f.out.1;obtain⟨q0,q1,k,q3⟩:=fJ f.out.2.2.1;have s:=lt_of_some f.out.2.2.1;obtain⟨Q,r1,r0,R⟩:=hx N;have P:=ai.out r1;have U:Hid (∀W s1 w',(cf c.rp c.rb c.bS c.bT).J W s1 w'->bM Q g.drew W w'->∃j,(ce c).J j (⟨{S.1.s with rs:=S.1.s.rs},S.1.r,S.1.q⟩,s1) w'/\bM F g.drew j w'):=R;have X:Hid (¬Q w.heap.size/\g.heap[w.heap.size]?=some (cJ 2 d B C)):=⟨fun e=>f.out.2.2.2 (r0 _ e),f.out.2.2.1⟩
  clear r1 r0 R N l b6 f
  go_region_held3 (fun w'=>w'.cell? (ah c.pb 1)=some (af c.rp)/\w'.cell? (ah w.heap.size 2)=some (ae B)) (go_keep)
   (first
     |(go_at_call 14;refine P.mono ?_;clear P;rintro e t ⟨rfl,cC,u⟩;have aT:t.cell? (ah w.heap.size 2)=some (ae B):=(aD (a:=⟨w.heap.size,2,none⟩) (u.fr.block w.heap.size s X.out.1)).trans k;obtain⟨A,D,Y⟩:=U.out _ _ _ cC u;have ad:Hid ((ce c).J A a2 t/\bM F w A t):=⟨by rw[n.out];exact D,O.out.trans Y⟩;have y1:=(dF D).2.1;clear cC u D Y))
  clear U O X b0 b1 b2 b3 b5 q0 q1 k q3;go_wp2_with fail;go_ret;exact⟨A,rfl,ad.out.1,ad.out.2⟩
end
section
variable {c:ej}{F:Nat->Prop}{S:bZ×b_}{w:World}
def i_ (c:ej)(S:bZ×b_)(a B C:Int):bZ×b_:=(⟨{S.1.s with y:=dU c.a.N S.1.s.y a B,ws:=dR c.a.N S.1.s.y a B S.1.s.ws,rs:=if 0<=(eh c.a.N S.1.s.y a B) then S.1.s.rs.set (bV C) (ew 3 (eh c.a.N S.1.s.y a B)) else S.1.s.rs},S.1.r,S.1.q⟩,S.2.fr c.bS (bV C) a B)
theorem Aj (h:(ce c).J F S w)(a B:Int):Calls prog 24 #[af c.a.p,ae a,ae B] w fun e w'=>∃b,e=.returned (ae (eh c.a.N S.1.s.y a B))/\(ce c).J b (⟨{S.1.s with y:=dU c.a.N S.1.s.y a B,ws:=dR c.a.N S.1.s.y a B S.1.s.ws},S.1.r,S.1.q⟩,S.2) w'/\bM F w b w':=by
 obtain⟨n,d,_,f⟩:=ip h;obtain⟨o,g1,g2⟩:=i9 d;obtain⟨k1,g⟩:=hG g1;refine(wH a B w k1).mono ?_;rintro e w' ⟨rfl,a1,i⟩
 obtain⟨j,k⟩:=g w' _ _ _ a1 i;obtain⟨p,l1,l2⟩:=g2 _ _ _ j k;obtain⟨l,m1,m⟩:=f _ _ _ l1 l2;exact⟨l,rfl,m1,m⟩
theorem Ak {s:b_}{d:Nat->Prop}(h:(cf c.rp c.rb c.bS c.bT).J d s w)(hB:jD s)(f:0<=c.bS)(m1:c.bS<=100000)(i:Nat)(hi:i<12)(a B:Int):Calls prog 26 #[af c.rp,ae i,ae a,ae B] w fun e w'=>∃g,e=.returned (.bool (s.h3 c.bS a B))/\(cf c.rp c.rb c.bS c.bT).J g (s.fr c.bS i a B) w'/\bM d w g w':=by
 cases hb:s.h3 c.bS a B
 ·refine(Ac h hB.tl hB.ll f m1 i a B hb).mono ?_;rintro e w' ⟨rfl,b⟩
  have j:s.fr c.bS i a B=s:=by unfold b_.fr;rw[hb];simp
  exact⟨d,rfl,by rw[j];exact(cf c.rp c.rb c.bS c.bT).below h b,bM.of b⟩
 ·exact Ad h hB.tl hB.ll f m1 i hi a B hb
theorem Al (h:(ce c).J F S w)(hB:jD S.2)(bn:0<=c.bS)(m1:c.bS<=100000)(d B C:Int):
 Calls prog 8 #[af c.pb,j_ 0 d B C] w fun e w'=>∃g,e=.returned (.bool (S.2.h3 c.bS d B==decide (0<=(eh c.a.N S.1.s.y d B))))/\(ce c).J g (i_ c S d B C) w'/\bM F w g w':=by
 have GE:Hid (∀(g:Nat->Prop)(w':World),(ce c).J g S w'->Calls prog 24 #[af c.a.p,ae d,ae B] w' fun e R=>∃bo,e=.returned (ae (eh c.a.N S.1.s.y d B))/\(ce c).J bo (⟨{S.1.s with y:=dU c.a.N S.1.s.y d B,ws:=dR c.a.N S.1.s.y d B S.1.s.ws},S.1.r,S.1.q⟩,S.2) R/\bM g w' bo R):=fun g w' h=>Aj h d B;have l:Hid (i_ c S d B C=(⟨{S.1.s with y:=dU c.a.N S.1.s.y d B,ws:=dR c.a.N S.1.s.y d B S.1.s.ws,rs:=if 0<=(eh c.a.N S.1.s.y d B) then S.1.s.rs.set (bV C) (ew 3 (eh c.a.N S.1.s.y d B)) else S.1.s.rs},S.1.r,S.1.q⟩,S.2.fr c.bS (bV C) d B)):=rfl;have aR:Hid (∀(o:Nat->Prop)(w':World),(cf c.rp c.rb c.bS c.bT).J o S.2 w'->Calls prog 26 #[af c.rp,ae (bV C),ae d,ae B] w' fun e R=>∃g,e=.returned (.bool (S.2.h3 c.bS d B))/\(cf c.rp c.rb c.bS c.bT).J g (S.2.fr c.bS (bV C) d B) R/\bM o w' g R):=fun o w' h=>Ak h hB bn m1 _ (dY C) d B;have aT:Hid (decide (0<=(eh c.a.N S.1.s.y d B))=decide (0<=(eh c.a.N S.1.s.y d B))):=rfl;generalize i_ c S d B C=bp at l⊢;generalize S.2.fr c.bS (bV C) d B=b4 at l aR;generalize S.2.h3 c.bS d B=fb at aR⊢;generalize aV:decide (0<=(eh c.a.N S.1.s.y d B))=bU;rw[aV] at aT;generalize (eh c.a.N S.1.s.y d B)=v at GE l aV;replace aT:Hid (bU=decide (0<=v)):=aV.symm;clear aV;generalize dU c.a.N S.1.s.y d B=U at GE l;generalize dR c.a.N S.1.s.y d B S.1.s.ws=W at GE l;clear hB bn m1;have br:=(Below.refl w.heap.size w).alloc bJ (cJ 0 d B C)
 have a0:Hid ((ce c).J F S w/\Below w.heap.size w (w.alloc (cJ 0 d B C))):=⟨h,br⟩
 have bW:Hid (c.a.nb<w.heap.size/\c.a.pw<w.heap.size/\c.pb<w.heap.size):=⟨(dF h).2.2.2.2.2.2.2.2.1,(dF h).2.2.2.2.2.2.2.1,(dF h).2.2.2.2.2.2.1⟩
 have bs:=hL d;have bx:=hL C;have bX:=dY C;have b8:=dY d;have Q:Hid ((w.alloc (cJ 0 d B C)).heap[w.heap.size]?=some (cJ 0 d B C)):=aw _ _;obtain⟨q0,q1,q,q3⟩:=fJ Q.out;generalize bV d=bL at*;generalize bV C=j at*;clear h br;go_enter func8,ntmps8
 go_upto_region 1 with fail
 go_region_held3 (fun w'=>w'.cell? (ah w.heap.size 1)=some (ae d)/\w'.cell? (ah w.heap.size 3)=some (ae C)) (go_keep)
  (first
    |(go_at_call 23;refine(bs _).mono ?_;rintro e bY ⟨rfl,H⟩;have H:=H.symm;subst H)
    |(go_at_call 23;refine(bx _).mono ?_;rintro e bY ⟨rfl,H⟩;have H:=H.symm;subst H))
 have bd:=a0.out.2.drew;have be:=(ce c).below a0.out.1 bd;have a1:Hid ((ce c).J F S (w.alloc (cJ 0 d B C)).drew/\bM F w F (w.alloc (cJ 0 d B C)).drew/\∀b,F b->b<w.heap.size):=⟨be,bM.of bd,(ce c).lt a0.out.1⟩
 have a2:(w.alloc (cJ 0 d B C)).drew.heap[w.heap.size]?=some (cJ 0 d B C):=Q.out;clear a0 Q q0 q1 q q3 bs bx bd;generalize (w.alloc (cJ 0 d B C)).drew=J at*;obtain⟨q0,q1,q,q3⟩:=fJ a2;have Q:Hid (J.heap[w.heap.size]?=some (cJ 0 d B C)):=a2;obtain⟨b0,b1,b2,b3,b5,b6,l1,l2,K,n1,bN,bO⟩:=dF be;have D:=lt_of_some a2;have b9:(0:Int)<=(j:Int):=I;have ca:(j:Int)<12:=I;have j0:(0:Int)<=(bL:Int):=I;have cb:(bL:Int)<12:=I;clear be a2;clear b6;have m:=(Below.refl J.heap.size J).drew;have P:=GE.out F J.drew ((ce c).below a1.out.1 m)
 have bP:Hid (¬F w.heap.size):=fun E=>by have:=a1.out.2.2 _ E;omega
 clear GE m;go_wp2_with fail
 go_region_held3 (fun w'=>w'.cell? (ah c.pb 0)=some (af c.a.pw)/\w'.cell? (ah c.a.pw 0)=some (af c.a.p)/\w'.cell? (ah w.heap.size 1)=some (ae d)/\w'.cell? (ah w.heap.size 2)=some (ae B)) (go_keep)
  (first
    |(go_at_call 24;refine P.mono ?_;clear P;rintro e w3 ⟨X,rfl,b7,t3⟩;have bg:=(t3.fr.block w.heap.size D bP.out).trans Q.out;obtain⟨bi,_,y1,_⟩:=dF b7;obtain⟨_,Y,ad,_⟩:=fJ bg;have L:Hid (w3.heap[w.heap.size]?=some (cJ 0 d B C)/\¬X w.heap.size):=⟨bg,fun E=>(t3.sub _ E).elim bP.out (fun E=>by have cc:J.heap.size<=w.heap.size:=E;omega)⟩;have M:Hid ((ce c).J X (⟨{S.1.s with y:=U,ws:=W},S.1.r,S.1.q⟩,S.2) w3/\bM F w X w3):=⟨b7,(a1.out.2.1.below (Below.refl J.heap.size J).drew).trans t3⟩;clear b7 t3 bg))
 clear b0 b1 b2 b3 b5 l1 l2 K q0 q1 q q3 a1 Q D bi y1 Y ad;by_cases bQ:0<=v
 ·rw[aq bQ] at l;obtain⟨b0,b1,b2,b3,b5,b6,l1,l2,K,_⟩:=dF M.out.1;obtain⟨bR,bS⟩:=b6 j bX;clear b6;have bl:=m8 v w3.drew;generalize ew 3 v=x at bl l
  go_upto_region 6 with fail
  go_region_held3 (fun w'=>w'.cell? (ah c.pb 0)=some (af c.a.pw)/\w'.cell? (ah c.a.pw 3)=some (.slice (ag c.a.nb) 12 12)) (go_keep)
   (first
     |(go_at_call 25;refine bl.mono ?_;clear bl;rintro e s ⟨rfl,G⟩;have G:Below w3.heap.size w3 s:=(Below.refl w3.heap.size w3).drew.trans G;have bi:=(G.cell (p:=ah c.pb 0) l1).trans b0;have y1:=(G.cell (p:=ah c.a.pw 3) l2).trans b5;have Y:=(G.cell (p:=ah c.a.nb j) K).trans bR;have ad:=(G.frozen (p:=ah c.a.nb j) K).trans bS;have a3:Hid (Below w3.heap.size w3 s):=G;clear G))
  obtain⟨k,n,t⟩:=n5 ((ce c).below M.out.1 a3.out) j x;have fr:Fr (fun b=>b=c.a.nb) s (s.setCell ⟨c.a.nb,j,none⟩ (.int .i64 x)):=(Fr.refl _ s).set _ j _ rfl;have nx:w.heap.size≠c.a.nb:=fun e=>by have:=bW.out;omega
  have bb:=(a3.out.block _ (lt_of_some L.out.1)).trans L.out.1;have bT:=(fr.block w.heap.size (lt_of_some bb) nx).trans bb;have i:Hid ((ce c).J k (⟨{S.1.s with y:=U,ws:=W,rs:=S.1.s.rs.set j x},S.1.r,S.1.q⟩,S.2) (s.setCell ⟨c.a.nb,j,none⟩ (.int .i64 x))/\bM F w k (s.setCell ⟨c.a.nb,j,none⟩ (.int .i64 x))/\(s.setCell ⟨c.a.nb,j,none⟩ (.int .i64 x)).heap[w.heap.size]?=some (cJ 0 d B C)/\¬k w.heap.size):=⟨n,(M.out.2.below a3.out).trans t,bT,fun E=>(t.sub _ E).elim L.out.2 (fun E=>by have:=lt_of_some bb;omega)⟩
  clear n t fr bb bT bi y1 Y ad b0 b1 b2 b3 b5 bR bS l1 l2 K M L a3;generalize s.setCell ⟨c.a.nb,j,none⟩ (.int .i64 x)=f at*
  go_upto_region 7 with fail
  have m:=(Below.refl f.heap.size f).drew;have ai:=(ce c).below i.out.1 m;have al:Hid (bM F w k f.drew):=i.out.2.1.below m;obtain⟨b0,b1,b2,b3,b5,b6,l1,l2,K,n1,bN,bO⟩:=dF i.out.1;obtain⟨q0,q1,q,q3⟩:=fJ i.out.2.2.1;have D:=lt_of_some i.out.2.2.1;obtain⟨o,r1,r0,ar⟩:=hx ai;have P:=aR.out _ _ r1;have ax:Hid (∀aB s1 w',(cf c.rp c.rb c.bS c.bT).J aB s1 w'->bM o f.drew aB w'->∃g,(ce c).J g (⟨{S.1.s with y:=U,ws:=W,rs:=S.1.s.rs.set j x},S.1.r,S.1.q⟩,s1) w'/\bM k f.drew g w'):=ar;have N:Hid (¬o w.heap.size):=fun e=>i.out.2.2.2 (r0 _ e)
  clear r1 r0 ar ai m b6 i
  go_region_held3 (fun w'=>w'.cell? (ah c.pb 1)=some (af c.rp)/\w'.cell? (ah w.heap.size 1)=some (ae d)/\w'.cell? (ah w.heap.size 2)=some (ae B)) (go_keep)
   (first
     |(go_at_call 26;refine P.mono ?_;clear P;rintro e u ⟨bZ,rfl,cC,A⟩;have Y:u.cell? (ah w.heap.size 1)=some (ae d):=(aD (a:=⟨w.heap.size,1,none⟩) (A.fr.block w.heap.size D N.out)).trans q1;have ad:u.cell? (ah w.heap.size 2)=some (ae B):=(aD (a:=⟨w.heap.size,2,none⟩) (A.fr.block w.heap.size D N.out)).trans q;obtain⟨O,n,t⟩:=ax.out _ _ _ cC A;have aF:Hid ((ce c).J O bp u/\bM F w O u):=⟨by rw[l.out];exact n,al.out.trans t⟩;have y1:=(dF n).2.1;clear cC A n t))
  clear ax al N b0 b1 b2 b3 b5 q0 q1 q q3;go_wp2_with fail;go_ret;refine⟨O,?_,aF.out.1,aF.out.2⟩
  rw[aT.out,show decide (0<=v)=true from a8 I];simp
 ·rw[ao bQ] at l;obtain⟨f,rfl⟩:∃f,f=w3:=⟨w3,rfl⟩
  obtain⟨k,rfl⟩:∃k,k=X:=⟨X,rfl⟩
  have i:Hid ((ce c).J k (⟨{S.1.s with y:=U,ws:=W,rs:=S.1.s.rs},S.1.r,S.1.q⟩,S.2) f/\bM F w k f/\f.heap[w.heap.size]?=some (cJ 0 d B C)/\¬k w.heap.size):=⟨M.out.1,M.out.2,L.out.1,L.out.2⟩
  clear M L
  go_upto_region 7 with fail
  have m:=(Below.refl f.heap.size f).drew;have ai:=(ce c).below i.out.1 m;have al:Hid (bM F w k f.drew):=i.out.2.1.below m;obtain⟨b0,b1,b2,b3,b5,b6,l1,l2,K,n1,bN,bO⟩:=dF i.out.1;obtain⟨q0,q1,q,q3⟩:=fJ i.out.2.2.1;have D:=lt_of_some i.out.2.2.1;obtain⟨o,r1,r0,ar⟩:=hx ai;have P:=aR.out _ _ r1;have ax:Hid (∀aB s1 w',(cf c.rp c.rb c.bS c.bT).J aB s1 w'->bM o f.drew aB w'->∃g,(ce c).J g (⟨{S.1.s with y:=U,ws:=W,rs:=S.1.s.rs},S.1.r,S.1.q⟩,s1) w'/\bM k f.drew g w'):=ar;have N:Hid (¬o w.heap.size):=fun e=>i.out.2.2.2 (r0 _ e)
  clear r1 r0 ar ai m b6 i
  go_region_held3 (fun w'=>w'.cell? (ah c.pb 1)=some (af c.rp)/\w'.cell? (ah w.heap.size 1)=some (ae d)/\w'.cell? (ah w.heap.size 2)=some (ae B)) (go_keep)
   (first
     |(go_at_call 26;refine P.mono ?_;clear P;rintro e u ⟨bZ,rfl,cC,A⟩;have Y:u.cell? (ah w.heap.size 1)=some (ae d):=(aD (a:=⟨w.heap.size,1,none⟩) (A.fr.block w.heap.size D N.out)).trans q1;have ad:u.cell? (ah w.heap.size 2)=some (ae B):=(aD (a:=⟨w.heap.size,2,none⟩) (A.fr.block w.heap.size D N.out)).trans q;obtain⟨O,n,t⟩:=ax.out _ _ _ cC A;have aF:Hid ((ce c).J O bp u/\bM F w O u):=⟨by rw[l.out];exact n,al.out.trans t⟩;have y1:=(dF n).2.1;clear cC A n t))
  clear ax al N b0 b1 b2 b3 b5 q0 q1 q q3;go_wp2_with fail;go_ret;refine⟨O,?_,aF.out.1,aF.out.2⟩
  rw[aT.out,show decide (0<=v)=false from aZ I];simp
end
section
variable {c:ej}{F:Nat->Prop}{S:bZ×b_}{w:World}
def kW (c:ej)(S:bZ×b_)(a B C:Int):bZ×b_:=(⟨{S.1.s with ws:=fi c.a.N S.1.s.y S.1.s.g S.1.s.ws (S.1.s.rs.getD (bV a) 0) B (S.1.s.rs.getD (bV C) 0),M:=stM c.a.N S.1.s.y S.1.s.g S.1.s.ws (S.1.s.rs.getD (bV a) 0) B (S.1.s.rs.getD (bV C) 0) (dx c.a.O) S.1.s.M},S.1.r,S.1.q⟩,(if S.2.gc (bV a) B=0 then {S.2 with T:=S.2.sT (bV a) (bV C) B} else S.2))
theorem Am (h:(ce c).J F S w)(hM:S.1.s.M.length<=100000)(x i z:Int):Calls prog 27 #[af c.a.pw,ae x,ae i,ae z] w fun e w'=>∃a,e=.returned (ae (dH c.a.N S.1.s.y S.1.s.g S.1.s.ws x i))/\(ce c).J a (⟨{S.1.s with ws:=fi c.a.N S.1.s.y S.1.s.g S.1.s.ws x i z,M:=stM c.a.N S.1.s.y S.1.s.g S.1.s.ws x i z (dx c.a.O) S.1.s.M},S.1.r,S.1.q⟩,S.2) w'/\bM F w a w':=by
 obtain⟨l,b,_,d⟩:=ip h;obtain⟨m,g1,g2⟩:=i9 b;refine(Ae g1 x i z hM).mono ?_;rintro e w' ⟨rfl,f,g⟩
 obtain⟨n,l1,l2⟩:=g2 _ _ _ f g;obtain⟨j,m1,k⟩:=d _ _ _ l1 l2;exact⟨j,rfl,m1,k⟩
theorem An (h:(ce c).J F S w)(hB:jD S.2)(hM:S.1.s.M.length<=100000)(a B C:Int):
 Calls prog 8 #[af c.pb,j_ 1 a B C] w fun e w'=>∃d,e=.returned (.bool (dH c.a.N S.1.s.y S.1.s.g S.1.s.ws (S.1.s.rs.getD (bV a) 0) B==S.2.gc (bV a) B))/\(ce c).J d (kW c S a B C) w'/\bM F w d w':=by
 have GE:Hid (∀(d:Nat->Prop)(w':World),(ce c).J d S w'->Calls prog 27 #[af c.a.pw,ae (S.1.s.rs.getD (bV a) 0),ae B,ae (S.1.s.rs.getD (bV C) 0)] w' fun e m=>∃ar,e=.returned (ae (dH c.a.N S.1.s.y S.1.s.g S.1.s.ws (S.1.s.rs.getD (bV a) 0) B))/\(ce c).J ar (⟨{S.1.s with ws:=fi c.a.N S.1.s.y S.1.s.g S.1.s.ws (S.1.s.rs.getD (bV a) 0) B (S.1.s.rs.getD (bV C) 0),M:=stM c.a.N S.1.s.y S.1.s.g S.1.s.ws (S.1.s.rs.getD (bV a) 0) B (S.1.s.rs.getD (bV C) 0) (dx c.a.O) S.1.s.M},S.1.r,S.1.q⟩,S.2) m/\bM d w' ar m):=fun d w' h=>Am h hM _ B _;have n:Hid (kW c S a B C=(⟨{S.1.s with ws:=fi c.a.N S.1.s.y S.1.s.g S.1.s.ws (S.1.s.rs.getD (bV a) 0) B (S.1.s.rs.getD (bV C) 0),M:=stM c.a.N S.1.s.y S.1.s.g S.1.s.ws (S.1.s.rs.getD (bV a) 0) B (S.1.s.rs.getD (bV C) 0) (dx c.a.O) S.1.s.M},S.1.r,S.1.q⟩,(if S.2.gc (bV a) B=0 then {S.2 with T:=S.2.sT (bV a) (bV C) B} else S.2))):=rfl;have A:Hid (∀(p:Nat->Prop)(w':World),(cf c.rp c.rb c.bS c.bT).J p S.2 w'->Calls prog 14 #[af c.rp,jB 12 0 (bV a) (bV C) B 0] w' fun e m=>∃d,e=.returned (ae (S.2.gc (bV a) B))/\(cf c.rp c.rb c.bS c.bT).J d (if S.2.gc (bV a) B=0 then {S.2 with T:=S.2.sT (bV a) (bV C) B} else S.2) m/\bM p w' d m):=fun p w' h=>z_ h _ _ (dY a) (dY C) B (hB.th _ (dY a)) hB.tl hB.ll;generalize kW c S a B C=bg at n⊢;generalize (if S.2.gc (bV a) B=0 then {S.2 with T:=S.2.sT (bV a) (bV C) B} else S.2)=bO at n A;generalize S.2.gc (bV a) B=z at A⊢;generalize fi c.a.N S.1.s.y S.1.s.g S.1.s.ws (S.1.s.rs.getD (bV a) 0) B (S.1.s.rs.getD (bV C) 0)=bi at GE n;generalize stM c.a.N S.1.s.y S.1.s.g S.1.s.ws (S.1.s.rs.getD (bV a) 0) B (S.1.s.rs.getD (bV C) 0) (dx c.a.O) S.1.s.M=bl at GE n;generalize dH c.a.N S.1.s.y S.1.s.g S.1.s.ws (S.1.s.rs.getD (bV a) 0) B=v at GE⊢;clear hB hM;have ax:=(Below.refl w.heap.size w).alloc bJ (cJ 1 a B C)
 have q:Hid ((ce c).J F S w/\Below w.heap.size w (w.alloc (cJ 1 a B C))):=⟨h,ax⟩
 have aB:=hL a;have aF:=hL C;have D:=dY C;have E:=dY a;have l:Hid ((w.alloc (cJ 1 a B C)).heap[w.heap.size]?=some (cJ 1 a B C)):=aw _ _;obtain⟨q0,q1,G,q3⟩:=fJ l.out;generalize bV a=f at*;generalize bV C=g at*;clear h ax;go_enter func8,ntmps8
 go_upto_region 1 with fail
 go_region_held3 (fun w'=>w'.cell? (ah w.heap.size 1)=some (ae a)/\w'.cell? (ah w.heap.size 3)=some (ae C)) (go_keep)
  (first
    |(go_at_call 23;refine(aB _).mono ?_;rintro e bn ⟨rfl,i⟩;have i:=i.symm;subst i)
    |(go_at_call 23;refine(aF _).mono ?_;rintro e bn ⟨rfl,i⟩;have i:=i.symm;subst i))
 have H:=q.out.2.drew;have J:=(ce c).below q.out.1 H;have s:Hid ((ce c).J F S (w.alloc (cJ 1 a B C)).drew/\bM F w F (w.alloc (cJ 1 a B C)).drew/\∀b,F b->b<w.heap.size):=⟨J,bM.of H,(ce c).lt q.out.1⟩
 have t:(w.alloc (cJ 1 a B C)).drew.heap[w.heap.size]?=some (cJ 1 a B C):=l.out;clear q l q0 q1 G q3 aB aF H;generalize (w.alloc (cJ 1 a B C)).drew=j at*;obtain⟨q0,q1,G,q3⟩:=fJ t;have l:Hid (j.heap[w.heap.size]?=some (cJ 1 a B C)):=t;obtain⟨b0,b1,b2,b3,b5,b6,l1,l2,bP,n1,bQ,bR⟩:=dF J;have bo:=lt_of_some t;have bS:(0:Int)<=(g:Int):=I;have bT:(g:Int)<12:=I;have j0:(0:Int)<=(f:Int):=I;have bU:(f:Int)<12:=I;clear J t;obtain⟨aR,_⟩:=b6 f E;obtain⟨aT,_⟩:=b6 g D;clear b6;have aV:Hid (∃x y:Int,x=S.1.s.rs.getD f 0/\y=S.1.s.rs.getD g 0):=⟨_,_,rfl,rfl⟩
 obtain⟨x,y,K,L⟩:=aV.out;rw[<-K] at aR GE;rw[<-L] at aT GE;have o:Hid (x=S.1.s.rs.getD f 0/\y=S.1.s.rs.getD g 0):=⟨K,L⟩
 clear K L aV;have a0:=(Below.refl j.heap.size j).drew;have P:=GE.out F j.drew ((ce c).below s.out.1 a0)
 have a1:Hid (¬F w.heap.size):=fun k=>by have:=s.out.2.2 _ k;omega
 clear GE a0;go_wp2_with fail
 go_region_held3 (fun w'=>w'.cell? (ah c.pb 0)=some (af c.a.pw)/\w'.cell? (ah c.pb 1)=some (af c.rp)/\w'.cell? (ah c.a.pw 3)=some (.slice (ag c.a.nb) 12 12)/\w'.cell? (ah c.a.nb f)=some (ae x)/\w'.cell? (ah c.a.nb g)=some (ae y)/\w'.cell? (ah w.heap.size 2)=some (ae B)) (go_keep)
  (first
    |(go_at_call 27;refine P.mono ?_;clear P;rintro e w3 ⟨N,rfl,b7,t3⟩;have O:=(t3.fr.block w.heap.size bo a1.out).trans l.out;obtain⟨bp,y1,_,_,br,Q,_⟩:=dF b7;obtain⟨R,_⟩:=Q f E;obtain⟨U,_⟩:=Q g D;dsimp only at R U;rw[<-o.out.1] at R;rw[<-o.out.2] at U;clear Q;obtain⟨_,_,bs,_⟩:=fJ O;have u:Hid (w3.heap[w.heap.size]?=some (cJ 1 a B C)/\¬N w.heap.size):=⟨O,fun k=>(t3.sub _ k).elim a1.out (fun k=>by have bW:j.heap.size<=w.heap.size:=k;omega)⟩;have W:Hid ((ce c).J N (⟨{S.1.s with ws:=bi,M:=bl},S.1.r,S.1.q⟩,S.2) w3/\bM F w N w3):=⟨b7,(s.out.2.1.below (Below.refl j.heap.size j).drew).trans t3⟩;clear b7 t3 O)
    |(go_at_call 14;obtain⟨p,r1,r0,a2⟩:=hx W.out.1;refine(A.out _ _ r1).mono ?_;rintro e a3 ⟨bX,rfl,b9,X⟩;have bb:=(X.fr.block w.heap.size (lt_of_some u.out.1) (fun k=>u.out.2 (r0 _ k))).trans u.out.1;obtain⟨Y,cC,bd⟩:=a2 _ _ _ b9 X;obtain⟨z0,bx,_,_,bL,ad,_⟩:=dF cC;obtain⟨ai,_⟩:=ad f E;obtain⟨al,_⟩:=ad g D;dsimp only at ai al;rw[<-o.out.1] at ai;rw[<-o.out.2] at al;clear ad;obtain⟨_,_,bN,_⟩:=fJ bb;have be:Hid ((ce c).J Y bg a3/\bM F w Y a3):=⟨by rw[n.out];exact cC,W.out.2.trans bd⟩;clear b9 X cC bd bb r1 r0 a2))
 clear b0 b1 b2 b3 b5 aR aT q0 q1 G q3 bp y1 br R U bs z0 bx bL ai al bN o W s u l;go_wp2_with fail;go_ret;exact⟨Y,rfl,be.out.1,be.out.2⟩
end
end Go.Proofs.YtjpjpjemibgjpaaGreat
