import Derived.Test.YtjckpdepffejnaaGreatDoorJ14
open Array renaming size->I
open Bool renaming false->D,true->C
open Eq renaming symm->LM
open Go renaming Calls->M
open Go.Ending renaming returned->OV
open Go.IntKind renaming i64->OW
open Go.Obj renaming cells->E
open Go.Proofs.Tryz renaming prog->J
open Go.RowKit renaming Below->O7
open Go.Value renaming agg->bz,int->U,pointer->bq,slice->Z,tuple->ay
open Go.World renaming alloc->bu,cell?->V,frozen?->bF,heap->G,setCell->O8
open Int renaming eq_ofNat_of_zero_le->bC,toNat->K,toNat_natCast->bD
open List renaming getD->X,getElem?_replicate_of_lt->Dm,length->OQ,replicate->aZ
open Nat renaming le_of_eq->Ci,le_of_lt->uh,zero_add->bW
open Option renaming none->O0,some->H
namespace Go.Proofs.YtjckpdepffejnaaGreatDoor
set_option maxRecDepth 100000
set_option maxHeartbeats 2000000
open Tryz
open Go.RowKit W Kp ch
theorem Bz {P:Prop}(h:P:=by
 generalize hxb:w.heap.size=xb at*;refine PC.mono ?_;rintro e w1 ⟨rfl,hb1⟩
 have hbt:Below w.heap.size w w1:=by rw[hxb];exact HJ.o.2.1.trans (hb1.mono (by have:=cj HJ.o.2.2;omega))
 obtain⟨q0,q1,q2,q3,q4,q5⟩:=dZ ((hb1.block xb (cj HJ.o.2.2)).trans HJ.o.2.2)
 have J1:=(cD a hp).below HJ.o.1 hbt;obtain⟨h0,_⟩:=ft J1;have P:=BA.o F w1 J1;have HT:aA (b9 F w F w1):=b9.of hbt;go_wp2_with fail;refine P.mono ?_;rintro e w2 ⟨F2,rfl,wC,T2⟩
 have HF:=cU wC (HT.o.trans T2)
 go_wp2_with fail;go_ret;exact⟨F2,rfl,HF.o.1,HF.o.2⟩):P:=h
theorem sY {P:Prop}(h:P:=by
 go_enter func130,ntmps130;go_wp2_with fail;refine P.mono ?_;rintro e w2 ⟨F2,rfl,wC,T2⟩
 have HF:=cU wC ((b9.of HB.o).trans T2)
 go_wp2_with fail;go_ret2;exact⟨F2,rfl,HF.o.1,HF.o.2⟩):P:=h
theorem BB {P:Prop}(h:P:=by rw[hW0];exact a6 _ _ _ ((aY w2 ⟨w.heap.size,0,none⟩ ⟨w.heap.size,1,none⟩ _ ac).trans y1)):P:=h
theorem BC {P:Prop}(h:P:=by have h1:(eQ N y g ws).length<=2000:=jp _ _;have h2:(dM N y g ws).length<=2000:=jp _ _;simp;omega):P:=h
theorem Jm (a:Wc)(S:cv)(x:Int):(S.pop a x).2.2.s.rs=S.s.rs:=by
 unfold cv.pop;split
 ·split<;>rfl
 ·rfl
theorem Jn (a:Wc)(S:cv)(t g:Int):(S.reg a t g).2.s.rs=S.s.rs:=by
 unfold cv.reg;split
 ·split
  ·split<;>rfl
  ·rfl
 ·rfl
section
variable {a:Wc}{hp:Nat}{F:Nat->Prop}{S:cv}{w:az}
theorem Jp (h:(cD a hp).J F S w)(R I n:Int)(A B:Nat)(j:A<12)(hB:B<12)(hq:OQ S.q+OQ S.r<=90000)(k:S.gD a=D->∃G,je (S.k5 a) (S.d_ a) G/\G 0 (S.k5 a,0))(room:(S.room a 3).1=0->(S.room a 3).2.s.y+3<=a.N):
 M prog 130 #[aq hp,dJ 4 R A B I n] w λe w'=>∃c,e=OV (ay #[ak (S.grow a 1 [A,B]).1,ak (S.grow a 1 [A,B]).2.1])/\(cD a hp).J c (S.grow a 1 [A,B]).2.2 w'/\b9 F w c w':=by
 have f:=(aw w (cA 4 R A B I n)).alloc ac (E #[U OW (A:Int),U OW (B:Int)] 3)
 have b:=aO (w.alloc (cA 4 R A B I n)) (E #[U OW (A:Int),U OW (B:Int)] 3)
 have l:(w.alloc (cA 4 R A B I n)).heap.size=w.heap.size+1:=ac;rw[l] at b;have P:=q6 ((cD a hp).below h f) 1 [A,B] (au (w.heap.size+1)) 2 hq k rfl (λ_=>⟨w.heap.size+1,rfl,λd=>by have:=(cD a hp).lt h _ d;omega,cj b,λi hi=>by
  have hi:i<2:=hi;rcases(show i=0\/i=1 by omega) with rfl|rfl<;>simp only [World.cell?,b]<;>rfl⟩) (λi hi=>by
  have hi:i<2:=hi;rcases(show i=0\/i=1 by omega) with rfl|rfl
  ·exact j
  ·exact hB) room
 have HB:=cg f;generalize S.grow a 1 [A,B]=g at*;obtain⟨v,cd,m⟩:=g;exact sY
theorem Jq (h:(cD a hp).J F S w)(R I n:Int)(A B:Nat)(j:A<12)(hB:B<12)(hq:OQ S.q+OQ S.r<=90000)(k:S.gD a=D->∃G,je (S.k5 a) (S.d_ a) G/\G 0 (S.k5 a,0))(room:(S.room a 3).1=0->(S.room a 3).2.s.y+3<=a.N):
 M prog 130 #[aq hp,dJ 6 R A B I n] w λe w'=>∃c,e=OV (ay #[ak (S.grow a 3 [A,B]).1,ak (S.grow a 3 [A,B]).2.1])/\(cD a hp).J c (S.grow a 3 [A,B]).2.2 w'/\b9 F w c w':=by
 have f:=(aw w (cA 6 R A B I n)).alloc ac (E #[U OW (A:Int),U OW (B:Int)] 3)
 have b:=aO (w.alloc (cA 6 R A B I n)) (E #[U OW (A:Int),U OW (B:Int)] 3)
 have l:(w.alloc (cA 6 R A B I n)).heap.size=w.heap.size+1:=ac;rw[l] at b;have P:=q6 ((cD a hp).below h f) 3 [A,B] (au (w.heap.size+1)) 2 hq k rfl (λ_=>⟨w.heap.size+1,rfl,λd=>by have:=(cD a hp).lt h _ d;omega,cj b,λi hi=>by
  have hi:i<2:=hi;rcases(show i=0\/i=1 by omega) with rfl|rfl<;>simp only [World.cell?,b]<;>rfl⟩) (λi hi=>by
  have hi:i<2:=hi;rcases(show i=0\/i=1 by omega) with rfl|rfl
  ·exact j
  ·exact hB) room
 have HB:=cg f;generalize S.grow a 3 [A,B]=g at*;obtain⟨v,cd,m⟩:=g;exact sY
theorem Jr (h:(cD a hp).J F S w)(R I n:Int)(A B:Nat)(j:A<12)(hB:B<12)(hq:OQ S.q+OQ S.r<=90000)(k:S.gD a=D->∃G,je (S.k5 a) (S.d_ a) G/\G 0 (S.k5 a,0))(room:(S.room a 3).1=0->(S.room a 3).2.s.y+3<=a.N):
 M prog 130 #[aq hp,dJ 7 R A B I n] w λe w'=>∃c,e=OV (ay #[ak (S.grow a 4 [A,B]).1,ak (S.grow a 4 [A,B]).2.1])/\(cD a hp).J c (S.grow a 4 [A,B]).2.2 w'/\b9 F w c w':=by
 have f:=(aw w (cA 7 R A B I n)).alloc ac (E #[U OW (A:Int),U OW (B:Int)] 3)
 have b:=aO (w.alloc (cA 7 R A B I n)) (E #[U OW (A:Int),U OW (B:Int)] 3)
 have l:(w.alloc (cA 7 R A B I n)).heap.size=w.heap.size+1:=ac;rw[l] at b;have P:=q6 ((cD a hp).below h f) 4 [A,B] (au (w.heap.size+1)) 2 hq k rfl (λ_=>⟨w.heap.size+1,rfl,λd=>by have:=(cD a hp).lt h _ d;omega,cj b,λi hi=>by
  have hi:i<2:=hi;rcases(show i=0\/i=1 by omega) with rfl|rfl<;>simp only [World.cell?,b]<;>rfl⟩) (λi hi=>by
  have hi:i<2:=hi;rcases(show i=0\/i=1 by omega) with rfl|rfl
  ·exact j
  ·exact hB) room
 have HB:=cg f;generalize S.grow a 4 [A,B]=g at*;obtain⟨v,cd,m⟩:=g;exact sY
theorem Jt (h:(cD a hp).J F S w)(R A B I n:Int)(hq:OQ S.q+OQ S.r<=90000)(f:S.gD a=D->∃G,je (S.k5 a) (S.d_ a) G/\G 0 (S.k5 a,0))(room:(S.room a 1).1=0->(S.room a 1).2.s.y+1<=a.N):
 M prog 130 #[aq hp,dJ 8 R A B I n] w λe w'=>∃b,e=OV (ay #[ak (S.grow a 5 []).1,ak (S.grow a 5 []).2.1])/\(cD a hp).J b (S.grow a 5 []).2.2 w'/\b9 F w b w':=by
 have c:=aw w (cA 8 R A B I n)
 have P:=q6 ((cD a hp).below h c) 5 [] O0 0 hq f rfl (λd=>absurd d ac) (λi hi=>absurd hi ac) room;have HB:=cg c;exact sY
theorem Ju (h:(cD a hp).J F S w)(R B I:Int)(A n:Nat)(m:A<12)(hn:n<=12)(hq:OQ S.q+OQ S.r<=90000)(o:S.gD a=D->∃G,je (S.k5 a) (S.d_ a) G/\G 0 (S.k5 a,0))(room:(S.room a (1+n)).1=0->(S.room a (1+n)).2.s.y+1+n<=a.N):
 M prog 130 #[aq hp,dJ 5 R A B I n] w λe w'=>∃b,e=OV (ay #[ak (S.grow a 2 (aZ n A)).1,ak (S.grow a 2 (aZ n A)).2.1])/\(cD a hp).J b (S.grow a 2 (aZ n A)).2.2 w'/\b9 F w b w':=by
 have f:=(aw w (cA 5 R A B I n)).alloc ac (E #[U OW (A:Int)] 3)
 have k:=aO (w.alloc (cA 5 R A B I n)) (E #[U OW (A:Int)] 3)
 have p:(w.alloc (cA 5 R A B I n)).heap.size=w.heap.size+1:=ac;rw[p] at k;have hl:OQ (aZ n A)=n:=List.length_replicate;have hk:hc 2 (OQ (aZ n A))=0:=by rw[hl];rcases(show n=0\/n=1\/n=2\/n=3\/n=4\/n=5\/n=6\/n=7\/n=8\/n=9\/n=10\/n=11\/n=12 by omega) with e|e|e|e|e|e|e|e|e|e|e|e|e<;>(rw[e];rfl)
 have ad:=(cD a hp).below h f;have q:V (bu (w.alloc (cA 5 R A B I n)) (E #[U OW (A:Int)] 3)) (av (w.heap.size+1) 0)=H (ak (A:Int)):=by simp only [World.cell?,k];rfl
 have s:M prog 197 #[Z (au (w.heap.size+1)) 1 1,ak n] (bu (w.alloc (cA 5 R A B I n)) (E #[U OW (A:Int)] 3)) λe w'=>∃nb,e=OV (Z (au nb) n n)/\(0<n->w.heap.size+2<=nb/\w'.heap[nb]?=H (E ((aZ n (A:Int)).map (Value.int OW)).toArray 3 (0,0)))/\O7 w.heap.size w w':=by
  by_cases h0:0<n
  ·refine(Jd _ (w.heap.size+1) n A h0 hn q).mono ?_;rintro e w' ⟨nb,rfl,g1,g2,g3⟩
   simp at g1;exact⟨nb,rfl,λ_=>⟨aa,g2⟩,f.trans (g3.mono (by simp;omega))⟩
  ·obtain rfl:n=0:=aa;refine(Je _ (w.heap.size+1) A).mono ?_;rintro e w' ⟨nb,rfl,g3⟩
   exact⟨nb,rfl,λd=>absurd d aa,f.trans (g3.mono (by simp;omega))⟩
 have u:∀c nb,O7 w.heap.size w c->(0<n->w.heap.size+2<=nb/\c.heap[nb]?=H (E ((aZ n (A:Int)).map (Value.int OW)).toArray 3 (0,0)))->M prog 196 #[aq hp,ak 2,Z (au nb) n n] c λe w'=>∃b,e=OV (ay #[ak (S.grow a 2 (aZ n A)).1,ak (S.grow a 2 (aZ n A)).2.1])/\(cD a hp).J b (S.grow a 2 (aZ n A)).2.2 w'/\b9 F w b w':=λc nb hb hr=>by
  have P:=q6 ((cD a hp).below h hb) 2 (aZ n A) (au nb) n hq o hk (λd=>by
   rw[hl] at d;obtain⟨g1,g2⟩:=hr d;refine⟨nb,rfl,λd=>by have:=(cD a hp).lt h _ d;omega,cj g2,λi hi=>?_⟩
   rw[hl] at hi;have e:X (aZ n A) i 0=A:=by rw[aM,Dm hi];rfl
   rw[e];simp[World.cell?,g2,hi]) (λi hi=>by
   rw[hl] at hi;rw[aM,Dm hi];exact m) (by rw[hl];exact room)
  rw[hl] at P;refine P.mono ?_;rintro e w' ⟨b,rfl,j,t⟩
  exact⟨b,rfl,j,(b9.of hb).trans t⟩
 have x:=cg u;generalize S.grow a 2 (aZ n A)=g at*;obtain⟨v,cd,ag⟩:=g;go_enter func130,ntmps130;go_wp2_with fail;refine s.mono ?_;rintro e c ⟨nb,rfl,hr,hb⟩
 have P:=x.o c nb hb hr;go_wp2_with fail;refine P.mono ?_;rintro e ai ⟨N,rfl,W,ab⟩
 have l:=cU W ab;go_wp2_with fail;go_ret2;exact⟨N,rfl,l.o.1,l.o.2⟩
theorem Jv (h:(cD a hp).J F S w)(R B I n:Int)(A:Nat)(g:A<12):
 M prog 130 #[aq hp,dJ 3 R A B I n] w λe w'=>e=OV (ay #[ak (X S.s.rs A 0),ak 0])/\O7 w.heap.size w w':=by
 have b:=aw w (cA 3 R A B I n)
 have c:=aO w (E #[U OW 3,U OW R,U OW (A:Int),U OW B,U OW I,U OW n] 105)
 have f:=(cD a hp).below h b;obtain⟨h0,c0,c3,rt,_⟩:=ft f;obtain⟨r1,_⟩:=rt A g;skip;obtain⟨q0,q1,j,q3,k,l⟩:=dZ c;have fx:¬F w.heap.size:=λd=>by have:=(cD a hp).lt h _ d;omega
 have i:=cg b;clear h f rt b c fx;generalize X S.s.rs A 0=x at*;go_enter func130,ntmps130
 go_upto_region 6 with fail
 go_quiet (fail)
 go_wp2_with fail;go_ret2;exact⟨rfl,below_drewN i.o _⟩
theorem Jw (h:(cD a hp).J F S w)(R B I n:Int)(A:Nat)(s:A<12)(hq:OQ S.q<=90000):
 M prog 130 #[aq hp,dJ 10 R A B I n] w λe w'=>∃b,e=OV (ay #[ak (S.pop a (X S.s.rs A 0)).1,ak (S.pop a (X S.s.rs A 0)).2.1])/\(cD a hp).J b (S.pop a (X S.s.rs A 0)).2.2 w'/\b9 F w b w':=by
 have c:=aw w (cA 10 R A B I n)
 have f:=aO w (E #[U OW 10,U OW R,U OW (A:Int),U OW B,U OW I,U OW n] 105)
 have l:=(cD a hp).below h c;obtain⟨h0,c0,c3,rt,_⟩:=ft l;obtain⟨r1,_⟩:=rt A s;have m:=(cD a hp).below l (aH _ (w.alloc (cA 10 R A B I n))).drew;have u:=I3 m (X S.s.rs A 0) hq;obtain⟨q0,q1,ag,q3,ao,ap⟩:=dZ f;have N:O7 w.heap.size w (w.alloc (cA 10 R A B I n)).drew:=c.trans ((aH _ (w.alloc (cA 10 R A B I n))).drew.mono c.size)
 have ar:(0:Int)<=(A:Int):=aa;have aB:(A:Int)<12:=aa;have lx:w.heap.size<(w.alloc (cA 10 R A B I n)).heap.size:=cj f;have fx:¬F w.heap.size:=λd=>by have:=(cD a hp).lt h _ d;omega
 have W:aA ((cD a hp).J F S (w.alloc (cA 10 R A B I n)).drew/\O7 w.heap.size w (w.alloc (cA 10 R A B I n)).drew/\(w.alloc (cA 10 R A B I n)).drew.heap[w.heap.size]?=H (cA 10 R A B I n)/\¬F w.heap.size):=⟨m,N,f,fx⟩
 have aF:aA (O7 w.heap.size w (w.alloc (cA 10 R A B I n))):=c;clear h l m rt c N f fx;have aR:aA (X S.s.rs A 0=X S.s.rs A 0):=rfl;have ai:aA ((S.pop a (X S.s.rs A 0)).2.2.s.rs=S.s.rs):=Jm a S (X S.s.rs A 0)
 generalize S.pop a (X S.s.rs A 0)=g at*;obtain⟨v,cd,al⟩:=g;dsimp only at*;go_enter func130,ntmps130
 go_upto_region 18 with fail
 generalize w.alloc (cA 10 R A B I n)=w0 at*;generalize am:w.heap.size=i at*;have an:aA (∀b w' o,(cD a hp).J b o w'->b9 F w0.drew b w'->o.s.rs=S.s.rs->(V w' ⟨hp,0,O0⟩=H (bq (H ⟨a.pw,0,O0⟩))/\V w' ⟨a.pw,3,O0⟩=H (Z (H ⟨a.nb,0,O0⟩) 12 12)/\V w' ⟨a.nb,A,O0⟩=H (U OW (X S.s.rs A 0)))/\V w' ⟨i,2,O0⟩=H (U OW (A:Int))):=λb w' o j t es=>by obtain⟨g0,_,g3,ab,_⟩:=ft j;rw[es] at ab;exact⟨⟨g0,g3,(ab A s).1⟩,(aS (a:=⟨i,2,O0⟩) (t.fr.block i lx W.o.2.2.2)).trans ag⟩
 generalize X S.s.rs A 0=x at*
 go_region_held3 (λw'=>V w' (av hp 0)=H (aq a.pw)/\V w' (av a.pw 3)=H (Z (au a.nb) 12 12)/\V w' (av a.nb A)=H (ak x)/\V w' (av i 2)=H (ak (A:Int))) (go_keep)
  (first
    |(go_at_call 198;refine u.mono ?_;clear u;rintro e p ⟨k,rfl,j2,q⟩;obtain⟨⟨g0,g3,gr⟩,aV⟩:=an.o k p _ j2 q ai.o;have ad:aA ((cD a hp).J k al p/\b9 F w k p):=⟨j2,(b9.of (by rw[am];exact W.o.2.1)).trans q⟩;clear j2 q))
 go_wp2_with fail;go_ret2;exact⟨k,rfl,ad.o.1,ad.o.2⟩
theorem Jx (h:(cD a hp).J F S w)(R B I n:Int)(A:Nat)(l:A<12):
 M prog 130 #[aq hp,dJ 13 R A B I n] w λe w'=>e=OV (ay #[ak (S.len a (X S.s.rs A 0)).1,ak (S.len a (X S.s.rs A 0)).2.1])/\O7 w.heap.size w w':=by
 have c:=aw w (cA 13 R A B I n)
 have f:=aO w (E #[U OW 13,U OW R,U OW (A:Int),U OW B,U OW I,U OW n] 105)
 have i:=(cD a hp).below h c;obtain⟨h0,c0,c3,rt,_⟩:=ft i;obtain⟨r1,_⟩:=rt A l;have j:=(cD a hp).below i (aH _ (w.alloc (cA 13 R A B I n))).drew;have m:=I2 j (X S.s.rs A 0)
 obtain⟨q0,q1,q,q3,W,ab⟩:=dZ f;have b:O7 w.heap.size w (w.alloc (cA 13 R A B I n)).drew:=c.trans ((aH _ (w.alloc (cA 13 R A B I n))).drew.mono c.size)
 have ad:(0:Int)<=(A:Int):=aa;have ag:(A:Int)<12:=aa;have lx:w.heap.size<(w.alloc (cA 13 R A B I n)).heap.size:=cj f;have fx:¬F w.heap.size:=λd=>by have:=(cD a hp).lt h _ d;omega
 have k:aA ((cD a hp).J F S (w.alloc (cA 13 R A B I n)).drew/\O7 w.heap.size w (w.alloc (cA 13 R A B I n)).drew/\(w.alloc (cA 13 R A B I n)).drew.heap[w.heap.size]?=H (cA 13 R A B I n)/\¬F w.heap.size):=⟨j,b,f,fx⟩
 have ai:aA (O7 w.heap.size w (w.alloc (cA 13 R A B I n))):=c;clear h i j rt c b f fx;have al:aA (X S.s.rs A 0=X S.s.rs A 0):=rfl;generalize (S.len a (X S.s.rs A 0)).1=v at*;generalize (S.len a (X S.s.rs A 0)).2.1=cd at*;go_enter func130,ntmps130
 go_upto_region 22 with fail
 generalize w.alloc (cA 13 R A B I n)=w0 at*;generalize s:w.heap.size=g at*;have t:aA (∀w',O7 w0.drew.heap.size w0.drew w'->(V w' ⟨hp,0,O0⟩=H (bq (H ⟨a.pw,0,O0⟩))/\V w' ⟨a.pw,3,O0⟩=H (Z (H ⟨a.nb,0,O0⟩) 12 12)/\V w' ⟨a.nb,A,O0⟩=H (U OW (X S.s.rs A 0)))/\V w' ⟨g,2,O0⟩=H (U OW (A:Int))):=λw' hb=>by
  obtain⟨g0,_,g3,u,_⟩:=ft ((cD a hp).below k.o.1 hb)
  exact⟨⟨g0,g3,(u A l).1⟩,(hb.cell (p:=av g 2) lx).trans q⟩
 generalize X S.s.rs A 0=x at*
 go_region_held3 (λw'=>V w' (av hp 0)=H (aq a.pw)/\V w' (av a.pw 3)=H (Z (au a.nb) 12 12)/\V w' (av a.nb A)=H (ak x)/\V w' (av g 2)=H (ak (A:Int))) (go_keep)
  (first
    |(go_at_call 200;refine m.mono ?_;clear m;rintro e o ⟨rfl,b⟩;obtain⟨⟨g0,g3,gr⟩,am⟩:=t.o o b;have N:aA (O7 g w o):=k.o.2.1.trans (b.mono (by have:=k.o.2.1.size;omega));clear b))
 go_wp2_with fail;go_ret2;exact⟨rfl,by rw[s];exact N.o⟩
theorem Jy (h:(cD a hp).J F S w)(R B I n:Int)(A:Nat)(l:A<12):
 M prog 130 #[aq hp,dJ 11 R A B I n] w λe w'=>e=OV (ay #[ak (if eV a.N S.s.y S.s.g S.s.ws (X S.s.rs A 0) I=0 then ld a.N S.s.y S.s.g S.s.ws (cq (X S.s.rs A 0)+1+I) else 0),ak (eV a.N S.s.y S.s.g S.s.ws (X S.s.rs A 0) I)])/\O7 w.heap.size w w':=by
 have f:=aw w (cA 11 R A B I n)
 have g:=aO w (E #[U OW 11,U OW R,U OW (A:Int),U OW B,U OW I,U OW n] 105)
 have j:=(cD a hp).below h f;obtain⟨h0,c0,c3,rt,_⟩:=ft j;obtain⟨r1,_⟩:=rt A l;have i:=(cD a hp).below j (aH _ (w.alloc (cA 11 R A B I n))).drew;have m:=E8 (X S.s.rs A 0) I (w.alloc (cA 11 R A B I n)).drew (ft i).c0 (mT i).1;obtain⟨q0,q1,q,q3,s,ab⟩:=dZ g;have c:O7 w.heap.size w (w.alloc (cA 11 R A B I n)).drew:=f.trans ((aH _ (w.alloc (cA 11 R A B I n))).drew.mono f.size)
 have ad:(0:Int)<=(A:Int):=aa;have ag:(A:Int)<12:=aa;have lx:w.heap.size<(w.alloc (cA 11 R A B I n)).heap.size:=cj g;have fx:¬F w.heap.size:=λd=>by have:=(cD a hp).lt h _ d;omega
 have k:aA ((cD a hp).J F S (w.alloc (cA 11 R A B I n)).drew/\O7 w.heap.size w (w.alloc (cA 11 R A B I n)).drew/\(w.alloc (cA 11 R A B I n)).drew.heap[w.heap.size]?=H (cA 11 R A B I n)/\¬F w.heap.size):=⟨i,c,g,fx⟩
 have ai:aA (O7 w.heap.size w (w.alloc (cA 11 R A B I n))):=f;clear h j i rt f c g fx;have al:aA (X S.s.rs A 0=X S.s.rs A 0):=rfl;generalize (if eV a.N S.s.y S.s.g S.s.ws (X S.s.rs A 0) I=0 then ld a.N S.s.y S.s.g S.s.ws (cq (X S.s.rs A 0)+1+I) else 0)=v at*;generalize eV a.N S.s.y S.s.g S.s.ws (X S.s.rs A 0) I=cd at*;go_enter func130,ntmps130
 go_upto_region 20 with fail
 generalize w.alloc (cA 11 R A B I n)=w0 at*;generalize t:w.heap.size=b at*;have u:aA (∀w',O7 w0.drew.heap.size w0.drew w'->(V w' ⟨hp,0,O0⟩=H (bq (H ⟨a.pw,0,O0⟩))/\V w' ⟨a.pw,3,O0⟩=H (Z (H ⟨a.nb,0,O0⟩) 12 12)/\V w' ⟨a.nb,A,O0⟩=H (U OW (X S.s.rs A 0)))/\V w' ⟨b,2,O0⟩=H (U OW (A:Int))/\V w' ⟨b,4,O0⟩=H (U OW I)):=λw' hb=>by
  obtain⟨g0,_,g3,N,_⟩:=ft ((cD a hp).below k.o.1 hb)
  exact⟨⟨g0,g3,(N A l).1⟩,(hb.cell (p:=av b 2) lx).trans q,(hb.cell (p:=av b 4) lx).trans s⟩
 generalize X S.s.rs A 0=x at*
 go_region_held3 (λw'=>V w' (av hp 0)=H (aq a.pw)/\V w' (av a.pw 3)=H (Z (au a.nb) 12 12)/\V w' (av a.nb A)=H (ak x)/\V w' (av b 2)=H (ak (A:Int))/\V w' (av b 4)=H (ak I)) (go_keep)
  (first
    |(go_at_call 199;refine m.mono ?_;clear m;rintro e o ⟨rfl,c⟩;obtain⟨⟨g0,g3,gr⟩,am,an⟩:=u.o o c;have W:aA (O7 b w o):=k.o.2.1.trans (c.mono (by have:=k.o.2.1.size;omega));clear c))
 go_wp2_with fail;go_ret2;exact⟨rfl,by rw[t];exact W.o⟩
theorem Jz (h:(cD a hp).J F S w)(R I n:Int)(A B:Nat)(j:A<12)(hB:B<12):
 M prog 130 #[aq hp,dJ 14 R A B I n] w λe w'=>e=OV (ay #[ak (if X S.s.rs A 0=X S.s.rs B 0 then ew 1 1 else ew 1 0),ak 0])/\O7 w.heap.size w w':=by
 have d:=aw w (cA 14 R A B I n)
 have f:=aO w (E #[U OW 14,U OW R,U OW (A:Int),U OW (B:Int),U OW I,U OW n] 105)
 have g:=(cD a hp).below h d;obtain⟨h0,c0,c3,rt,_⟩:=ft g;obtain⟨r1,_⟩:=rt A j;obtain⟨u,_⟩:=rt B hB;obtain⟨q0,q1,o,q3,N,W⟩:=dZ f;have c:O7 w.heap.size w (w.alloc (cA 14 R A B I n)).drew:=d.trans ((aH _ (w.alloc (cA 14 R A B I n))).drew.mono d.size)
 have ab:(0:Int)<=(A:Int):=aa;have ad:(A:Int)<12:=aa;have ag:(0:Int)<=(B:Int):=aa;have ai:(B:Int)<12:=aa;have k:=I1 (X S.s.rs A 0) (X S.s.rs B 0) (w.alloc (cA 14 R A B I n)).drew;have lx:w.heap.size<(w.alloc (cA 14 R A B I n)).heap.size:=cj f;have i:aA ((cD a hp).J F S (w.alloc (cA 14 R A B I n)).drew/\O7 w.heap.size w (w.alloc (cA 14 R A B I n)).drew/\(w.alloc (cA 14 R A B I n)).drew.heap[w.heap.size]?=H (cA 14 R A B I n)):=⟨(cD a hp).below g (aH _ (w.alloc (cA 14 R A B I n))).drew,c,f⟩
 clear h g rt d c f;have al:aA (X S.s.rs A 0=X S.s.rs A 0):=rfl;generalize (if X S.s.rs A 0=X S.s.rs B 0 then ew 1 1 else ew 1 0)=v at*;go_enter func130,ntmps130
 go_upto_region 24 with fail
 generalize w.alloc (cA 14 R A B I n)=w0 at*;generalize q:w.heap.size=b at*;have s:aA (∀w',O7 w0.drew.heap.size w0.drew w'->(V w' ⟨hp,0,O0⟩=H (bq (H ⟨a.pw,0,O0⟩))/\V w' ⟨a.pw,3,O0⟩=H (Z (H ⟨a.nb,0,O0⟩) 12 12)/\V w' ⟨a.nb,A,O0⟩=H (U OW (X S.s.rs A 0))/\V w' ⟨a.nb,B,O0⟩=H (U OW (X S.s.rs B 0)))/\V w' ⟨b,2,O0⟩=H (U OW (A:Int))/\V w' ⟨b,3,O0⟩=H (U OW (B:Int))):=λw' hb=>by
  obtain⟨g0,_,g3,l,_⟩:=ft ((cD a hp).below i.o.1 hb)
  exact⟨⟨g0,g3,(l A j).1,(l B hB).1⟩,(hb.cell (p:=av b 2) lx).trans o,(hb.cell (p:=av b 3) lx).trans q3⟩
 generalize X S.s.rs A 0=x at*;generalize X S.s.rs B 0=y at*
 go_region_held3 (λw'=>V w' (av hp 0)=H (aq a.pw)/\V w' (av a.pw 3)=H (Z (au a.nb) 12 12)/\V w' (av a.nb A)=H (ak x)/\V w' (av a.nb B)=H (ak y)/\V w' (av b 2)=H (ak (A:Int))/\V w' (av b 3)=H (ak (B:Int))) (go_keep)
  (first
    |(go_at_call 201;refine k.mono ?_;clear k;rintro e m ⟨rfl,c⟩;obtain⟨⟨g0,g3,gr,am⟩,an,ao⟩:=s.o m c;have t:aA (O7 b w m):=i.o.2.1.trans (c.mono (by have:=i.o.2.1.size;omega));clear c))
 go_wp2_with fail;go_ret2;exact⟨rfl,by rw[q];exact t.o⟩
theorem JA (R A B I n:Int)(w:az)(hp:Nat):
 M J 130 #[aq hp,dJ 2 R A B I n] w λe w'=>e=OV (ay #[ak 2,ak 0])/\O7 w.heap.size w w':=by
 have b:=aw w (cA 2 R A B I n)
 go_enter func130,ntmps130;go_wp2_with fail;refine(uz _).mono ?_;rintro e w1 ⟨rfl,hw⟩
 have hw:=hw.symm;subst hw;go_wp2_with fail;go_ret2;exact⟨rfl,b⟩
theorem JB (h:(cD a hp).J F S w){j:Nat}(ok:ed a S j)(hb:cL a S.s)(k R A B I n:Int)(hk:dY k R A B n=0)(ag:k≠9)(ai:k≠12)(al:k≠15)(am:k≠16):
 M prog 130 #[aq hp,dJ k R A B I n] w λe w'=>∃i,e=OV (ay #[ak (S.rt a k (K A) (K B) I n).1,ak (S.rt a k (K A) (K B) I n).2.1])/\(cD a hp).J i (S.rt a k (K A) (K B) I n).2.2 w'/\b9 F w i w':=by
 have hq:OQ S.q+OQ S.r<=90000:=by have:=ok.mA;omega
 have l:=ok.sI hb;have low:∀{Q:Int×Int×cv},(M prog 130 #[aq hp,dJ k R A B I n] w λe w'=>e=OV (ay #[ak Q.1,ak Q.2.1])/\O7 w.heap.size w w')->Q.2.2=S->M prog 130 #[aq hp,dJ k R A B I n] w λe w'=>∃i,e=OV (ay #[ak Q.1,ak Q.2.1])/\(cD a hp).J i Q.2.2 w'/\b9 F w i w':=λ{Q} P e=>by
  refine P.mono ?_;rintro ao w' ⟨rfl,hb⟩
  rw[e];exact⟨F,rfl,(cD a hp).below h hb,b9.of hb⟩
 have g:(cS k=3\/cS k=6\/cS k=7)->∃b:Nat,A=b/\b<12:=λo=>by have:=mS hk o;exact⟨K A,aa,aa⟩
 have gR:(cS k=6\/cS k=7)->∃f:Nat,B=f/\f<12:=λo=>by have:=nt hk o;exact⟨K B,aa,aa⟩
 have rm:∀m:Nat,m<=12->(S.room a (1+m)).1=0->(S.room a (1+m)).2.s.y+1+m<=a.N:=λm hm e=>by have:=(ok.room hb (1+m)).2.2.1 e aa;omega
 unfold cv.rt;by_cases p:k=1
 ·rw[aN p];subst p;exact low (Hk R A B I n w hp) rfl
 rw[aJ p];by_cases q:k=3
 ·rw[aN q];subst q;obtain⟨b,rfl,c⟩:=g ae;rw[bD];exact low (Jv h R B I n b c) rfl
 rw[aJ q];by_cases s:k=4
 ·rw[aN s];subst s;obtain⟨b,rfl,c⟩:=g ae;obtain⟨f,rfl,hB⟩:=gR ae;rw[bD,bD];exact Jp h R I n b f c hB hq l (rm 2 aa)
 rw[aJ s];by_cases t:k=5
 ·rw[aN t];subst t;obtain⟨b,rfl,c⟩:=g ae;have hn:hc 2 n=0:=By hk;have hn:=jK 2 n hn;obtain⟨n,rfl⟩:=bC (show 0<=n by omega)
  rw[bD];exact Ju h R B I b n c aa hq l (rm n aa)
 rw[aJ t];by_cases u:k=6
 ·rw[aN u];subst u;obtain⟨b,rfl,c⟩:=g ae;obtain⟨f,rfl,hB⟩:=gR ae;rw[bD,bD];exact Jq h R I n b f c hB hq l (rm 2 aa)
 rw[aJ u];by_cases v:k=7
 ·rw[aN v];subst v;obtain⟨b,rfl,c⟩:=g ae;obtain⟨f,rfl,hB⟩:=gR ae;rw[bD,bD];exact Jr h R I n b f c hB hq l (rm 2 aa)
 rw[aJ v];by_cases x:k=8
 ·rw[aN x];subst x;exact Jt h R A B I n hq l (rm 0 aa)
 rw[aJ x];by_cases N:k=10
 ·rw[aN N];subst N;obtain⟨b,rfl,c⟩:=g ae;rw[bD];exact Jw h R B I n b c aa
 rw[aJ N];by_cases W:k=11
 ·rw[aN W];subst W;obtain⟨b,rfl,c⟩:=g ae;rw[bD];exact low (Jy h R B I n b c) rfl
 rw[aJ W];by_cases ab:k=13
 ·rw[aN ab];subst ab;obtain⟨b,rfl,c⟩:=g ae;rw[bD];exact low (Jx h R B I n b c) (by unfold cv.len;split<;>rfl)
 rw[aJ ab];by_cases ad:k=14
 ·rw[aN ad];subst ad;obtain⟨b,rfl,c⟩:=g ae;obtain⟨f,rfl,hB⟩:=gR ae;rw[bD,bD];exact low (Jz h R I n b f c hB) rfl
 rw[aJ ad];have an:k=2:=by
  rcases qD k with d|d|d|d|d|d|d|d|d|d|d|d|d|d|d|d|d
  all_goals
   first
    |exact d
    |exact absurd d p
    |exact absurd d q
    |exact absurd d s
    |exact absurd d t
    |exact absurd d u
    |exact absurd d v
    |exact absurd d x
    |exact absurd d ag
    |exact absurd d N
    |exact absurd d W
    |exact absurd d ai
    |exact absurd d ab
    |exact absurd d ad
    |exact absurd d al
    |exact absurd d am
    |(have o:=qE d;unfold dY at hk;rw[aN o] at hk;omega)
 subst an;exact low (JA R A B I n w hp) rfl
theorem pL (h:(cD a hp).J F S w):cL a S.s:=by obtain⟨c,b,_⟩:=lB h;obtain⟨d,g1,_⟩:=ou b;obtain⟨_,_,_,_,_,rl,_⟩:=kU g1;have ha:=(l_ g1).1;exact⟨ha.hN,ha.hN',ha.hO,ha.hy,ha.hg,ha.hl,rl⟩
theorem JC (h:(cD a hp).J F S w)(x i z:Int)(hM:OQ S.s.M<=100000):
 Calls prog 127 #[aq a.pw,ak x,ak i,ak z] w λe w'=>∃b,e=OV (ak (eV a.N S.s.y S.s.g S.s.ws x i))/\(cD a hp).J b (S.set a x i z) w'/\b9 F w b w':=by
 obtain⟨l,c,_,d⟩:=lB h;obtain⟨m,g1,g2⟩:=ou c;refine(GI g1 x i z hM).mono ?_;rintro e w' ⟨rfl,f,g⟩
 obtain⟨n,j2,j⟩:=g2 _ _ _ f g;obtain⟨k,cI,t3⟩:=d _ _ _ j2 j;exact⟨k,rfl,cI,t3⟩
theorem JD {k R A B n:Int}(hc:dY k R A B n=0)(b:k≠9)(c:k≠12)(e:k≠15)(f:k≠16):cS k=1\/cS k=3\/cS k=7:=by
 rcases qD k with d|d|d|d|d|d|d|d|d|d|d|d|d|d|d|d|d
 case' inr.inr.inr.inr.inr.inr.inr.inr.inr.inr.inr.inr.inr.inr.inr.inr=>
  have:=qE d;unfold dY at hc;rw[aN this] at hc;omega
 all_goals
  first
   |(subst d;decide)
   |(omega)
theorem JE (k R A B I n:Int)(hc:dY k R A B n≠0):
 M J 93 #[aq hp,dJ k R A B I n] w λe w'=>e=OV (ak (dY k R A B n))/\O7 w.heap.size w w':=by
 have c:=ky k R A B I n (w.alloc (cA k R A B I n))
 have b:=cg (aw w (cA k R A B I n))
 go_enter func93,ntmps93;go_wp2_with fail;refine c.mono ?_;rintro e w1 ⟨rfl,d⟩
 go_wp2_with fail;go_ret;exact⟨rfl,(b.o.trans (d.mono b.o.size))⟩
theorem JF (h:(cD a hp).J F S w)(R A B I n:Int)(hc:dY 15 R A B n=0)(hq:OQ S.q+OQ S.r<=90000):
 M prog 93 #[aq hp,dJ 15 R A B I n] w λe w'=>∃b,e=OV (ak (S.code a))/\(cD a hp).J b (S.cut a) w'/\b9 F w b w':=by
 have PC:=ky 15 R A B I n (w.alloc (cA 15 R A B I n))
 rw[hc] at PC;have HJ:=ge h (aw w (cA 15 R A B I n)) (aO w (E #[U OW 15,U OW R,U OW A,U OW B,U OW I,U OW n] 105))
 have BA:aA (∀b w',(cD a hp).J b S w'->_):=λb w' c=>Bp c hq;generalize S.cut a=d at*;generalize S.code a=cd at*;go_enter func93,ntmps93;go_wp2_with fail;generalize w.alloc (cA 15 R A B I n)=w0 at*;exact Bz
theorem JG (h:(cD a hp).J F S w)(R A B I n:Int)(hc:dY 16 R A B n=0)(hq:OQ S.q+OQ S.r<=90000)(c:S.gD a=D->∃G,je (S.k5 a) (S.d_ a) G/\G 0 (S.k5 a,0)):
 M prog 93 #[aq hp,dJ 16 R A B I n] w λe w'=>∃b,e=OV (ak (S.jf a))/\(cD a hp).J b (S.dR a) w'/\b9 F w b w':=by
 have PC:=ky 16 R A B I n (w.alloc (cA 16 R A B I n))
 rw[hc] at PC;have HJ:=ge h (aw w (cA 16 R A B I n)) (aO w (E #[U OW 16,U OW R,U OW A,U OW B,U OW I,U OW n] 105))
 have BA:aA (∀b w',(cD a hp).J b S w'->_):=λb w' d=>Bq d hq c;generalize S.dR a=f at*;generalize S.jf a=cd at*;go_enter func93,ntmps93;go_wp2_with fail;generalize w.alloc (cA 16 R A B I n)=w0 at*;exact Bz
theorem JH (h:(cD a hp).J F S w)(R I n:Int)(A B:Nat)(N:A<12)(hB:B<12)(hc:dY 9 R A B n=0)(hr:OQ S.r<=90000)(hq:OQ S.q<=90000):
 M prog 93 #[aq hp,dJ 9 R A B I n] w λe w'=>∃b,e=OV (ak (S.reg a (X S.s.rs A 0) (X S.s.rs B 0)).1)/\(cD a hp).J b (S.reg a (X S.s.rs A 0) (X S.s.rs B 0)).2 w'/\b9 F w b w':=by
 have W:=aw w (cA 9 R A B I n)
 have ab:=aO w (E #[U OW 9,U OW R,U OW (A:Int),U OW (B:Int),U OW I,U OW n] 105)
 have k:=ky 9 R A B I n (w.alloc (cA 9 R A B I n))
 rw[hc] at k;have f:aA ((cD a hp).J F S w/\O7 w.heap.size w (w.alloc (cA 9 R A B I n))/\(w.alloc (cA 9 R A B I n)).heap[w.heap.size]?=H (cA 9 R A B I n)/\¬F w.heap.size):=⟨h,W,ab,λd=>by have:=(cD a hp).lt h _ d;omega⟩
 have aR:(0:Int)<=(A:Int):=aa;have aV:(A:Int)<12:=aa;have a0:(0:Int)<=(B:Int):=aa;have a1:(B:Int)<12:=aa;have al:aA (∀b w',(cD a hp).J b S w'->M prog 126 #[aq hp,ak (X S.s.rs A 0),ak (X S.s.rs B 0)] w' λe ad=>∃i,e=OV (ak (S.reg a (X S.s.rs A 0) (X S.s.rs B 0)).1)/\(cD a hp).J i (S.reg a (X S.s.rs A 0) (X S.s.rs B 0)).2 ad/\b9 b w' i ad):=λb w' am=>I4 am _ _ hr hq;have an:aA ((S.reg a (X S.s.rs A 0) (X S.s.rs B 0)).2.s.rs=S.s.rs):=Jn a S _ _;generalize S.reg a (X S.s.rs A 0) (X S.s.rs B 0)=g at*;obtain⟨cd,ao⟩:=g;dsimp only at*;clear h W hc ab;go_enter func93,ntmps93;go_wp2_with fail;generalize w.alloc (cA 9 R A B I n)=w0 at*;generalize ap:w.heap.size=c at*;refine k.mono ?_;clear k;rintro e w1 ⟨rfl,l⟩
 have m:O7 w.heap.size w w1:=by rw[ap];exact f.o.2.1.trans (l.mono (by have:=cj f.o.2.2.1;omega))
 have o:=(l.block c (cj f.o.2.2.1)).trans f.o.2.2.1;obtain⟨q0,q1,ar,q3,a2,bb⟩:=dZ o;have p:=(cD a hp).below f.o.1 m;obtain⟨h0,c0,c3,rt,_⟩:=ft p;obtain⟨r1,_⟩:=rt A N;obtain⟨bd,_⟩:=rt B hB;have ag:=(cD a hp).below p (aH _ w1).drew;have P:=al.o F w1.drew ag;have aB:aA (b9 F w F w1.drew):=(b9.of m).below (aH _ w1).drew;have lx:=cj o;have aF:aA (∀b w' q,(cD a hp).J b q w'->b9 F w1.drew b w'->q.s.rs=S.s.rs->(V w' (av hp 0)=H (aq a.pw)/\V w' (av a.pw 3)=H (Z (au a.nb) 12 12)/\V w' (av a.nb A)=H (ak (X S.s.rs A 0))/\V w' (av a.nb B)=H (ak (X S.s.rs B 0)))/\V w' (av c 2)=H (ak (A:Int))/\V w' (av c 3)=H (ak (B:Int))):=λb w' q j t es=>by obtain⟨g0,_,g3,s,_⟩:=ft j;rw[es] at s;exact⟨⟨g0,g3,(s A N).1,(s B hB).1⟩,(aS (a:=⟨c,2,O0⟩) (t.fr.block c lx f.o.2.2.2)).trans ar,(aS (a:=⟨c,3,O0⟩) (t.fr.block c lx f.o.2.2.2)).trans q3⟩
 clear l m p ag rt o;have be:aA (X S.s.rs A 0=X S.s.rs A 0):=rfl;generalize X S.s.rs A 0=x at*;generalize X S.s.rs B 0=y at*;go_wp2_with fail
 go_region_held3 (λw'=>V w' (av hp 0)=H (aq a.pw)/\V w' (av a.pw 3)=H (Z (au a.nb) 12 12)/\V w' (av a.nb A)=H (ak x)/\V w' (av a.nb B)=H (ak y)/\V w' (av c 2)=H (ak (A:Int))/\V w' (av c 3)=H (ak (B:Int))) (go_keep)
  (first
    |(go_at_call 126;refine P.mono ?_;clear P;rintro e u ⟨i,rfl,j2,v⟩;obtain⟨⟨g0,g3,gr,bg⟩,bi,bl⟩:=aF.o i u _ j2 v an.o;have ai:aA ((cD a hp).J i ao u/\b9 F w i u):=⟨j2,aB.o.trans v⟩;clear j2 v))
 go_wp2_with fail;go_ret;exact⟨i,rfl,ai.o.1,ai.o.2⟩
theorem JJ (h:(cD a hp).J F S w)(R I n:Int)(A B:Nat)(v:A<12)(hB:B<12)(hc:dY 12 R A B n=0)(hM:OQ S.s.M<=100000):
 Calls prog 93 #[aq hp,dJ 12 R A B I n] w λe w'=>∃c,e=OV (ak (eV a.N S.s.y S.s.g S.s.ws (X S.s.rs A 0) I))/\(cD a hp).J c (S.set a (X S.s.rs A 0) I (X S.s.rs B 0)) w'/\b9 F w c w':=by
 have N:=aw w (cA 12 R A B I n)
 have W:=aO w (E #[U OW 12,U OW R,U OW (A:Int),U OW (B:Int),U OW I,U OW n] 105)
 have i:=ky 12 R A B I n (w.alloc (cA 12 R A B I n))
 rw[hc] at i;have f:aA ((cD a hp).J F S w/\O7 w.heap.size w (w.alloc (cA 12 R A B I n))/\(w.alloc (cA 12 R A B I n)).heap[w.heap.size]?=H (cA 12 R A B I n)/\¬F w.heap.size):=⟨h,N,W,λd=>by have:=(cD a hp).lt h _ d;omega⟩
 have aR:(0:Int)<=(A:Int):=aa;have aV:(A:Int)<12:=aa;have a0:(0:Int)<=(B:Int):=aa;have a1:(B:Int)<12:=aa;have ai:aA (∀c w',(cD a hp).J c S w'->Calls prog 127 #[aq a.pw,ak (X S.s.rs A 0),ak I,ak (X S.s.rs B 0)] w' λe ab=>∃g,e=OV (ak (eV a.N S.s.y S.s.g S.s.ws (X S.s.rs A 0) I))/\(cD a hp).J g (S.set a (X S.s.rs A 0) I (X S.s.rs B 0)) ab/\b9 c w' g ab):=λc w' al=>JC al _ _ _ hM;have am:aA ((S.set a (X S.s.rs A 0) I (X S.s.rs B 0)).s.rs=S.s.rs):=rfl;generalize S.set a (X S.s.rs A 0) I (X S.s.rs B 0)=an at*;generalize eV a.N S.s.y S.s.g S.s.ws (X S.s.rs A 0) I=cd at*;clear h N hc W;go_enter func93,ntmps93;go_wp2_with fail;generalize w.alloc (cA 12 R A B I n)=w0 at*;generalize ao:w.heap.size=b at*;refine i.mono ?_;clear i;rintro e w1 ⟨rfl,k⟩
 have l:O7 w.heap.size w w1:=by rw[ao];exact f.o.2.1.trans (k.mono (by have:=cj f.o.2.2.1;omega))
 have m:=(k.block b (cj f.o.2.2.1)).trans f.o.2.2.1;obtain⟨q0,q1,ap,q3,ar,a2⟩:=dZ m;have o:=(cD a hp).below f.o.1 l;obtain⟨h0,c0,c3,rt,_⟩:=ft o;obtain⟨r1,_⟩:=rt A v;obtain⟨bb,_⟩:=rt B hB;have ad:=(cD a hp).below o (aH _ w1).drew;have P:=ai.o F w1.drew ad;have aB:aA (b9 F w F w1.drew):=(b9.of l).below (aH _ w1).drew;have lx:=cj m;have aF:aA (∀c w' p,(cD a hp).J c p w'->b9 F w1.drew c w'->p.s.rs=S.s.rs->(V w' (av hp 0)=H (aq a.pw)/\V w' (av a.pw 3)=H (Z (au a.nb) 12 12)/\V w' (av a.nb A)=H (ak (X S.s.rs A 0))/\V w' (av a.nb B)=H (ak (X S.s.rs B 0)))/\V w' (av b 2)=H (ak (A:Int))/\V w' (av b 3)=H (ak (B:Int))/\V w' (av b 4)=H (ak I)):=λc w' p j t es=>by obtain⟨g0,_,g3,q,_⟩:=ft j;rw[es] at q;exact⟨⟨g0,g3,(q A v).1,(q B hB).1⟩,(aS (a:=⟨b,2,O0⟩) (t.fr.block b lx f.o.2.2.2)).trans ap,(aS (a:=⟨b,3,O0⟩) (t.fr.block b lx f.o.2.2.2)).trans q3,(aS (a:=⟨b,4,O0⟩) (t.fr.block b lx f.o.2.2.2)).trans ar⟩
 clear k l o ad rt m;have bd:aA (X S.s.rs A 0=X S.s.rs A 0):=rfl;generalize X S.s.rs A 0=x at*;generalize X S.s.rs B 0=y at*;go_wp2_with fail
 go_region_held3 (λw'=>V w' (av hp 0)=H (aq a.pw)/\V w' (av a.pw 3)=H (Z (au a.nb) 12 12)/\V w' (av a.nb A)=H (ak x)/\V w' (av a.nb B)=H (ak y)/\V w' (av b 2)=H (ak (A:Int))/\V w' (av b 3)=H (ak (B:Int))/\V w' (av b 4)=H (ak I)) (go_keep)
  (first
    |(go_at_call 127;refine P.mono ?_;clear P;rintro e s ⟨g,rfl,j2,u⟩;obtain⟨⟨g0,g3,gr,be⟩,bg,bi,bl⟩:=aF.o g s _ j2 u am.o;have ag:aA ((cD a hp).J g an s/\b9 F w g s):=⟨j2,aB.o.trans u⟩;clear j2 u))
 go_wp2_with fail;go_ret;exact⟨g,rfl,ag.o.1,ag.o.2⟩
theorem JK (h:(cD a hp).J F S w)(k R A B I n:Int)(hc:dY k R A B n=0)(k1:k≠9)(k2:k≠12)(k3:k≠15)(k4:k≠16)(v cd:Int)(h0:cd≠0)(f:cv)
 (m:∀b w',(cD a hp).J b S w'->M prog 130 #[aq hp,dJ k R A B I n] w' λe g=>∃F2,e=OV (ay #[ak v,ak cd])/\(cD a hp).J F2 f g/\b9 b w' F2 g):
 M prog 93 #[aq hp,dJ k R A B I n] w λe w'=>∃b,e=OV (ak cd)/\(cD a hp).J b f w'/\b9 F w b w':=by
 have i:=aw w (cA k R A B I n)
 have o:=aO w (E #[U OW k,U OW R,U OW A,U OW B,U OW I,U OW n] 105)
 have j:=ky k R A B I n (w.alloc (cA k R A B I n))
 rw[hc] at j;have c:=ge ((cD a hp).below h i) i o;have p:=cg m;go_enter func93,ntmps93;go_wp2_with fail;generalize w.alloc (cA k R A B I n)=w0 at*;generalize q:w.heap.size=s at*;refine j.mono ?_;rintro e w1 ⟨rfl,d⟩
 have l:=cU ((cD a hp).below c.o.1 d) (c.o.2.1.trans (d.mono (by have:=cj c.o.2.2;omega)))
 obtain⟨q0,q1,u,q3,x,N⟩:=dZ ((d.block s (cj c.o.2.2)).trans c.o.2.2)
 go_wp2_with fail;refine(p.o F w1 l.o.1).mono ?_;rintro e W ⟨F2,rfl,j2,t⟩
 have HF:=cU j2 ((b9.of (by rw[q];exact l.o.2)).trans t)
 exact oF
theorem JL (h:(cD a hp).J F S w){j:Nat}(ok:ed a S j)(t:j<=100000)(k R A B I n:Int):
 M prog 93 #[aq hp,dJ k R A B I n] w λe w'=>∃i,e=OV (ak (S.hd a k R A B I n).1)/\(cD a hp).J i (S.hd a k R A B I n).2 w'/\b9 F w i w':=by
 have hb:=pL h;have u:=ok.mA;have hm:=ok.m;have hq:OQ S.q+OQ S.r<=90000:=aa;unfold cv.hd;by_cases hc:dY k R A B n=0
 ·rw[aN hc];by_cases b:k=9
  ·rw[aN b];subst b;have l:=mS hc ae;have m:=nt hc ae;obtain⟨A,rfl⟩:=bC l.1;obtain⟨B,rfl⟩:=bC m.1;rw[bD,bD];exact JH h R I n A B aa aa hc aa aa
  rw[aJ b];by_cases d:k=12
  ·rw[aN d];subst d;have l:=mS hc ae;have m:=nt hc ae;obtain⟨A,rfl⟩:=bC l.1;obtain⟨B,rfl⟩:=bC m.1;rw[bD,bD];exact JJ h R I n A B aa aa hc aa
  rw[aJ d];by_cases f:k=15
  ·rw[aN f];subst f;exact JF h R A B I n hc hq
  rw[aJ f];by_cases e16:k=16
  ·rw[aN e16];subst e16;exact JG h R A B I n hc hq (ok.sI hb)
  rw[aJ e16];have q:=z8 hc (JD hc b d f e16)
  obtain⟨R,rfl⟩:=bC q.1;rw[bD];have o:∀i w',(cD a hp).J i S w'->_:=λi w' s=>JB s ok hb k R A B I n hc b d f e16;generalize S.rt a k (K A) (K B) I n=g at*;obtain⟨v,cd,p⟩:=g;by_cases c:cd=0
  ·rw[aN c];subst c;exact I8 h k R A B I n aa hc b d f e16 v p o
  ·rw[aJ c];exact JK h k R A B I n hc b d f e16 v cd c p o
 ·rw[aJ hc];refine(JE k R A B I n hc).mono ?_;rintro e w' ⟨rfl,hb⟩
  exact⟨F,rfl,(cD a hp).below h hb,b9.of hb⟩
end
section
variable {w:az}{pw p q N O y g:Nat}{ws:List Int}{sd:Nat}{v0:Value}{a1:Option Addr}{k1:Nat}{Q:List b8}{l:List Int}{ra:Option Addr}{rc:Nat}
theorem JM (hq:oj w pw p q N O y g ws sd v0 a1 k1 Q)(c3:V w (av pw 3)=H (Z ra (OQ l) rc))(hl:Lq w ra l)(hm:OQ l<=100000):
 M J 57 #[aq pw] w λe w'=>∃an bg j ao t,e=OV (bz #[Z an (OQ l) bg,Z j ao t])/\lr w' (I (G w)) an (gN N y g ws Q l).1/\jZ w' (I (G w)) j (gN N y g ws Q l).2.2/\ao=OQ (gN N y g ws Q l).2.2/\O7 (I (G w)) w w':=by
 have n:=aw w (E #[Z O0 0 0,Z O0 0 0] 97)
 have ap:=aO w (E #[Z O0 0 0,Z O0 0 0] 97)
 have ai:=hq.low n;have bi:=hl.kf (Kf.of (B:=0) n)
 have ar:=aT w _ c3;have aB:=(n.cell (p:=av pw 3) ar).trans c3;have bl:I (G w)<I (G (bu w (E #[Z O0 0 0,Z O0 0 0] 97))):=ac;have P:=FL ai.c0 ai.ar;have b7:=hq.ar.hN';have b8:=hq.ar.hy;have b9:=hq.ar.hO;have ca:=hq.ar.hg;have bn:∀a∈eQ N y g ws++dM N y g ws,0<=a/\a<2000:=λa ha=>by
  rcases List.mem_append.1 ha with ha|ha
  ·have:=pt a ha;omega
  ·have:=r6 a ha;omega
 have bo:OQ (eQ N y g ws++dM N y g ws)<=100000:=by exact BC
 have bp:aA (∀(u ct:Nat)(w1:az),Wk (bu w (E #[Z O0 0 0,Z O0 0 0] 97)) w1 u ct pw (eQ N y g ws++dM N y g ws) ([],[]) (Z O0 0 0) []->M J 90 #[aq u,Z ra (OQ l) rc] w1 λe w'=>∃br al a2 c2,e=OV (Z a2 (OQ l) c2)/\w'.ownsRow (I (G w1)) 139 2 (Z a2 (OQ l) c2) (OQ l) (ev (gN N y g ws Q l).1)/\Wk (bu w (E #[Z O0 0 0,Z O0 0 0] 97)) w' u ct pw (eQ N y g ws++dM N y g ws) (gN N y g ws Q l).2 br al/\fV (bu w (E #[Z O0 0 0,Z O0 0 0] 97)) w1 [] w' al/\(∀k,gf al k->H k≠(Value.slice a2 (OQ l) c2).ownBlock)):=
  λu ct w1 h1=>zW (zX ai bn bo _) (ks _) h1 (fE.start _) ac l ra rc (bi.kf (Kf.of (B:=0) h1.e9)) hm
 have aF:aA (OQ (gN N y g ws Q l).1=OQ l):=o6 _ _ _ _;generalize gN N y g ws Q l=R at*;obtain⟨cb,s⟩:=R;generalize eQ N y g ws++dM N y g ws=T at*;go_enter func57,ntmps57;go_wp2_with fail;refine P.mono ?_;rintro e w1 ⟨u,ct,rfl,h1⟩
 have bs:=(h1.e9.cell (p:=av pw 3) (aL ar n.size)).trans aB;have am:=cg h1;go_wp2_with fail;refine(bp.o u ct w1 am.o).mono ?_;rintro e w2 ⟨cc,m,a2,c2,rfl,F,f,aR,_⟩
 obtain⟨j,t,bt⟩:=e7 f.row;subst bt;have cd:=f.cells.2.2.1;have aV:=n.trans (f.e9.mono n.size)
 have o:=(f.e9.block _ bl).trans ap;have y0:V w2 (av (I (G w)) 0)=H (Z O0 0 0):=aD o
 have y1:V w2 (av (I (G w)) 1)=H (Z O0 0 0):=aD o
 have ce:bF w2 (av (I (G w)) 0)=D:=aE o
 have cf:bF w2 (av (I (G w)) 1)=D:=aE o
 have l2:=cj o;have bx:=cU f F;have b0:=cg f.len;have b1:=cg aV;have a0:=cg o;have bb:I (G w)<=I (G w1):=by
  have:=am.o.e9.size;simp at this
  omega
 have b2:aA (∀k,gf m k->I (G w)<=k):=λk hk=>(aR.2 k hk).elim (fun⟨x,ab,_⟩=>by cases ab) (λd=>aQ bb d)
 clear f F aR aV o n ap bs aB am;go_wp2_with fail;obtain⟨S,hW0⟩:∃S,S=O8 (O8 w2 ⟨I (G w),0,O0⟩ (Z a2 (OQ l) c2)) ⟨I (G w),1,O0⟩ (Z j (OQ m) t):=⟨_,rfl⟩
 rw[<-hW0];have g0:V S (av (I (G w)) 0)=H (Z a2 (OQ l) c2):=by exact py
 have g1:V S (av (I (G w)) 1)=H (Z j (OQ m) t):=by exact BB
 have W:Fr (λk=>k=I (G w)) w2 S:=by rw[hW0];exact((Fr.refl (λk=>k=I (G w)) w2).set (I (G w)) 0 _ rfl).set (I (G w)) 1 _ rfl
 obtain⟨f,F⟩:=bx.o;have bd:∀{ad:Option Addr}{L:List (Int×Int)},fP w2 ad L->dQ S ad L:=λ{ad L} h=>h.1.keep W.size (λhp b e=>by
  obtain⟨b3,ch,ci,b4,hb⟩:=h.2 hp;rw[b4] at e;cases e;refine W.block _ (cj hb) (λc=>?_)
  have c:b3=I (G w):=c;rw[c,a0.o] at hb;simp at hb)
 refine a3 (v:=bz #[Z a2 (OQ l) c2,Z j (OQ m) t]) (by simp[results,results57,go_sem,g0,g1]) rfl ⟨a2,c2,j,OQ m,t,rfl,⟨bd (fP.of (by rw[aF.o];exact F)),λhp=>?_⟩,⟨m,f.nd,λx ab=>bd (f.fl x ab),b2.o,λhp=>?_⟩,b0.o,b1.o.trans (W.below (uh l2) (λk e=>Ci (LM e)))⟩
 ·obtain⟨b,cap,e⟩:=fi F (by rw[<-aF.o];exact hp)
  cases e;exact⟨b,0,rfl,aQ bb (cu F b rfl).1⟩
 obtain⟨b,cap,e⟩:=fi f.row hp;cases e;have b5:=(cu f.row b rfl).1;simp at b5;obtain⟨ck,ag⟩:=fI f.row b rfl;have be:b≠I (G w):=λc=>by rw[c,a0.o] at ag;simp at ag
 refine⟨b,0,rfl,aa,aL (cj ag) W.size,λi x ab=>?_⟩
 obtain⟨n1,b6⟩:=qp m i x ab;rw[bW];exact⟨(aS (a:=⟨b,i*2,O0⟩) (W.block b (cj ag) be)).trans (kt f.row n1).1,(aS (a:=⟨b,i*2+1,O0⟩) (W.block b (cj ag) be)).trans (kt f.row b6).1⟩
end
theorem JN (n o:Int)(w:az)(h:n<16\/256<n\/o<0\/1024<o):
 M J 87 #[ak n,ak o] w λe w'=>e=OV (ay #[bq O0,bz #[ak 1,ak (-1)]])/\O7 (I (G w)) w w':=by
 have g:=aO w (E #[U OW 0,U OW 0] 33)
 have P:=GV n o (bu w (E #[U OW 0,U OW 0] 33)) h;go_enter func87,ntmps87;go_wp2_with fail;refine P.mono ?_;rintro e w1 ⟨rfl,d⟩
 have c:=(d.block (I (G w)) ac).trans g;have hB1:=(aw w (E #[U OW 0,U OW 0] 33)).trans (d.mono ac)
 have i:=d.size;simp at i;have y0:V w1 (av (I (G w)) 0)=H (ak 0):=aD c
 have y1:V w1 (av (I (G w)) 1)=H (ak 0):=aD c
 have m:bF w1 (av (I (G w)) 0)=D:=aE c
 have q:bF w1 (av (I (G w)) 1)=D:=aE c
 have l1:I (G w)<I (G w1):=aa;clear d g c;go_wp2_with fail
 go_region_law (fail)
 all_goals
  obtain⟨b,hW0⟩:∃b,b=O8 (O8 w1 ⟨I (G w),0,O0⟩ (U OW 1)) ⟨I (G w),1,O0⟩ (U OW (-1)):=⟨_,rfl⟩
  rw[<-hW0];have s:I (G b)=I (G w1):=by rw[hW0];simp[World.setCell]
  have g0:V b (av (I (G w)) 0)=H (ak 1):=by exact py
  have g1:V b (av (I (G w)) 1)=H (ak (-1)):=by exact vD
  have j:O7 (I (G w)) w b:=by exact vC
  have f:=(aw b (E #[U OW 1,U OW (-1)] 33)).drew;have r0:=(f.cell (p:=av (I (G w)) 0) (by show I (G w)<_;omega)).trans g0;have r1:=(f.cell (p:=av (I (G w)) 1) (by show I (G w)<_;omega)).trans g1;have l:=j.trans (f.mono aa)
  generalize (bu b (E #[U OW 1,U OW (-1)] 33)).drew=t at*;go_wp2_with fail;refine a3 (v:=ay #[bq O0,bz #[U OW 1,U OW (-1)]]) (by simp[results,results87,go_sem,r0,r1]) rfl ⟨rfl,l⟩
theorem JO (n o:Nat)(w:az)(h0:16<=n)(l:n<=256)(m:o<=1024):
 M J 87 #[ak n,ak o] w λe w'=>∃hp,e=OV (ay #[aq hp,bz #[ak 0,ak 0]])/\O7 (I (G w)) w w':=by
 have g:=aw w (E #[U OW 0,U OW 0] 33)
 have P:=zZ n o (bu w (E #[U OW 0,U OW 0] 33)) h0 l m;have i:=aO w (E #[U OW 0,U OW 0] 33)
 have t:I (G w)<I (G (bu w (E #[U OW 0,U OW 0] 33))):=ac;have j:=cg g;clear g;go_enter func87,ntmps87;go_wp2_with fail;generalize bu w (E #[U OW 0,U OW 0] 33)=w0 at*;generalize u:I (G w)=fb at*;refine P.mono ?_;clear P;rintro e w1 ⟨pw,p,q,pc,cW,s,nb,rfl,x,hs,hr,hg,d⟩
 have c:=(d.block fb t).trans i;have y0:V w1 (av fb 0)=H (ak 0):=aD c
 have y1:V w1 (av fb 1)=H (ak 0):=aD c
 have z0:bF w1 (av fb 0)=D:=aE c
 have W:bF w1 (av fb 1)=D:=aE c
 have B:=cj c;have F:=cg (j.o.trans (d.mono aa))
 clear x hs hr hg d i j c;go_wp2_with fail;obtain⟨b,hW1⟩:∃b,b=O8 (O8 w1 ⟨fb,0,O0⟩ (U OW 0)) ⟨fb,1,O0⟩ (U OW 0):=⟨_,rfl⟩
 rw[<-hW1];have v0:V b (av fb 0)=H (ak 0):=by exact vE
 have v1:V b (av fb 1)=H (ak 0):=by exact z6
 have N:Fr (λk=>k=fb) w1 b:=by rw[hW1];exact((Fr.refl (λk=>k=fb) w1).set fb 0 _ rfl).set fb 1 _ rfl
 have ab:I (G b)=I (G w1):=by rw[hW1];simp
 clear hW1;have f:=(aw b (E #[U OW 0,U OW 0] 33)).alloc ac (E #[bq (H ⟨pw,0,O0⟩)] 119)
 have g0:=(f.cell (p:=av fb 0) (by show fb<_;omega)).trans v0;have g1:=(f.cell (p:=av fb 1) (by show fb<_;omega)).trans v1;have S:=F.o.trans (N.below (uh B) (λk e=>Ci (LM e)))
 exact a3 (v:=ay #[aq (I (G w1)+1),bz #[ak 0,ak 0]]) (by simp only [results,results87];simp[go_sem,g0,g1]) rfl ⟨I (G w1)+1,rfl,by rw[u];exact S.trans (f.mono aa)⟩
section
variable {a:Wc}{hp:Nat}{F:Nat->Prop}{S:cv}{w:az}
theorem JP (h:(cD a hp).J F S w)(hq:OQ S.q<=90000):
 M prog 57 #[aq a.pw] w λe w'=>∃c b d f,e=OV (bz #[Z c 12 b,Z d (OQ (gN a.N S.s.y S.s.g S.s.ws S.q S.s.rs).2.2) f])/\lr w' (I (G w)) c (gN a.N S.s.y S.s.g S.s.ws S.q S.s.rs).1/\jZ w' (I (G w)) d (gN a.N S.s.y S.s.g S.s.ws S.q S.s.rs).2.2/\O7 (I (G w)) w w':=by
 obtain⟨n,g,_⟩:=lB h;obtain⟨o,g1,_⟩:=ou g;obtain⟨c0,_,c2,c3,_,rl,_,j⟩:=kU g1;obtain⟨p,ar,q,⟨s,ad,cap,⟨own,cW,hM,hO⟩,b,k,t,_⟩,r0,r1,u⟩:=g;have hl:Lq w (au a.nb) S.s.rs:=by
  have hr:=hM.rt;refine⟨λ_=>⟨a.nb,0,rfl,cj hr,λi hi=>?_⟩,λ_=>⟨a.nb,0,_,rfl,hr⟩⟩
  rw[bW];exact(j i (by rw[<-rl];exact hi)).1
 have P:=JM ⟨c0,c2,(l_ g1).1,b,iQ k,hq⟩ (by rw[rl];exact c3) hl (by rw[rl];decide)
 rw[rl] at P;refine P.mono ?_;rintro e w' ⟨c,b,d,v,f,rfl,q1,l,rfl,m⟩
 exact⟨c,b,d,f,rfl,q1,l,m⟩
theorem JQ (h:(cD a hp).J F S w):M prog 61 #[aq a.p] w λe w'=>e=OV (ay #[ak S.s.y,ak S.s.g])/\O7 (I (G w)) w w':=
 lZ w (mT h).1
end
def eN (L:List Bool)(v:Int×Int):Bool:=!(v.1==3)||X L (K v.2) D
def t0:cH:=(0,[],D,D)
def jH (T:List cH)(wt:List b8)(X:Nat->Prop)(i:Nat)(v:Int×Int):Prop:=
 (((T.getD i t0).1=1\/(T.getD i t0).1=2)/\v∈(T.getD i t0).2.1)\/((T.getD i t0).1=3/\v=(T.getD i t0).2.1.getD 1 (0,0))\/
 ((T.getD i t0).1=4/\(((T.getD i t0).2.1.getD 0 (0,0)).1=3->X (K ((T.getD i t0).2.1.getD 0 (0,0)).2))/\v=(T.getD i t0).2.1.getD 1 (0,0))\/
 ((T.getD i t0).1=5/\∃e∈wt,e.1=i/\v=(3,e.2))
theorem jH.mono {T:List cH}{wt:List b8}{X Y:Nat->Prop}(e:∀i,X i->Y i){i:Nat}{v:Int×Int}(h:jH T wt X i v):jH T wt Y i v:=by
 rcases h with h|h|⟨b,f,d⟩|h
 ·exact aK h
 ·exact aI (aK h)
 ·exact aI (aI (aK ⟨b,λc=>(by grind),d⟩))
 ·exact aI (aI (aI h))
def iM (T:List cH)(wt:List b8)(X:Nat->Prop):Prop:=∀i,i<OQ T->X i->∀v,jH T wt X i v->v.1=3->X (K v.2)
def cx (L:List Bool):Nat->Prop:=λi=>X L i D=C
structure pM (T:List cH)(wt:List b8)(is out:List Bool):Prop where
 len:OQ out=OQ is
 up:∀i,cx is i->cx out i
 cl:iM T wt (cx out)
 lt:∀X,iM T wt X->(∀i,cx is i->X i)->∀i,cx out i->X i
theorem oG {L:List Bool}{v:Int×Int}(h:eN L v=D):v.1=3/\X L (K v.2) D=D:=by grind [eN]
theorem oH {L:List Bool}{v:Int×Int}(h:eN L v=C):v.1=3->cx L (K v.2):=λb=>by grind [eN,cx]
theorem wD (L:List Bool)(i j:Nat)(h:i<OQ L):X (L.set i C) j D=if i=j then C else X L j D:=by grind
theorem cx.lt {L:List Bool}{i:Nat}(h:cx L i):i<OQ L:=by grind [cx]
def cnt (L:List Bool):Nat:=OQ (L.filter (λb=>!b))
theorem wE:∀(L:List Bool)(i:Nat),X L i C=D->cnt (L.set i C)+1=cnt L
 |[],i,h=>by grind
 |b::L,0,h=>by grind [cnt]
 |b::L,i+1,h=>by
  have h:X L i C=D:=by assumption
  have c:=wE L i h
  grind [cnt]
def cz (T:List cH)(i:Nat):Prop:=i<OQ T/\(X T i t0).2.2.2=D
structure e6 (T:List cH)(wt:List b8):Prop where
 fl:∀i,cz T i->(X T i t0).1=3\/(X T i t0).1=4->OQ (X T i t0).2.1=2
 fv:∀i,cz T i->∀v∈(X T i t0).2.1,v.1=3->0<=v.2/\cz T (K v.2)
 wv:∀e∈wt,0<=e.2/\cz T (K e.2)
 tl:∀i,OQ (X T i t0).2.1<=12
theorem fL {b:Type}{l:List b}{i:Nat}{x:b}(h:i<OQ l):X l i x∈l:=by grind
theorem e6.q7 {T:List cH}{wt:List b8}(h:e6 T wt){X:Nat->Prop}{i:Nat}(hi:cz T i){v:Int×Int}(hv:jH T wt X i v)(b:v.1=3):0<=v.2/\cz T (K v.2):=by
 rcases hv with⟨_,hm⟩|⟨hk,e⟩|⟨hk,_,e⟩|⟨_,c,he,_,e⟩
 ·exact h.fv i hi v hm b
 ·exact h.fv i hi v (by grind) b
 ·exact h.fv i hi v (by grind) b
 ·rw[e];exact h.wv c he
theorem e6.cls {T:List cH}{wt:List b8}(h:e6 T wt):iM T wt (cz T):=λ_ _ hX _ hv b=>(h.q7 hX hv b).2
def wF (mj:Bool)(t:cH):Bool:=t.2.2.1&&!t.2.2.2&&!mj
def oI (L:List Bool)(v:Int×Int):List Bool:=if v.1=3 then L.set (K v.2) C else L
def k9 (T:List cH)(rs:List (Int×Int))(mj:Bool):List Bool:=rs.foldl oI (T.map (wF mj))
theorem BD (L:List Bool)(v:Int×Int):OQ (oI L v)=OQ L:=by grind [oI]
theorem BE (T:List cH)(rs:List _)(mj:Bool):OQ (k9 T rs mj)=OQ T:=by
 have key:∀(rs:List (Int×Int))(L:List Bool),OQ (rs.foldl oI L)=OQ L:=λrs=>by
  induction rs with
  |nil=>grind
  |cons v rs b=>grind [BD]
 grind [k9]
theorem JR {L:List Bool}{v:Int×Int}{i:Nat}:cx (oI L v) i↔cx L i\/(v.1=3/\K v.2=i/\i<OQ L):=by grind [oI,cx]
theorem BF:∀(rs:List (Int×Int))(L:List Bool)(i:Nat),cx (rs.foldl oI L) i↔cx L i\/(i<OQ L/\∃v∈rs,v.1=3/\K v.2=i)
 |[],L,i=>by simp
 |v::rs,L,i=>by
  rw[a8,BF rs,JR,BD]
  grind
theorem JS (mj:Bool)(T:List cH)(i:Nat):cx (T.map (wF mj)) i↔i<OQ T/\(X T i t0).2.2.1=C/\(X T i t0).2.2.2=D/\mj=D:=by grind [cx,wF]
theorem lM (T:List cH)(rs:List _)(mj:Bool)(i:Nat):cx (k9 T rs mj) i↔i<OQ T/\(((X T i t0).2.2.1=C/\(X T i t0).2.2.2=D/\mj=D)\/∃v∈rs,v.1=3/\K v.2=i):=by grind [BF,JS,k9]
section
variable {T:List cH}{wt:List b8}
theorem pM.uniq {is a b:List Bool}(h:pM T wt is a)(c:pM T wt is b):a=b:=by
 refine List.ext_getElem (h.len.trans c.len.symm) (λi d e=>?_)
 have key:cx a i↔cx b i:=⟨λq=>h.lt _ c.cl c.up i q,λq=>c.lt _ h.cl h.up i q⟩
 grind [cx]
end
def cZ (L:List Bool)(x:Int):Bool:=X L (K x) D
def gz (g:List Bool->List Bool)(L:List Bool)(x:Int):List Bool:=g (L.set (K x) C)
def jg (T:List cH)(L:List Bool):Nat->Int
 |0=>0
 |i+1=>if X L i D=C then jg T L i+(1+OQ (X T i t0).2.1) else jg T L i
def gj (L:List Bool)(i:Nat)(t:cH):cH:=
 if X L i D=C then
  (t.1,(if t.1=4/\eN L (X t.2.1 0 (0,0))=D then[(2,0),(2,0)] else if t.1=3/\eN L (X t.2.1 0 (0,0))=D then[(2,0),X t.2.1 1 (0,0)] else t.2.1),C,t.2.2.2)
 else(t.1,[],t.2.2.1,C)
def gW (L:List Bool)(T:List cH):Nat->List cH
 |0=>T
 |i+1=>(gW L T i).set i (gj L i (X T i t0))
def ck.c0 (g:List Bool->List Bool)(s:ck)(mj:Bool):List Bool:=g (k9 s.T s.rs mj)
def ck.cR (g:List Bool->List Bool)(s:ck)(mj:Bool):List Bool×List b8×List b8:=
 turns cZ (gz g) (OQ s.rg+1) (s.rg.filter (λe=>!cZ (s.c0 g mj) e.2)) (s.c0 g mj) []
def ck.cF (g:List Bool->List Bool)(s:ck)(grow:Int)(mj:Bool):Bool:=
 (!mj&&decide (grow-(ei s.T).2<(ei s.T).1))||decide (grow<jg s.T (s.cR g mj).1 (OQ s.T))
def ck.cut (g:List Bool->List Bool)(s:ck)(grow:Int)(mj:Bool):ck:=
 if s.cF g grow mj=C then s else
  {T:=gW (s.cR g mj).1 s.T (OQ s.T),rs:=s.rs,rg:=s.rg.filter (λe=>cZ (s.c0 g mj) e.2&&cZ (s.cR g mj).1 e.1),wt:=(s.wt++(s.cR g mj).2.1).filter (λe=>cZ (s.cR g mj).1 e.1)}
def ck.hP (g:List Bool->List Bool)(s:ck)(grow:Int)(mj:Bool):Int:=if s.cF g grow mj=C then 3 else 0
def dS (T:List cH)(wt:List b8)(g:List Bool->List Bool):Prop:=∀is:List Bool,OQ is=OQ T->(∀k,cx is k->cz T k)->pM T wt is (g is)
theorem kE (L:List Bool)(T:List cH):∀i,OQ (gW L T i)=OQ T
 |0=>rfl
 |i+1=>by rw[gW,List.length_set];exact kE L T i
theorem sZ (L:List Bool)(T:List cH):∀(i j:Nat),i<=OQ T->j<OQ T->X (gW L T i) j t0=if j<i then gj L j (X T j t0) else X T j t0
 |0,j,_,_=>by rfl
 |i+1,j,hi,b=>by
  rw[gW,aM,List.getElem?_set];by_cases e:i=j
  ·grind [kE]
  ·rw[aJ e,<-aM,(sZ L T i j aa b)]
   grind
theorem BG (T:List cH)(L:List Bool)(h:∀i,OQ (X T i t0).2.1<=12):∀i,0<=jg T L i/\jg T L i<=13*i
 |0=>by simp[jg]
 |i+1=>by
  have b:=BG T L h i
  grind [jg]
section
variable {T:List cH}{wt:List b8}{g:List Bool->List Bool}
structure hQ (T:List cH)(L:List Bool):Prop where
 len:OQ L=OQ T
 al:∀k,cx L k->cz T k
theorem dS.ok (hg:dS T wt g)(c:e6 T wt){L:List Bool}(h:hQ T L):hQ T (g L)/\∀k,cx L k->cx (g L) k:=by have b:=hg L h.len h.al;exact⟨⟨b.len.trans h.len,λk hk=>b.lt _ c.cls h.al k hk⟩,b.up⟩
theorem hQ.put {L:List Bool}(h:hQ T L){x:Nat}(b:cz T x):hQ T (L.set x C)/\cx (L.set x C) x/\∀k,cx L k->cx (L.set x C) k:=by
 have hl:x<OQ L:=by rw[h.len];exact b.1
 refine⟨⟨by grind [len],λk hk=>?_⟩,?_,λk hk=>?_⟩
 all_goals grind [al,cx]
theorem hQ.gz (hg:dS T wt g)(c:e6 T wt){L:List Bool}(h:hQ T L){x:Int}(d:cz T (K x)):hQ T (gz g L x)/\cx (gz g L x) (K x)/\∀k,cx L k->cx (gz g L x) k:=by obtain⟨e,f,i⟩:=h.put d;obtain⟨q1,b⟩:=hg.ok c e;exact⟨q1,b _ f,λk hk=>b _ (by grind)⟩
end
structure fX (s:ck):Prop where
 iv:e6 s.T s.wt
 rv:∀v∈s.rs,v.1=3->0<=v.2/\cz s.T (K v.2)
 gv:∀e∈s.rg,(0<=e.1/\cz s.T (K e.1))/\0<=e.2/\cz s.T (K e.2)
 wg:∀e∈s.wt,0<=e.1/\cz s.T (K e.1)
 tl:OQ s.T<=10000
 gl:OQ s.rg<=1000
 wl:OQ s.wt<=1000
theorem fX.t12 {s:ck}(h:fX s):∀t∈s.T,OQ t.2.1<=12:=λt ht=>by
 obtain⟨i,hi,e⟩:=List.mem_iff_getElem.1 ht;have:=h.iv.tl i
 grind
theorem fX.first {s:ck}(h:fX s)(mj:Bool):hQ s.T (k9 s.T s.rs mj):=
 ⟨BE _ _ _,λk hk=>by
  obtain⟨c,b⟩:=(lM _ _ _ _).1 hk;rcases b with⟨_,b,_⟩|⟨v,hv,d,e⟩
  ·exact⟨c,b⟩
  ·rw[<-e];exact(h.rv v hv d).2⟩
abbrev fM:=List cH->List b8->List Bool->List Bool
def jy (T:List cH)(v:Int×Int):Bool:=v.1==3&&(X T (K v.2) t0).1==5
def lN (T:List cH)(v:Int×Int):Bool:=v.1==3&&!((X T (K v.2) t0).1==5)
theorem s3 {T:List cH}{v:Int×Int}:jy T v=C↔v.1=3/\(X T (K v.2) t0).1=5:=by grind [jy]
theorem k_ {T:List cH}{v:Int×Int}:lN T v=C↔v.1=3/\(X T (K v.2) t0).1≠5:=by grind [lN]
abbrev jT (T:List cH)(j i:Nat)(y:Int×Int):List cH:=T.set j ((X T j t0).1,(X T j t0).2.1.set i y,(X T j t0).2.2)
def ck.room (g:fM)(ce grow:Int)(s:ck)(m:Int):Int×ck:=
 if m<=ce-(ei s.T).1 then(0,s) else(s.hP (g s.T s.wt) grow (decide (grow-(ei s.T).2<(ei s.T).1)),s.cut (g s.T s.wt) grow (decide (grow-(ei s.T).2<(ei s.T).1)))
def ck.put (s:ck)(kd:Int)(l:List (Int×Int)):ck:={s with T:=s.T++[(kd,l,D,D)]}
def ck.grow (g:fM)(ce grow:Int)(s:ck)(kd:Int)(l:List (Int×Int)):(Int×Int)×Int×ck:=
 if(s.room g ce grow (1+OQ l)).1=0 then((3,(OQ (s.room g ce grow (1+OQ l)).2.T:Int)),0,(s.room g ce grow (1+OQ l)).2.put kd l)
 else((0,0),(s.room g ce grow (1+OQ l)).1,(s.room g ce grow (1+OQ l)).2)
def ck.pop (s:ck)(v:Int×Int):(Int×Int)×Int×ck:=
 if jy s.T v=C then(if eh v.2 s.wt<OQ s.wt then((3,(X s.wt (eh v.2 s.wt) (0,0)).2),0,{s with wt:=s.wt.take (eh v.2 s.wt)++s.wt.drop (eh v.2 s.wt+1)}) else((0,0),4,s)) else((0,0),2,s)
def ck.fc (s:ck)(v:Int×Int)(I:Int):Int:=if lN s.T v=C then(if I<0\/(OQ (X s.T (K v.2) t0).2.1:Int)<=I then 1 else 0) else 2
def ck.rt (g:fM)(ce grow:Int)(s:ck)(k:Int)(A B:Nat)(I n:Int):(Int×Int)×Int×ck:=
 if k=1 then((1,n),0,s) else if k=3 then(X s.rs A (0,0),0,s) else if k=4 then s.grow g ce grow 1 [X s.rs A (0,0),X s.rs B (0,0)] else if k=5 then s.grow g ce grow 2 (aZ (K n) (X s.rs A (0,0)))
 else if k=6 then s.grow g ce grow 3 [X s.rs A (0,0),X s.rs B (0,0)] else if k=7 then s.grow g ce grow 4 [X s.rs A (0,0),X s.rs B (0,0)] else if k=8 then s.grow g ce grow 5 [] else if k=10 then s.pop (X s.rs A (0,0))
 else if k=11 then((if s.fc (X s.rs A (0,0)) I=0 then X (X s.T (K (X s.rs A (0,0)).2) t0).2.1 (K I) (0,0) else(0,0)),s.fc (X s.rs A (0,0)) I,s)
 else if k=13 then(if lN s.T (X s.rs A (0,0))=C then((1,(OQ (X s.T (K (X s.rs A (0,0)).2) t0).2.1:Int)),0,s) else((0,0),2,s))
 else if k=14 then((1,if X s.rs A (0,0)=X s.rs B (0,0) then 1 else 0),0,s) else((0,0),0,s)
def ck.reg (s:ck)(t d:Int×Int):Int×ck:=
 if t.1=3/\jy s.T d=C then(if 24<=OQ s.rg+OQ s.wt then(3,s) else(0,{s with rg:=s.rg++[(d.2,t.2)]})) else(2,s)
def ck.set (s:ck)(v:Int×Int)(I:Int)(y:Int×Int):Int×ck:=(s.fc v I,if s.fc v I=0 then {s with T:=jT s.T (K v.2) (K I) y} else s)
def ck.dI (g:fM)(ce grow:Int)(s:ck)(k R A B I n:Int):Int×ck:=
 if dY k R A B n=0 then(if k=9 then s.reg (X s.rs (K A) (0,0)) (X s.rs (K B) (0,0)) else if k=12 then s.set (X s.rs (K A) (0,0)) I (X s.rs (K B) (0,0))
  else if k=15 then(s.hP (g s.T s.wt) grow D,s.cut (g s.T s.wt) grow D) else if k=16 then(s.hP (g s.T s.wt) grow C,s.cut (g s.T s.wt) grow C)
  else if(s.rt g ce grow k (K A) (K B) I n).2.1=0 then(0,{(s.rt g ce grow k (K A) (K B) I n).2.2 with rs:=(s.rt g ce grow k (K A) (K B) I n).2.2.rs.set (K R) (s.rt g ce grow k (K A) (K B) I n).1})
  else((s.rt g ce grow k (K A) (K B) I n).2.1,(s.rt g ce grow k (K A) (K B) I n).2.2))
 else(dY k R A B n,s)
end Go.Proofs.YtjckpdepffejnaaGreatDoor
