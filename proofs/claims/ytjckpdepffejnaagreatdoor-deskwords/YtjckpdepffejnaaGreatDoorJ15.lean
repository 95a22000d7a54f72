import Derived.Test.YtjckpdepffejnaaGreatDoorJ14
open Array renaming size->I
open Bool renaming false->D,true->C
open Eq renaming symm->Lp
open Go renaming Calls->M
open Go.Ending renaming returned->OL
open Go.IntKind renaming i64->OM
open Go.Obj renaming cells->E
open Go.Proofs.Tryz renaming prog->OX
open Go.RowKit renaming Below->J
open Go.Value renaming agg->bz,int->OP,pointer->bq,slice->Z,tuple->ay
open Go.World renaming alloc->bu,cell?->V,frozen?->bF,heap->G,setCell->A
open Int renaming eq_ofNat_of_zero_le->bC,toNat->K,toNat_natCast->bD
open List renaming getD->U,getElem?_replicate_of_lt->Dm,length->OG,replicate->aZ
open Nat renaming le_of_eq->Ck,le_of_lt->ve,zero_add->bV
open Option renaming none->OQ,some->H
namespace Go.Proofs.YtjckpdepffejnaaGreatDoor
set_option maxRecDepth 100000
set_option maxHeartbeats 2000000
open Tryz
open Go.RowKit W Kp ch
theorem Bt {P:Prop}(h:P:=by
 generalize hxb:w.heap.size=xb at*;refine PC.mono ?_;rintro e w1 ⟨rfl,hb1⟩
 have hbt:Below w.heap.size w w1:=by rw[hxb];exact HJ.o.2.1.trans (hb1.mono (by have:=ck HJ.o.2.2;omega))
 obtain⟨q0,q1,q2,q3,q4,q5⟩:=dZ ((hb1.block xb (ck HJ.o.2.2)).trans HJ.o.2.2)
 have J1:=(cD a hp).below HJ.o.1 hbt;obtain⟨h0,_⟩:=fq J1;have P:=Bu.o F w1 J1;have HT:aA (b9 F w F w1):=b9.of hbt;go_wp2_with fail;refine P.mono ?_;rintro e w2 ⟨F2,rfl,ww,T2⟩
 have HF:=cY ww (HT.o.trans T2)
 go_wp2_with fail;go_ret;exact⟨F2,rfl,HF.o.1,HF.o.2⟩):P:=h
theorem sW {P:Prop}(h:P:=by
 go_enter func130,ntmps130;go_wp2_with fail;refine P.mono ?_;rintro e w2 ⟨F2,rfl,ww,T2⟩
 have HF:=cY ww ((b9.of HB.o).trans T2)
 go_wp2_with fail;go_ret2;exact⟨F2,rfl,HF.o.1,HF.o.2⟩):P:=h
theorem Bv {P:Prop}(h:P:=by rw[hW0];exact a6 _ _ _ ((aY w2 ⟨w.heap.size,0,none⟩ ⟨w.heap.size,1,none⟩ _ ac).trans y1)):P:=h
theorem Bw {P:Prop}(h:P:=by have h1:(eP N y g ws).length<=2000:=jo _ _;have h2:(dM N y g ws).length<=2000:=jo _ _;simp;omega):P:=h
theorem Jd (a:Wc)(S:cv)(x:Int):(S.pop a x).2.2.s.rs=S.s.rs:=by
 unfold cv.pop;split
 ·split<;>rfl
 ·rfl
theorem Je (a:Wc)(S:cv)(t g:Int):(S.reg a t g).2.s.rs=S.s.rs:=by
 unfold cv.reg;split
 ·split
  ·split<;>rfl
  ·rfl
 ·rfl
section
variable {a:Wc}{hp:Nat}{F:Nat->Prop}{S:cv}{w:az}
theorem Jf (h:(cD a hp).J F S w)(R I n:Int)(A B:Nat)(j:A<12)(hB:B<12)(hq:OG S.q+OG S.r<=90000)(k:S.gD a=D->∃G,jc (S.k5 a) (S.d_ a) G/\G 0 (S.k5 a,0))(room:(S.room a 3).1=0->(S.room a 3).2.s.y+3<=a.N):
 M OX 130 #[aq hp,dJ 4 R A B I n] w λe w'=>∃c,e=OL (ay #[ak (S.grow a 1 [A,B]).1,ak (S.grow a 1 [A,B]).2.1])/\(cD a hp).J c (S.grow a 1 [A,B]).2.2 w'/\b9 F w c w':=by
 have f:=(aw w (cA 4 R A B I n)).alloc ac (E #[OP OM (A:Int),OP OM (B:Int)] 3)
 have b:=aO (w.alloc (cA 4 R A B I n)) (E #[OP OM (A:Int),OP OM (B:Int)] 3)
 have l:(w.alloc (cA 4 R A B I n)).heap.size=w.heap.size+1:=ac;rw[l] at b;have P:=qV ((cD a hp).below h f) 1 [A,B] (au (w.heap.size+1)) 2 hq k rfl (λ_=>⟨w.heap.size+1,rfl,λd=>by have:=(cD a hp).lt h _ d;omega,ck b,λi hi=>by
  have hi:i<2:=hi;rcases(show i=0\/i=1 by omega) with rfl|rfl<;>simp only [World.cell?,b]<;>rfl⟩) (λi hi=>by
  have hi:i<2:=hi;rcases(show i=0\/i=1 by omega) with rfl|rfl
  ·exact j
  ·exact hB) room
 have HB:=cg f;generalize S.grow a 1 [A,B]=g at*;obtain⟨v,cd,m⟩:=g;exact sW
theorem Jg (h:(cD a hp).J F S w)(R I n:Int)(A B:Nat)(j:A<12)(hB:B<12)(hq:OG S.q+OG S.r<=90000)(k:S.gD a=D->∃G,jc (S.k5 a) (S.d_ a) G/\G 0 (S.k5 a,0))(room:(S.room a 3).1=0->(S.room a 3).2.s.y+3<=a.N):
 M OX 130 #[aq hp,dJ 6 R A B I n] w λe w'=>∃c,e=OL (ay #[ak (S.grow a 3 [A,B]).1,ak (S.grow a 3 [A,B]).2.1])/\(cD a hp).J c (S.grow a 3 [A,B]).2.2 w'/\b9 F w c w':=by
 have f:=(aw w (cA 6 R A B I n)).alloc ac (E #[OP OM (A:Int),OP OM (B:Int)] 3)
 have b:=aO (w.alloc (cA 6 R A B I n)) (E #[OP OM (A:Int),OP OM (B:Int)] 3)
 have l:(w.alloc (cA 6 R A B I n)).heap.size=w.heap.size+1:=ac;rw[l] at b;have P:=qV ((cD a hp).below h f) 3 [A,B] (au (w.heap.size+1)) 2 hq k rfl (λ_=>⟨w.heap.size+1,rfl,λd=>by have:=(cD a hp).lt h _ d;omega,ck b,λi hi=>by
  have hi:i<2:=hi;rcases(show i=0\/i=1 by omega) with rfl|rfl<;>simp only [World.cell?,b]<;>rfl⟩) (λi hi=>by
  have hi:i<2:=hi;rcases(show i=0\/i=1 by omega) with rfl|rfl
  ·exact j
  ·exact hB) room
 have HB:=cg f;generalize S.grow a 3 [A,B]=g at*;obtain⟨v,cd,m⟩:=g;exact sW
theorem Jh (h:(cD a hp).J F S w)(R I n:Int)(A B:Nat)(j:A<12)(hB:B<12)(hq:OG S.q+OG S.r<=90000)(k:S.gD a=D->∃G,jc (S.k5 a) (S.d_ a) G/\G 0 (S.k5 a,0))(room:(S.room a 3).1=0->(S.room a 3).2.s.y+3<=a.N):
 M OX 130 #[aq hp,dJ 7 R A B I n] w λe w'=>∃c,e=OL (ay #[ak (S.grow a 4 [A,B]).1,ak (S.grow a 4 [A,B]).2.1])/\(cD a hp).J c (S.grow a 4 [A,B]).2.2 w'/\b9 F w c w':=by
 have f:=(aw w (cA 7 R A B I n)).alloc ac (E #[OP OM (A:Int),OP OM (B:Int)] 3)
 have b:=aO (w.alloc (cA 7 R A B I n)) (E #[OP OM (A:Int),OP OM (B:Int)] 3)
 have l:(w.alloc (cA 7 R A B I n)).heap.size=w.heap.size+1:=ac;rw[l] at b;have P:=qV ((cD a hp).below h f) 4 [A,B] (au (w.heap.size+1)) 2 hq k rfl (λ_=>⟨w.heap.size+1,rfl,λd=>by have:=(cD a hp).lt h _ d;omega,ck b,λi hi=>by
  have hi:i<2:=hi;rcases(show i=0\/i=1 by omega) with rfl|rfl<;>simp only [World.cell?,b]<;>rfl⟩) (λi hi=>by
  have hi:i<2:=hi;rcases(show i=0\/i=1 by omega) with rfl|rfl
  ·exact j
  ·exact hB) room
 have HB:=cg f;generalize S.grow a 4 [A,B]=g at*;obtain⟨v,cd,m⟩:=g;exact sW
theorem Ji (h:(cD a hp).J F S w)(R A B I n:Int)(hq:OG S.q+OG S.r<=90000)(f:S.gD a=D->∃G,jc (S.k5 a) (S.d_ a) G/\G 0 (S.k5 a,0))(room:(S.room a 1).1=0->(S.room a 1).2.s.y+1<=a.N):
 M OX 130 #[aq hp,dJ 8 R A B I n] w λe w'=>∃b,e=OL (ay #[ak (S.grow a 5 []).1,ak (S.grow a 5 []).2.1])/\(cD a hp).J b (S.grow a 5 []).2.2 w'/\b9 F w b w':=by
 have c:=aw w (cA 8 R A B I n)
 have P:=qV ((cD a hp).below h c) 5 [] OQ 0 hq f rfl (λd=>absurd d ac) (λi hi=>absurd hi ac) room;have HB:=cg c;exact sW
theorem Jj (h:(cD a hp).J F S w)(R B I:Int)(A n:Nat)(m:A<12)(hn:n<=12)(hq:OG S.q+OG S.r<=90000)(o:S.gD a=D->∃G,jc (S.k5 a) (S.d_ a) G/\G 0 (S.k5 a,0))(room:(S.room a (1+n)).1=0->(S.room a (1+n)).2.s.y+1+n<=a.N):
 M OX 130 #[aq hp,dJ 5 R A B I n] w λe w'=>∃b,e=OL (ay #[ak (S.grow a 2 (aZ n A)).1,ak (S.grow a 2 (aZ n A)).2.1])/\(cD a hp).J b (S.grow a 2 (aZ n A)).2.2 w'/\b9 F w b w':=by
 have f:=(aw w (cA 5 R A B I n)).alloc ac (E #[OP OM (A:Int)] 3)
 have k:=aO (w.alloc (cA 5 R A B I n)) (E #[OP OM (A:Int)] 3)
 have p:(w.alloc (cA 5 R A B I n)).heap.size=w.heap.size+1:=ac;rw[p] at k;have hl:OG (aZ n A)=n:=List.length_replicate;have hk:hc 2 (OG (aZ n A))=0:=by rw[hl];rcases(show n=0\/n=1\/n=2\/n=3\/n=4\/n=5\/n=6\/n=7\/n=8\/n=9\/n=10\/n=11\/n=12 by omega) with e|e|e|e|e|e|e|e|e|e|e|e|e<;>(rw[e];rfl)
 have ad:=(cD a hp).below h f;have q:V (bu (w.alloc (cA 5 R A B I n)) (E #[OP OM (A:Int)] 3)) (av (w.heap.size+1) 0)=H (ak (A:Int)):=by simp only [World.cell?,k];rfl
 have s:M OX 197 #[Z (au (w.heap.size+1)) 1 1,ak n] (bu (w.alloc (cA 5 R A B I n)) (E #[OP OM (A:Int)] 3)) λe w'=>∃nb,e=OL (Z (au nb) n n)/\(0<n->w.heap.size+2<=nb/\w'.heap[nb]?=H (E ((aZ n (A:Int)).map (Value.int OM)).toArray 3 (0,0)))/\Below w.heap.size w w':=by
  by_cases h0:0<n
  ·refine(I6 _ (w.heap.size+1) n A h0 hn q).mono ?_;rintro e w' ⟨nb,rfl,g1,g2,g3⟩
   simp at g1;exact⟨nb,rfl,λ_=>⟨aa,g2⟩,f.trans (g3.mono (by simp;omega))⟩
  ·obtain rfl:n=0:=aa;refine(I7 _ (w.heap.size+1) A).mono ?_;rintro e w' ⟨nb,rfl,g3⟩
   exact⟨nb,rfl,λd=>absurd d aa,f.trans (g3.mono (by simp;omega))⟩
 have u:∀c nb,Below w.heap.size w c->(0<n->w.heap.size+2<=nb/\c.heap[nb]?=H (E ((aZ n (A:Int)).map (Value.int OM)).toArray 3 (0,0)))->M OX 196 #[aq hp,ak 2,Z (au nb) n n] c λe w'=>∃b,e=OL (ay #[ak (S.grow a 2 (aZ n A)).1,ak (S.grow a 2 (aZ n A)).2.1])/\(cD a hp).J b (S.grow a 2 (aZ n A)).2.2 w'/\b9 F w b w':=λc nb hb hr=>by
  have P:=qV ((cD a hp).below h hb) 2 (aZ n A) (au nb) n hq o hk (λd=>by
   rw[hl] at d;obtain⟨g1,g2⟩:=hr d;refine⟨nb,rfl,λd=>by have:=(cD a hp).lt h _ d;omega,ck g2,λi hi=>?_⟩
   rw[hl] at hi;have e:U (aZ n A) i 0=A:=by rw[aN,Dm hi];rfl
   rw[e];simp[World.cell?,g2,hi]) (λi hi=>by
   rw[hl] at hi;rw[aN,Dm hi];exact m) (by rw[hl];exact room)
  rw[hl] at P;refine P.mono ?_;rintro e w' ⟨b,rfl,j,t⟩
  exact⟨b,rfl,j,(b9.of hb).trans t⟩
 have x:=cg u;generalize S.grow a 2 (aZ n A)=g at*;obtain⟨v,cd,ag⟩:=g;go_enter func130,ntmps130;go_wp2_with fail;refine s.mono ?_;rintro e c ⟨nb,rfl,hr,hb⟩
 have P:=x.o c nb hb hr;go_wp2_with fail;refine P.mono ?_;rintro e ai ⟨N,rfl,W,ab⟩
 have l:=cY W ab;go_wp2_with fail;go_ret2;exact⟨N,rfl,l.o.1,l.o.2⟩
theorem Jm (h:(cD a hp).J F S w)(R B I n:Int)(A:Nat)(g:A<12):
 M OX 130 #[aq hp,dJ 3 R A B I n] w λe w'=>e=OL (ay #[ak (U S.s.rs A 0),ak 0])/\Below w.heap.size w w':=by
 have b:=aw w (cA 3 R A B I n)
 have c:=aO w (E #[OP OM 3,OP OM R,OP OM (A:Int),OP OM B,OP OM I,OP OM n] 105)
 have f:=(cD a hp).below h b;obtain⟨h0,c0,c3,rt,_⟩:=fq f;obtain⟨r1,_⟩:=rt A g;skip;obtain⟨q0,q1,j,q3,k,l⟩:=dZ c;have fx:¬F w.heap.size:=λd=>by have:=(cD a hp).lt h _ d;omega
 have i:=cg b;clear h f rt b c fx;generalize U S.s.rs A 0=x at*;go_enter func130,ntmps130
 go_upto_region 6 with fail
 go_quiet (fail)
 go_wp2_with fail;go_ret2;exact⟨rfl,below_drewN i.o _⟩
theorem Jn (h:(cD a hp).J F S w)(R B I n:Int)(A:Nat)(s:A<12)(hq:OG S.q<=90000):
 M OX 130 #[aq hp,dJ 10 R A B I n] w λe w'=>∃b,e=OL (ay #[ak (S.pop a (U S.s.rs A 0)).1,ak (S.pop a (U S.s.rs A 0)).2.1])/\(cD a hp).J b (S.pop a (U S.s.rs A 0)).2.2 w'/\b9 F w b w':=by
 have c:=aw w (cA 10 R A B I n)
 have f:=aO w (E #[OP OM 10,OP OM R,OP OM (A:Int),OP OM B,OP OM I,OP OM n] 105)
 have l:=(cD a hp).below h c;obtain⟨h0,c0,c3,rt,_⟩:=fq l;obtain⟨r1,_⟩:=rt A s;have m:=(cD a hp).below l (aH _ (w.alloc (cA 10 R A B I n))).drew;have u:=IW m (U S.s.rs A 0) hq;obtain⟨q0,q1,ag,q3,ao,ap⟩:=dZ f;have N:Below w.heap.size w (w.alloc (cA 10 R A B I n)).drew:=c.trans ((aH _ (w.alloc (cA 10 R A B I n))).drew.mono c.size)
 have ar:(0:Int)<=(A:Int):=aa;have aB:(A:Int)<12:=aa;have lx:w.heap.size<(w.alloc (cA 10 R A B I n)).heap.size:=ck f;have fx:¬F w.heap.size:=λd=>by have:=(cD a hp).lt h _ d;omega
 have W:aA ((cD a hp).J F S (w.alloc (cA 10 R A B I n)).drew/\Below w.heap.size w (w.alloc (cA 10 R A B I n)).drew/\(w.alloc (cA 10 R A B I n)).drew.heap[w.heap.size]?=H (cA 10 R A B I n)/\¬F w.heap.size):=⟨m,N,f,fx⟩
 have aF:aA (Below w.heap.size w (w.alloc (cA 10 R A B I n))):=c;clear h l m rt c N f fx;have aR:aA (U S.s.rs A 0=U S.s.rs A 0):=rfl;have ai:aA ((S.pop a (U S.s.rs A 0)).2.2.s.rs=S.s.rs):=Jd a S (U S.s.rs A 0)
 generalize S.pop a (U S.s.rs A 0)=g at*;obtain⟨v,cd,al⟩:=g;dsimp only at*;go_enter func130,ntmps130
 go_upto_region 18 with fail
 generalize w.alloc (cA 10 R A B I n)=w0 at*;generalize am:w.heap.size=i at*;have an:aA (∀b w' o,(cD a hp).J b o w'->b9 F w0.drew b w'->o.s.rs=S.s.rs->(V w' ⟨hp,0,OQ⟩=H (bq (H ⟨a.pw,0,OQ⟩))/\V w' ⟨a.pw,3,OQ⟩=H (Z (H ⟨a.nb,0,OQ⟩) 12 12)/\V w' ⟨a.nb,A,OQ⟩=H (OP OM (U S.s.rs A 0)))/\V w' ⟨i,2,OQ⟩=H (OP OM (A:Int))):=λb w' o j t es=>by obtain⟨g0,_,g3,ab,_⟩:=fq j;rw[es] at ab;exact⟨⟨g0,g3,(ab A s).1⟩,(aQ (a:=⟨i,2,OQ⟩) (t.fr.block i lx W.o.2.2.2)).trans ag⟩
 generalize U S.s.rs A 0=x at*
 go_region_held3 (λw'=>V w' (av hp 0)=H (aq a.pw)/\V w' (av a.pw 3)=H (Z (au a.nb) 12 12)/\V w' (av a.nb A)=H (ak x)/\V w' (av i 2)=H (ak (A:Int))) (go_keep)
  (first
    |(go_at_call 198;refine u.mono ?_;clear u;rintro e p ⟨k,rfl,j2,q⟩;obtain⟨⟨g0,g3,gr⟩,aV⟩:=an.o k p _ j2 q ai.o;have ad:aA ((cD a hp).J k al p/\b9 F w k p):=⟨j2,(b9.of (by rw[am];exact W.o.2.1)).trans q⟩;clear j2 q))
 go_wp2_with fail;go_ret2;exact⟨k,rfl,ad.o.1,ad.o.2⟩
theorem Jp (h:(cD a hp).J F S w)(R B I n:Int)(A:Nat)(l:A<12):
 M OX 130 #[aq hp,dJ 13 R A B I n] w λe w'=>e=OL (ay #[ak (S.len a (U S.s.rs A 0)).1,ak (S.len a (U S.s.rs A 0)).2.1])/\Below w.heap.size w w':=by
 have c:=aw w (cA 13 R A B I n)
 have f:=aO w (E #[OP OM 13,OP OM R,OP OM (A:Int),OP OM B,OP OM I,OP OM n] 105)
 have i:=(cD a hp).below h c;obtain⟨h0,c0,c3,rt,_⟩:=fq i;obtain⟨r1,_⟩:=rt A l;have j:=(cD a hp).below i (aH _ (w.alloc (cA 13 R A B I n))).drew;have m:=IV j (U S.s.rs A 0)
 obtain⟨q0,q1,q,q3,W,ab⟩:=dZ f;have b:Below w.heap.size w (w.alloc (cA 13 R A B I n)).drew:=c.trans ((aH _ (w.alloc (cA 13 R A B I n))).drew.mono c.size)
 have ad:(0:Int)<=(A:Int):=aa;have ag:(A:Int)<12:=aa;have lx:w.heap.size<(w.alloc (cA 13 R A B I n)).heap.size:=ck f;have fx:¬F w.heap.size:=λd=>by have:=(cD a hp).lt h _ d;omega
 have k:aA ((cD a hp).J F S (w.alloc (cA 13 R A B I n)).drew/\Below w.heap.size w (w.alloc (cA 13 R A B I n)).drew/\(w.alloc (cA 13 R A B I n)).drew.heap[w.heap.size]?=H (cA 13 R A B I n)/\¬F w.heap.size):=⟨j,b,f,fx⟩
 have ai:aA (Below w.heap.size w (w.alloc (cA 13 R A B I n))):=c;clear h i j rt c b f fx;have al:aA (U S.s.rs A 0=U S.s.rs A 0):=rfl;generalize (S.len a (U S.s.rs A 0)).1=v at*;generalize (S.len a (U S.s.rs A 0)).2.1=cd at*;go_enter func130,ntmps130
 go_upto_region 22 with fail
 generalize w.alloc (cA 13 R A B I n)=w0 at*;generalize s:w.heap.size=g at*;have t:aA (∀w',Below w0.drew.heap.size w0.drew w'->(V w' ⟨hp,0,OQ⟩=H (bq (H ⟨a.pw,0,OQ⟩))/\V w' ⟨a.pw,3,OQ⟩=H (Z (H ⟨a.nb,0,OQ⟩) 12 12)/\V w' ⟨a.nb,A,OQ⟩=H (OP OM (U S.s.rs A 0)))/\V w' ⟨g,2,OQ⟩=H (OP OM (A:Int))):=λw' hb=>by
  obtain⟨g0,_,g3,u,_⟩:=fq ((cD a hp).below k.o.1 hb)
  exact⟨⟨g0,g3,(u A l).1⟩,(hb.cell (p:=av g 2) lx).trans q⟩
 generalize U S.s.rs A 0=x at*
 go_region_held3 (λw'=>V w' (av hp 0)=H (aq a.pw)/\V w' (av a.pw 3)=H (Z (au a.nb) 12 12)/\V w' (av a.nb A)=H (ak x)/\V w' (av g 2)=H (ak (A:Int))) (go_keep)
  (first
    |(go_at_call 200;refine m.mono ?_;clear m;rintro e o ⟨rfl,b⟩;obtain⟨⟨g0,g3,gr⟩,am⟩:=t.o o b;have N:aA (Below g w o):=k.o.2.1.trans (b.mono (by have:=k.o.2.1.size;omega));clear b))
 go_wp2_with fail;go_ret2;exact⟨rfl,by rw[s];exact N.o⟩
theorem Jq (h:(cD a hp).J F S w)(R B I n:Int)(A:Nat)(l:A<12):
 M OX 130 #[aq hp,dJ 11 R A B I n] w λe w'=>e=OL (ay #[ak (if eU a.N S.s.y S.s.g S.s.ws (U S.s.rs A 0) I=0 then ld a.N S.s.y S.s.g S.s.ws (cq (U S.s.rs A 0)+1+I) else 0),ak (eU a.N S.s.y S.s.g S.s.ws (U S.s.rs A 0) I)])/\Below w.heap.size w w':=by
 have f:=aw w (cA 11 R A B I n)
 have g:=aO w (E #[OP OM 11,OP OM R,OP OM (A:Int),OP OM B,OP OM I,OP OM n] 105)
 have j:=(cD a hp).below h f;obtain⟨h0,c0,c3,rt,_⟩:=fq j;obtain⟨r1,_⟩:=rt A l;have i:=(cD a hp).below j (aH _ (w.alloc (cA 11 R A B I n))).drew;have m:=EX (U S.s.rs A 0) I (w.alloc (cA 11 R A B I n)).drew (fq i).c0 (mS i).1;obtain⟨q0,q1,q,q3,s,ab⟩:=dZ g;have c:Below w.heap.size w (w.alloc (cA 11 R A B I n)).drew:=f.trans ((aH _ (w.alloc (cA 11 R A B I n))).drew.mono f.size)
 have ad:(0:Int)<=(A:Int):=aa;have ag:(A:Int)<12:=aa;have lx:w.heap.size<(w.alloc (cA 11 R A B I n)).heap.size:=ck g;have fx:¬F w.heap.size:=λd=>by have:=(cD a hp).lt h _ d;omega
 have k:aA ((cD a hp).J F S (w.alloc (cA 11 R A B I n)).drew/\Below w.heap.size w (w.alloc (cA 11 R A B I n)).drew/\(w.alloc (cA 11 R A B I n)).drew.heap[w.heap.size]?=H (cA 11 R A B I n)/\¬F w.heap.size):=⟨i,c,g,fx⟩
 have ai:aA (Below w.heap.size w (w.alloc (cA 11 R A B I n))):=f;clear h j i rt f c g fx;have al:aA (U S.s.rs A 0=U S.s.rs A 0):=rfl;generalize (if eU a.N S.s.y S.s.g S.s.ws (U S.s.rs A 0) I=0 then ld a.N S.s.y S.s.g S.s.ws (cq (U S.s.rs A 0)+1+I) else 0)=v at*;generalize eU a.N S.s.y S.s.g S.s.ws (U S.s.rs A 0) I=cd at*;go_enter func130,ntmps130
 go_upto_region 20 with fail
 generalize w.alloc (cA 11 R A B I n)=w0 at*;generalize t:w.heap.size=b at*;have u:aA (∀w',Below w0.drew.heap.size w0.drew w'->(V w' ⟨hp,0,OQ⟩=H (bq (H ⟨a.pw,0,OQ⟩))/\V w' ⟨a.pw,3,OQ⟩=H (Z (H ⟨a.nb,0,OQ⟩) 12 12)/\V w' ⟨a.nb,A,OQ⟩=H (OP OM (U S.s.rs A 0)))/\V w' ⟨b,2,OQ⟩=H (OP OM (A:Int))/\V w' ⟨b,4,OQ⟩=H (OP OM I)):=λw' hb=>by
  obtain⟨g0,_,g3,N,_⟩:=fq ((cD a hp).below k.o.1 hb)
  exact⟨⟨g0,g3,(N A l).1⟩,(hb.cell (p:=av b 2) lx).trans q,(hb.cell (p:=av b 4) lx).trans s⟩
 generalize U S.s.rs A 0=x at*
 go_region_held3 (λw'=>V w' (av hp 0)=H (aq a.pw)/\V w' (av a.pw 3)=H (Z (au a.nb) 12 12)/\V w' (av a.nb A)=H (ak x)/\V w' (av b 2)=H (ak (A:Int))/\V w' (av b 4)=H (ak I)) (go_keep)
  (first
    |(go_at_call 199;refine m.mono ?_;clear m;rintro e o ⟨rfl,c⟩;obtain⟨⟨g0,g3,gr⟩,am,an⟩:=u.o o c;have W:aA (Below b w o):=k.o.2.1.trans (c.mono (by have:=k.o.2.1.size;omega));clear c))
 go_wp2_with fail;go_ret2;exact⟨rfl,by rw[t];exact W.o⟩
theorem Jr (h:(cD a hp).J F S w)(R I n:Int)(A B:Nat)(j:A<12)(hB:B<12):
 M OX 130 #[aq hp,dJ 14 R A B I n] w λe w'=>e=OL (ay #[ak (if U S.s.rs A 0=U S.s.rs B 0 then ew 1 1 else ew 1 0),ak 0])/\Below w.heap.size w w':=by
 have d:=aw w (cA 14 R A B I n)
 have f:=aO w (E #[OP OM 14,OP OM R,OP OM (A:Int),OP OM (B:Int),OP OM I,OP OM n] 105)
 have g:=(cD a hp).below h d;obtain⟨h0,c0,c3,rt,_⟩:=fq g;obtain⟨r1,_⟩:=rt A j;obtain⟨u,_⟩:=rt B hB;obtain⟨q0,q1,o,q3,N,W⟩:=dZ f;have c:Below w.heap.size w (w.alloc (cA 14 R A B I n)).drew:=d.trans ((aH _ (w.alloc (cA 14 R A B I n))).drew.mono d.size)
 have ab:(0:Int)<=(A:Int):=aa;have ad:(A:Int)<12:=aa;have ag:(0:Int)<=(B:Int):=aa;have ai:(B:Int)<12:=aa;have k:=IU (U S.s.rs A 0) (U S.s.rs B 0) (w.alloc (cA 14 R A B I n)).drew;have lx:w.heap.size<(w.alloc (cA 14 R A B I n)).heap.size:=ck f;have i:aA ((cD a hp).J F S (w.alloc (cA 14 R A B I n)).drew/\Below w.heap.size w (w.alloc (cA 14 R A B I n)).drew/\(w.alloc (cA 14 R A B I n)).drew.heap[w.heap.size]?=H (cA 14 R A B I n)):=⟨(cD a hp).below g (aH _ (w.alloc (cA 14 R A B I n))).drew,c,f⟩
 clear h g rt d c f;have al:aA (U S.s.rs A 0=U S.s.rs A 0):=rfl;generalize (if U S.s.rs A 0=U S.s.rs B 0 then ew 1 1 else ew 1 0)=v at*;go_enter func130,ntmps130
 go_upto_region 24 with fail
 generalize w.alloc (cA 14 R A B I n)=w0 at*;generalize q:w.heap.size=b at*;have s:aA (∀w',Below w0.drew.heap.size w0.drew w'->(V w' ⟨hp,0,OQ⟩=H (bq (H ⟨a.pw,0,OQ⟩))/\V w' ⟨a.pw,3,OQ⟩=H (Z (H ⟨a.nb,0,OQ⟩) 12 12)/\V w' ⟨a.nb,A,OQ⟩=H (OP OM (U S.s.rs A 0))/\V w' ⟨a.nb,B,OQ⟩=H (OP OM (U S.s.rs B 0)))/\V w' ⟨b,2,OQ⟩=H (OP OM (A:Int))/\V w' ⟨b,3,OQ⟩=H (OP OM (B:Int))):=λw' hb=>by
  obtain⟨g0,_,g3,l,_⟩:=fq ((cD a hp).below i.o.1 hb)
  exact⟨⟨g0,g3,(l A j).1,(l B hB).1⟩,(hb.cell (p:=av b 2) lx).trans o,(hb.cell (p:=av b 3) lx).trans q3⟩
 generalize U S.s.rs A 0=x at*;generalize U S.s.rs B 0=y at*
 go_region_held3 (λw'=>V w' (av hp 0)=H (aq a.pw)/\V w' (av a.pw 3)=H (Z (au a.nb) 12 12)/\V w' (av a.nb A)=H (ak x)/\V w' (av a.nb B)=H (ak y)/\V w' (av b 2)=H (ak (A:Int))/\V w' (av b 3)=H (ak (B:Int))) (go_keep)
  (first
    |(go_at_call 201;refine k.mono ?_;clear k;rintro e m ⟨rfl,c⟩;obtain⟨⟨g0,g3,gr,am⟩,an,ao⟩:=s.o m c;have t:aA (Below b w m):=i.o.2.1.trans (c.mono (by have:=i.o.2.1.size;omega));clear c))
 go_wp2_with fail;go_ret2;exact⟨rfl,by rw[q];exact t.o⟩
theorem Jt (R A B I n:Int)(w:az)(hp:Nat):
 M OX 130 #[aq hp,dJ 2 R A B I n] w λe w'=>e=OL (ay #[ak 2,ak 0])/\J w.heap.size w w':=by
 have b:=aw w (cA 2 R A B I n)
 go_enter func130,ntmps130;go_wp2_with fail;refine(ut _).mono ?_;rintro e w1 ⟨rfl,hw⟩
 have hw:=hw.symm;subst hw;go_wp2_with fail;go_ret2;exact⟨rfl,b⟩
theorem Ju (h:(cD a hp).J F S w){j:Nat}(ok:ed a S j)(hb:cL a S.s)(k R A B I n:Int)(hk:dY k R A B n=0)(ag:k≠9)(ai:k≠12)(al:k≠15)(am:k≠16):
 M OX 130 #[aq hp,dJ k R A B I n] w λe w'=>∃i,e=OL (ay #[ak (S.rt a k (K A) (K B) I n).1,ak (S.rt a k (K A) (K B) I n).2.1])/\(cD a hp).J i (S.rt a k (K A) (K B) I n).2.2 w'/\b9 F w i w':=by
 have hq:OG S.q+OG S.r<=90000:=by have:=ok.my;omega
 have l:=ok.sG hb;have low:∀{Q:Int×Int×cv},(M OX 130 #[aq hp,dJ k R A B I n] w λe w'=>e=OL (ay #[ak Q.1,ak Q.2.1])/\Below w.heap.size w w')->Q.2.2=S->M OX 130 #[aq hp,dJ k R A B I n] w λe w'=>∃i,e=OL (ay #[ak Q.1,ak Q.2.1])/\(cD a hp).J i Q.2.2 w'/\b9 F w i w':=λ{Q} P e=>by
  refine P.mono ?_;rintro ao w' ⟨rfl,hb⟩
  rw[e];exact⟨F,rfl,(cD a hp).below h hb,b9.of hb⟩
 have g:(cS k=3\/cS k=6\/cS k=7)->∃b:Nat,A=b/\b<12:=λo=>by have:=mR hk o;exact⟨K A,aa,aa⟩
 have gP:(cS k=6\/cS k=7)->∃f:Nat,B=f/\f<12:=λo=>by have:=ns hk o;exact⟨K B,aa,aa⟩
 have rm:∀m:Nat,m<=12->(S.room a (1+m)).1=0->(S.room a (1+m)).2.s.y+1+m<=a.N:=λm hm e=>by have:=(ok.room hb (1+m)).2.2.1 e aa;omega
 unfold cv.rt;by_cases p:k=1
 ·rw[aM p];subst p;exact low (Hd R A B I n w hp) rfl
 rw[aJ p];by_cases q:k=3
 ·rw[aM q];subst q;obtain⟨b,rfl,c⟩:=g ae;rw[bD];exact low (Jm h R B I n b c) rfl
 rw[aJ q];by_cases s:k=4
 ·rw[aM s];subst s;obtain⟨b,rfl,c⟩:=g ae;obtain⟨f,rfl,hB⟩:=gP ae;rw[bD,bD];exact Jf h R I n b f c hB hq l (rm 2 aa)
 rw[aJ s];by_cases t:k=5
 ·rw[aM t];subst t;obtain⟨b,rfl,c⟩:=g ae;have hn:hc 2 n=0:=Br hk;have hn:=jK 2 n hn;obtain⟨n,rfl⟩:=bC (show 0<=n by omega)
  rw[bD];exact Jj h R B I b n c aa hq l (rm n aa)
 rw[aJ t];by_cases u:k=6
 ·rw[aM u];subst u;obtain⟨b,rfl,c⟩:=g ae;obtain⟨f,rfl,hB⟩:=gP ae;rw[bD,bD];exact Jg h R I n b f c hB hq l (rm 2 aa)
 rw[aJ u];by_cases v:k=7
 ·rw[aM v];subst v;obtain⟨b,rfl,c⟩:=g ae;obtain⟨f,rfl,hB⟩:=gP ae;rw[bD,bD];exact Jh h R I n b f c hB hq l (rm 2 aa)
 rw[aJ v];by_cases x:k=8
 ·rw[aM x];subst x;exact Ji h R A B I n hq l (rm 0 aa)
 rw[aJ x];by_cases N:k=10
 ·rw[aM N];subst N;obtain⟨b,rfl,c⟩:=g ae;rw[bD];exact Jn h R B I n b c aa
 rw[aJ N];by_cases W:k=11
 ·rw[aM W];subst W;obtain⟨b,rfl,c⟩:=g ae;rw[bD];exact low (Jq h R B I n b c) rfl
 rw[aJ W];by_cases ab:k=13
 ·rw[aM ab];subst ab;obtain⟨b,rfl,c⟩:=g ae;rw[bD];exact low (Jp h R B I n b c) (by unfold cv.len;split<;>rfl)
 rw[aJ ab];by_cases ad:k=14
 ·rw[aM ad];subst ad;obtain⟨b,rfl,c⟩:=g ae;obtain⟨f,rfl,hB⟩:=gP ae;rw[bD,bD];exact low (Jr h R I n b f c hB) rfl
 rw[aJ ad];have an:k=2:=by
  rcases qy k with d|d|d|d|d|d|d|d|d|d|d|d|d|d|d|d|d
  all_goals
   first
    |exact d
    |exact absurd d p
    |exact absurd d q
    |exact absurd d s
    |exact absurd d t
    |exact absurd d u
    |exact absurd d v
    |exact absurd d x
    |exact absurd d ag
    |exact absurd d N
    |exact absurd d W
    |exact absurd d ai
    |exact absurd d ab
    |exact absurd d ad
    |exact absurd d al
    |exact absurd d am
    |(have o:=qz d;unfold dY at hk;rw[aM o] at hk;omega)
 subst an;exact low (Jt R A B I n w hp) rfl
theorem pJ (h:(cD a hp).J F S w):cL a S.s:=by obtain⟨c,b,_⟩:=lz h;obtain⟨d,g1,_⟩:=oq b;obtain⟨_,_,_,_,_,rl,_⟩:=kR g1;have ha:=(l8 g1).1;exact⟨ha.hN,ha.hN',ha.hO,ha.hy,ha.hg,ha.hl,rl⟩
theorem Jv (h:(cD a hp).J F S w)(x i z:Int)(hM:OG S.s.M<=100000):
 Calls OX 127 #[aq a.pw,ak x,ak i,ak z] w λe w'=>∃b,e=OL (ak (eU a.N S.s.y S.s.g S.s.ws x i))/\(cD a hp).J b (S.set a x i z) w'/\b9 F w b w':=by
 obtain⟨l,c,_,d⟩:=lz h;obtain⟨m,g1,g2⟩:=oq c;refine(GB g1 x i z hM).mono ?_;rintro e w' ⟨rfl,f,g⟩
 obtain⟨n,j2,j⟩:=g2 _ _ _ f g;obtain⟨k,cI,t3⟩:=d _ _ _ j2 j;exact⟨k,rfl,cI,t3⟩
theorem Jw {k R A B n:Int}(hc:dY k R A B n=0)(b:k≠9)(c:k≠12)(e:k≠15)(f:k≠16):cS k=1\/cS k=3\/cS k=7:=by
 rcases qy k with d|d|d|d|d|d|d|d|d|d|d|d|d|d|d|d|d
 case' inr.inr.inr.inr.inr.inr.inr.inr.inr.inr.inr.inr.inr.inr.inr.inr=>
  have:=qz d;unfold dY at hc;rw[aM this] at hc;omega
 all_goals
  first
   |(subst d;decide)
   |(omega)
theorem Jx (k R A B I n:Int)(hc:dY k R A B n≠0):
 M OX 93 #[aq hp,dJ k R A B I n] w λe w'=>e=OL (ak (dY k R A B n))/\J w.heap.size w w':=by
 have c:=ku k R A B I n (w.alloc (cA k R A B I n))
 have b:=cg (aw w (cA k R A B I n))
 go_enter func93,ntmps93;go_wp2_with fail;refine c.mono ?_;rintro e w1 ⟨rfl,d⟩
 go_wp2_with fail;go_ret;exact⟨rfl,(b.o.trans (d.mono b.o.size))⟩
theorem Jy (h:(cD a hp).J F S w)(R A B I n:Int)(hc:dY 15 R A B n=0)(hq:OG S.q+OG S.r<=90000):
 M OX 93 #[aq hp,dJ 15 R A B I n] w λe w'=>∃b,e=OL (ak (S.code a))/\(cD a hp).J b (S.cut a) w'/\b9 F w b w':=by
 have PC:=ku 15 R A B I n (w.alloc (cA 15 R A B I n))
 rw[hc] at PC;have HJ:=ge h (aw w (cA 15 R A B I n)) (aO w (E #[OP OM 15,OP OM R,OP OM A,OP OM B,OP OM I,OP OM n] 105))
 have Bu:aA (∀b w',(cD a hp).J b S w'->_):=λb w' c=>Bj c hq;generalize S.cut a=d at*;generalize S.code a=cd at*;go_enter func93,ntmps93;go_wp2_with fail;generalize w.alloc (cA 15 R A B I n)=w0 at*;exact Bt
theorem Jz (h:(cD a hp).J F S w)(R A B I n:Int)(hc:dY 16 R A B n=0)(hq:OG S.q+OG S.r<=90000)(c:S.gD a=D->∃G,jc (S.k5 a) (S.d_ a) G/\G 0 (S.k5 a,0)):
 M OX 93 #[aq hp,dJ 16 R A B I n] w λe w'=>∃b,e=OL (ak (S.jd a))/\(cD a hp).J b (S.dR a) w'/\b9 F w b w':=by
 have PC:=ku 16 R A B I n (w.alloc (cA 16 R A B I n))
 rw[hc] at PC;have HJ:=ge h (aw w (cA 16 R A B I n)) (aO w (E #[OP OM 16,OP OM R,OP OM A,OP OM B,OP OM I,OP OM n] 105))
 have Bu:aA (∀b w',(cD a hp).J b S w'->_):=λb w' d=>Bk d hq c;generalize S.dR a=f at*;generalize S.jd a=cd at*;go_enter func93,ntmps93;go_wp2_with fail;generalize w.alloc (cA 16 R A B I n)=w0 at*;exact Bt
theorem JA (h:(cD a hp).J F S w)(R I n:Int)(A B:Nat)(N:A<12)(hB:B<12)(hc:dY 9 R A B n=0)(hr:OG S.r<=90000)(hq:OG S.q<=90000):
 M OX 93 #[aq hp,dJ 9 R A B I n] w λe w'=>∃b,e=OL (ak (S.reg a (U S.s.rs A 0) (U S.s.rs B 0)).1)/\(cD a hp).J b (S.reg a (U S.s.rs A 0) (U S.s.rs B 0)).2 w'/\b9 F w b w':=by
 have W:=aw w (cA 9 R A B I n)
 have ab:=aO w (E #[OP OM 9,OP OM R,OP OM (A:Int),OP OM (B:Int),OP OM I,OP OM n] 105)
 have k:=ku 9 R A B I n (w.alloc (cA 9 R A B I n))
 rw[hc] at k;have f:aA ((cD a hp).J F S w/\Below w.heap.size w (w.alloc (cA 9 R A B I n))/\(w.alloc (cA 9 R A B I n)).heap[w.heap.size]?=H (cA 9 R A B I n)/\¬F w.heap.size):=⟨h,W,ab,λd=>by have:=(cD a hp).lt h _ d;omega⟩
 have aR:(0:Int)<=(A:Int):=aa;have aV:(A:Int)<12:=aa;have a0:(0:Int)<=(B:Int):=aa;have a1:(B:Int)<12:=aa;have al:aA (∀b w',(cD a hp).J b S w'->M OX 126 #[aq hp,ak (U S.s.rs A 0),ak (U S.s.rs B 0)] w' λe ad=>∃i,e=OL (ak (S.reg a (U S.s.rs A 0) (U S.s.rs B 0)).1)/\(cD a hp).J i (S.reg a (U S.s.rs A 0) (U S.s.rs B 0)).2 ad/\b9 b w' i ad):=λb w' am=>IX am _ _ hr hq;have an:aA ((S.reg a (U S.s.rs A 0) (U S.s.rs B 0)).2.s.rs=S.s.rs):=Je a S _ _;generalize S.reg a (U S.s.rs A 0) (U S.s.rs B 0)=g at*;obtain⟨cd,ao⟩:=g;dsimp only at*;clear h W hc ab;go_enter func93,ntmps93;go_wp2_with fail;generalize w.alloc (cA 9 R A B I n)=w0 at*;generalize ap:w.heap.size=c at*;refine k.mono ?_;clear k;rintro e w1 ⟨rfl,l⟩
 have m:Below w.heap.size w w1:=by rw[ap];exact f.o.2.1.trans (l.mono (by have:=ck f.o.2.2.1;omega))
 have o:=(l.block c (ck f.o.2.2.1)).trans f.o.2.2.1;obtain⟨q0,q1,ar,q3,a2,bb⟩:=dZ o;have p:=(cD a hp).below f.o.1 m;obtain⟨h0,c0,c3,rt,_⟩:=fq p;obtain⟨r1,_⟩:=rt A N;obtain⟨bd,_⟩:=rt B hB;have ag:=(cD a hp).below p (aH _ w1).drew;have P:=al.o F w1.drew ag;have aB:aA (b9 F w F w1.drew):=(b9.of m).below (aH _ w1).drew;have lx:=ck o;have aF:aA (∀b w' q,(cD a hp).J b q w'->b9 F w1.drew b w'->q.s.rs=S.s.rs->(V w' (av hp 0)=H (aq a.pw)/\V w' (av a.pw 3)=H (Z (au a.nb) 12 12)/\V w' (av a.nb A)=H (ak (U S.s.rs A 0))/\V w' (av a.nb B)=H (ak (U S.s.rs B 0)))/\V w' (av c 2)=H (ak (A:Int))/\V w' (av c 3)=H (ak (B:Int))):=λb w' q j t es=>by obtain⟨g0,_,g3,s,_⟩:=fq j;rw[es] at s;exact⟨⟨g0,g3,(s A N).1,(s B hB).1⟩,(aQ (a:=⟨c,2,OQ⟩) (t.fr.block c lx f.o.2.2.2)).trans ar,(aQ (a:=⟨c,3,OQ⟩) (t.fr.block c lx f.o.2.2.2)).trans q3⟩
 clear l m p ag rt o;have be:aA (U S.s.rs A 0=U S.s.rs A 0):=rfl;generalize U S.s.rs A 0=x at*;generalize U S.s.rs B 0=y at*;go_wp2_with fail
 go_region_held3 (λw'=>V w' (av hp 0)=H (aq a.pw)/\V w' (av a.pw 3)=H (Z (au a.nb) 12 12)/\V w' (av a.nb A)=H (ak x)/\V w' (av a.nb B)=H (ak y)/\V w' (av c 2)=H (ak (A:Int))/\V w' (av c 3)=H (ak (B:Int))) (go_keep)
  (first
    |(go_at_call 126;refine P.mono ?_;clear P;rintro e u ⟨i,rfl,j2,v⟩;obtain⟨⟨g0,g3,gr,bg⟩,bi,bl⟩:=aF.o i u _ j2 v an.o;have ai:aA ((cD a hp).J i ao u/\b9 F w i u):=⟨j2,aB.o.trans v⟩;clear j2 v))
 go_wp2_with fail;go_ret;exact⟨i,rfl,ai.o.1,ai.o.2⟩
theorem JB (h:(cD a hp).J F S w)(R I n:Int)(A B:Nat)(v:A<12)(hB:B<12)(hc:dY 12 R A B n=0)(hM:OG S.s.M<=100000):
 Calls OX 93 #[aq hp,dJ 12 R A B I n] w λe w'=>∃c,e=OL (ak (eU a.N S.s.y S.s.g S.s.ws (U S.s.rs A 0) I))/\(cD a hp).J c (S.set a (U S.s.rs A 0) I (U S.s.rs B 0)) w'/\b9 F w c w':=by
 have N:=aw w (cA 12 R A B I n)
 have W:=aO w (E #[OP OM 12,OP OM R,OP OM (A:Int),OP OM (B:Int),OP OM I,OP OM n] 105)
 have i:=ku 12 R A B I n (w.alloc (cA 12 R A B I n))
 rw[hc] at i;have f:aA ((cD a hp).J F S w/\Below w.heap.size w (w.alloc (cA 12 R A B I n))/\(w.alloc (cA 12 R A B I n)).heap[w.heap.size]?=H (cA 12 R A B I n)/\¬F w.heap.size):=⟨h,N,W,λd=>by have:=(cD a hp).lt h _ d;omega⟩
 have aR:(0:Int)<=(A:Int):=aa;have aV:(A:Int)<12:=aa;have a0:(0:Int)<=(B:Int):=aa;have a1:(B:Int)<12:=aa;have ai:aA (∀c w',(cD a hp).J c S w'->Calls OX 127 #[aq a.pw,ak (U S.s.rs A 0),ak I,ak (U S.s.rs B 0)] w' λe ab=>∃g,e=OL (ak (eU a.N S.s.y S.s.g S.s.ws (U S.s.rs A 0) I))/\(cD a hp).J g (S.set a (U S.s.rs A 0) I (U S.s.rs B 0)) ab/\b9 c w' g ab):=λc w' al=>Jv al _ _ _ hM;have am:aA ((S.set a (U S.s.rs A 0) I (U S.s.rs B 0)).s.rs=S.s.rs):=rfl;generalize S.set a (U S.s.rs A 0) I (U S.s.rs B 0)=an at*;generalize eU a.N S.s.y S.s.g S.s.ws (U S.s.rs A 0) I=cd at*;clear h N hc W;go_enter func93,ntmps93;go_wp2_with fail;generalize w.alloc (cA 12 R A B I n)=w0 at*;generalize ao:w.heap.size=b at*;refine i.mono ?_;clear i;rintro e w1 ⟨rfl,k⟩
 have l:Below w.heap.size w w1:=by rw[ao];exact f.o.2.1.trans (k.mono (by have:=ck f.o.2.2.1;omega))
 have m:=(k.block b (ck f.o.2.2.1)).trans f.o.2.2.1;obtain⟨q0,q1,ap,q3,ar,a2⟩:=dZ m;have o:=(cD a hp).below f.o.1 l;obtain⟨h0,c0,c3,rt,_⟩:=fq o;obtain⟨r1,_⟩:=rt A v;obtain⟨bb,_⟩:=rt B hB;have ad:=(cD a hp).below o (aH _ w1).drew;have P:=ai.o F w1.drew ad;have aB:aA (b9 F w F w1.drew):=(b9.of l).below (aH _ w1).drew;have lx:=ck m;have aF:aA (∀c w' p,(cD a hp).J c p w'->b9 F w1.drew c w'->p.s.rs=S.s.rs->(V w' (av hp 0)=H (aq a.pw)/\V w' (av a.pw 3)=H (Z (au a.nb) 12 12)/\V w' (av a.nb A)=H (ak (U S.s.rs A 0))/\V w' (av a.nb B)=H (ak (U S.s.rs B 0)))/\V w' (av b 2)=H (ak (A:Int))/\V w' (av b 3)=H (ak (B:Int))/\V w' (av b 4)=H (ak I)):=λc w' p j t es=>by obtain⟨g0,_,g3,q,_⟩:=fq j;rw[es] at q;exact⟨⟨g0,g3,(q A v).1,(q B hB).1⟩,(aQ (a:=⟨b,2,OQ⟩) (t.fr.block b lx f.o.2.2.2)).trans ap,(aQ (a:=⟨b,3,OQ⟩) (t.fr.block b lx f.o.2.2.2)).trans q3,(aQ (a:=⟨b,4,OQ⟩) (t.fr.block b lx f.o.2.2.2)).trans ar⟩
 clear k l o ad rt m;have bd:aA (U S.s.rs A 0=U S.s.rs A 0):=rfl;generalize U S.s.rs A 0=x at*;generalize U S.s.rs B 0=y at*;go_wp2_with fail
 go_region_held3 (λw'=>V w' (av hp 0)=H (aq a.pw)/\V w' (av a.pw 3)=H (Z (au a.nb) 12 12)/\V w' (av a.nb A)=H (ak x)/\V w' (av a.nb B)=H (ak y)/\V w' (av b 2)=H (ak (A:Int))/\V w' (av b 3)=H (ak (B:Int))/\V w' (av b 4)=H (ak I)) (go_keep)
  (first
    |(go_at_call 127;refine P.mono ?_;clear P;rintro e s ⟨g,rfl,j2,u⟩;obtain⟨⟨g0,g3,gr,be⟩,bg,bi,bl⟩:=aF.o g s _ j2 u am.o;have ag:aA ((cD a hp).J g an s/\b9 F w g s):=⟨j2,aB.o.trans u⟩;clear j2 u))
 go_wp2_with fail;go_ret;exact⟨g,rfl,ag.o.1,ag.o.2⟩
theorem JC (h:(cD a hp).J F S w)(k R A B I n:Int)(hc:dY k R A B n=0)(k1:k≠9)(k2:k≠12)(k3:k≠15)(k4:k≠16)(v cd:Int)(h0:cd≠0)(f:cv)
 (m:∀b w',(cD a hp).J b S w'->M OX 130 #[aq hp,dJ k R A B I n] w' λe g=>∃F2,e=OL (ay #[ak v,ak cd])/\(cD a hp).J F2 f g/\b9 b w' F2 g):
 M OX 93 #[aq hp,dJ k R A B I n] w λe w'=>∃b,e=OL (ak cd)/\(cD a hp).J b f w'/\b9 F w b w':=by
 have i:=aw w (cA k R A B I n)
 have o:=aO w (E #[OP OM k,OP OM R,OP OM A,OP OM B,OP OM I,OP OM n] 105)
 have j:=ku k R A B I n (w.alloc (cA k R A B I n))
 rw[hc] at j;have c:=ge ((cD a hp).below h i) i o;have p:=cg m;go_enter func93,ntmps93;go_wp2_with fail;generalize w.alloc (cA k R A B I n)=w0 at*;generalize q:w.heap.size=s at*;refine j.mono ?_;rintro e w1 ⟨rfl,d⟩
 have l:=cY ((cD a hp).below c.o.1 d) (c.o.2.1.trans (d.mono (by have:=ck c.o.2.2;omega)))
 obtain⟨q0,q1,u,q3,x,N⟩:=dZ ((d.block s (ck c.o.2.2)).trans c.o.2.2)
 go_wp2_with fail;refine(p.o F w1 l.o.1).mono ?_;rintro e W ⟨F2,rfl,j2,t⟩
 have HF:=cY j2 ((b9.of (by rw[q];exact l.o.2)).trans t)
 exact oD
theorem JD (h:(cD a hp).J F S w){j:Nat}(ok:ed a S j)(t:j<=100000)(k R A B I n:Int):
 M OX 93 #[aq hp,dJ k R A B I n] w λe w'=>∃i,e=OL (ak (S.hd a k R A B I n).1)/\(cD a hp).J i (S.hd a k R A B I n).2 w'/\b9 F w i w':=by
 have hb:=pJ h;have u:=ok.my;have hm:=ok.m;have hq:OG S.q+OG S.r<=90000:=aa;unfold cv.hd;by_cases hc:dY k R A B n=0
 ·rw[aM hc];by_cases b:k=9
  ·rw[aM b];subst b;have l:=mR hc ae;have m:=ns hc ae;obtain⟨A,rfl⟩:=bC l.1;obtain⟨B,rfl⟩:=bC m.1;rw[bD,bD];exact JA h R I n A B aa aa hc aa aa
  rw[aJ b];by_cases d:k=12
  ·rw[aM d];subst d;have l:=mR hc ae;have m:=ns hc ae;obtain⟨A,rfl⟩:=bC l.1;obtain⟨B,rfl⟩:=bC m.1;rw[bD,bD];exact JB h R I n A B aa aa hc aa
  rw[aJ d];by_cases f:k=15
  ·rw[aM f];subst f;exact Jy h R A B I n hc hq
  rw[aJ f];by_cases e16:k=16
  ·rw[aM e16];subst e16;exact Jz h R A B I n hc hq (ok.sG hb)
  rw[aJ e16];have q:=zZ hc (Jw hc b d f e16)
  obtain⟨R,rfl⟩:=bC q.1;rw[bD];have o:∀i w',(cD a hp).J i S w'->_:=λi w' s=>Ju s ok hb k R A B I n hc b d f e16;generalize S.rt a k (K A) (K B) I n=g at*;obtain⟨v,cd,p⟩:=g;by_cases c:cd=0
  ·rw[aM c];subst c;exact I1 h k R A B I n aa hc b d f e16 v p o
  ·rw[aJ c];exact JC h k R A B I n hc b d f e16 v cd c p o
 ·rw[aJ hc];refine(Jx k R A B I n hc).mono ?_;rintro e w' ⟨rfl,hb⟩
  exact⟨F,rfl,(cD a hp).below h hb,b9.of hb⟩
end
section
variable {w:az}{pw p q N O y g:Nat}{ws:List Int}{sd:Nat}{v0:Value}{a1:Option Addr}{k1:Nat}{Q:List b8}{l:List Int}{ra:Option Addr}{rc:Nat}
theorem JE (hq:oh w pw p q N O y g ws sd v0 a1 k1 Q)(c3:V w (av pw 3)=H (Z ra (OG l) rc))(hl:Lq w ra l)(hm:OG l<=100000):
 M OX 57 #[aq pw] w λe w'=>∃an bg j ao t,e=OL (bz #[Z an (OG l) bg,Z j ao t])/\ll w' (I (G w)) an (gM N y g ws Q l).1/\jY w' (I (G w)) j (gM N y g ws Q l).2.2/\ao=OG (gM N y g ws Q l).2.2/\J (I (G w)) w w':=by
 have n:=aw w (E #[Z OQ 0 0,Z OQ 0 0] 97)
 have ap:=aO w (E #[Z OQ 0 0,Z OQ 0 0] 97)
 have ai:=hq.low n;have bi:=hl.kf (Kf.of (B:=0) n)
 have ar:=aT w _ c3;have aB:=(n.cell (p:=av pw 3) ar).trans c3;have bl:I (G w)<I (G (bu w (E #[Z OQ 0 0,Z OQ 0 0] 97))):=ac;have P:=FE ai.c0 ai.ar;have b7:=hq.ar.hN';have b8:=hq.ar.hy;have b9:=hq.ar.hO;have ca:=hq.ar.hg;have bn:∀a∈eP N y g ws++dM N y g ws,0<=a/\a<2000:=λa ha=>by
  rcases List.mem_append.1 ha with ha|ha
  ·have:=po a ha;omega
  ·have:=r4 a ha;omega
 have bo:OG (eP N y g ws++dM N y g ws)<=100000:=by exact Bw
 have bp:aA (∀(u ct:Nat)(w1:az),Wk (bu w (E #[Z OQ 0 0,Z OQ 0 0] 97)) w1 u ct pw (eP N y g ws++dM N y g ws) ([],[]) (Z OQ 0 0) []->M OX 90 #[aq u,Z ra (OG l) rc] w1 λe w'=>∃br al a2 c2,e=OL (Z a2 (OG l) c2)/\w'.ownsRow (I (G w1)) 139 2 (Z a2 (OG l) c2) (OG l) (ev (gM N y g ws Q l).1)/\Wk (bu w (E #[Z OQ 0 0,Z OQ 0 0] 97)) w' u ct pw (eP N y g ws++dM N y g ws) (gM N y g ws Q l).2 br al/\fV (bu w (E #[Z OQ 0 0,Z OQ 0 0] 97)) w1 [] w' al/\(∀k,gf al k->H k≠(Value.slice a2 (OG l) c2).ownBlock)):=
  λu ct w1 h1=>zQ (zR ai bn bo _) (kn _) h1 (fD.start _) ac l ra rc (bi.kf (Kf.of (B:=0) h1.fp)) hm
 have aF:aA (OG (gM N y g ws Q l).1=OG l):=o4 _ _ _ _;generalize gM N y g ws Q l=R at*;obtain⟨cb,s⟩:=R;generalize eP N y g ws++dM N y g ws=T at*;go_enter func57,ntmps57;go_wp2_with fail;refine P.mono ?_;rintro e w1 ⟨u,ct,rfl,h1⟩
 have bs:=(h1.fp.cell (p:=av pw 3) (aL ar n.size)).trans aB;have am:=cg h1;go_wp2_with fail;refine(bp.o u ct w1 am.o).mono ?_;rintro e w2 ⟨cc,m,a2,c2,rfl,F,f,aR,_⟩
 obtain⟨j,t,bt⟩:=e5 f.row;subst bt;have cd:=f.cells.2.2.1;have aV:=n.trans (f.fp.mono n.size)
 have o:=(f.fp.block _ bl).trans ap;have y0:V w2 (av (I (G w)) 0)=H (Z OQ 0 0):=aD o
 have y1:V w2 (av (I (G w)) 1)=H (Z OQ 0 0):=aD o
 have ce:bF w2 (av (I (G w)) 0)=D:=aE o
 have cf:bF w2 (av (I (G w)) 1)=D:=aE o
 have l2:=ck o;have bx:=cY f F;have b0:=cg f.len;have b1:=cg aV;have a0:=cg o;have bb:I (G w)<=I (G w1):=by
  have:=am.o.fp.size;simp at this
  omega
 have b2:aA (∀k,gf m k->I (G w)<=k):=λk hk=>(aR.2 k hk).elim (fun⟨x,ab,_⟩=>by cases ab) (λd=>aS bb d)
 clear f F aR aV o n ap bs aB am;go_wp2_with fail;obtain⟨S,hW0⟩:∃S,S=A (A w2 ⟨I (G w),0,OQ⟩ (Z a2 (OG l) c2)) ⟨I (G w),1,OQ⟩ (Z j (OG m) t):=⟨_,rfl⟩
 rw[<-hW0];have g0:V S (av (I (G w)) 0)=H (Z a2 (OG l) c2):=by exact pv
 have g1:V S (av (I (G w)) 1)=H (Z j (OG m) t):=by exact Bv
 have W:Fr (λk=>k=I (G w)) w2 S:=by rw[hW0];exact((Fr.refl (λk=>k=I (G w)) w2).set (I (G w)) 0 _ rfl).set (I (G w)) 1 _ rfl
 obtain⟨f,F⟩:=bx.o;have bd:∀{ad:Option Addr}{L:List (Int×Int)},fO w2 ad L->dQ S ad L:=λ{ad L} h=>h.1.keep W.size (λhp b e=>by
  obtain⟨b3,ch,ci,b4,hb⟩:=h.2 hp;rw[b4] at e;cases e;refine W.block _ (ck hb) (λc=>?_)
  have c:b3=I (G w):=c;rw[c,a0.o] at hb;simp at hb)
 refine a3 (v:=bz #[Z a2 (OG l) c2,Z j (OG m) t]) (by simp[results,results57,go_sem,g0,g1]) rfl ⟨a2,c2,j,OG m,t,rfl,⟨bd (fO.of (by rw[aF.o];exact F)),λhp=>?_⟩,⟨m,f.nd,λx ab=>bd (f.fl x ab),b2.o,λhp=>?_⟩,b0.o,b1.o.trans (W.below (ve l2) (λk e=>Ck (Lp e)))⟩
 ·obtain⟨b,cap,e⟩:=ff F (by rw[<-aF.o];exact hp)
  cases e;exact⟨b,0,rfl,aS bb (cu F b rfl).1⟩
 obtain⟨b,cap,e⟩:=ff f.row hp;cases e;have b5:=(cu f.row b rfl).1;simp at b5;obtain⟨cj,ag⟩:=fI f.row b rfl;have be:b≠I (G w):=λc=>by rw[c,a0.o] at ag;simp at ag
 refine⟨b,0,rfl,aa,aL (ck ag) W.size,λi x ab=>?_⟩
 obtain⟨n1,b6⟩:=qk m i x ab;rw[bV];exact⟨(aQ (a:=⟨b,i*2,OQ⟩) (W.block b (ck ag) be)).trans (kq f.row n1).1,(aQ (a:=⟨b,i*2+1,OQ⟩) (W.block b (ck ag) be)).trans (kq f.row b6).1⟩
end
theorem JF (n o:Int)(w:az)(h:n<16\/256<n\/o<0\/1024<o):
 M OX 87 #[ak n,ak o] w λe w'=>e=OL (ay #[bq OQ,bz #[ak 1,ak (-1)]])/\J (I (G w)) w w':=by
 have g:=aO w (E #[OP OM 0,OP OM 0] 33)
 have P:=GO n o (bu w (E #[OP OM 0,OP OM 0] 33)) h;go_enter func87,ntmps87;go_wp2_with fail;refine P.mono ?_;rintro e w1 ⟨rfl,d⟩
 have c:=(d.block (I (G w)) ac).trans g;have hB1:=(aw w (E #[OP OM 0,OP OM 0] 33)).trans (d.mono ac)
 have i:=d.size;simp at i;have y0:V w1 (av (I (G w)) 0)=H (ak 0):=aD c
 have y1:V w1 (av (I (G w)) 1)=H (ak 0):=aD c
 have m:bF w1 (av (I (G w)) 0)=D:=aE c
 have q:bF w1 (av (I (G w)) 1)=D:=aE c
 have l1:I (G w)<I (G w1):=aa;clear d g c;go_wp2_with fail
 go_region_law (fail)
 all_goals
  obtain⟨b,hW0⟩:∃b,b=A (A w1 ⟨I (G w),0,OQ⟩ (OP OM 1)) ⟨I (G w),1,OQ⟩ (OP OM (-1)):=⟨_,rfl⟩
  rw[<-hW0];have s:I (G b)=I (G w1):=by rw[hW0];simp[World.setCell]
  have g0:V b (av (I (G w)) 0)=H (ak 1):=by exact pv
  have g1:V b (av (I (G w)) 1)=H (ak (-1)):=by exact vx
  have j:J (I (G w)) w b:=by exact vv
  have f:=(aw b (E #[OP OM 1,OP OM (-1)] 33)).drew;have r0:=(f.cell (p:=av (I (G w)) 0) (by show I (G w)<_;omega)).trans g0;have r1:=(f.cell (p:=av (I (G w)) 1) (by show I (G w)<_;omega)).trans g1;have l:=j.trans (f.mono aa)
  generalize (bu b (E #[OP OM 1,OP OM (-1)] 33)).drew=t at*;go_wp2_with fail;refine a3 (v:=ay #[bq OQ,bz #[OP OM 1,OP OM (-1)]]) (by simp[results,results87,go_sem,r0,r1]) rfl ⟨rfl,l⟩
theorem JG (n o:Nat)(w:az)(h0:16<=n)(l:n<=256)(m:o<=1024):
 M OX 87 #[ak n,ak o] w λe w'=>∃hp,e=OL (ay #[aq hp,bz #[ak 0,ak 0]])/\J (I (G w)) w w':=by
 have g:=aw w (E #[OP OM 0,OP OM 0] 33)
 have P:=zT n o (bu w (E #[OP OM 0,OP OM 0] 33)) h0 l m;have i:=aO w (E #[OP OM 0,OP OM 0] 33)
 have t:I (G w)<I (G (bu w (E #[OP OM 0,OP OM 0] 33))):=ac;have j:=cg g;clear g;go_enter func87,ntmps87;go_wp2_with fail;generalize bu w (E #[OP OM 0,OP OM 0] 33)=w0 at*;generalize u:I (G w)=fb at*;refine P.mono ?_;clear P;rintro e w1 ⟨pw,p,q,pc,cV,s,nb,rfl,x,hs,hr,hg,d⟩
 have c:=(d.block fb t).trans i;have y0:V w1 (av fb 0)=H (ak 0):=aD c
 have y1:V w1 (av fb 1)=H (ak 0):=aD c
 have z0:bF w1 (av fb 0)=D:=aE c
 have W:bF w1 (av fb 1)=D:=aE c
 have B:=ck c;have F:=cg (j.o.trans (d.mono aa))
 clear x hs hr hg d i j c;go_wp2_with fail;obtain⟨b,hW1⟩:∃b,b=A (A w1 ⟨fb,0,OQ⟩ (OP OM 0)) ⟨fb,1,OQ⟩ (OP OM 0):=⟨_,rfl⟩
 rw[<-hW1];have v0:V b (av fb 0)=H (ak 0):=by exact vz
 have v1:V b (av fb 1)=H (ak 0):=by exact zX
 have N:Fr (λk=>k=fb) w1 b:=by rw[hW1];exact((Fr.refl (λk=>k=fb) w1).set fb 0 _ rfl).set fb 1 _ rfl
 have ab:I (G b)=I (G w1):=by rw[hW1];simp
 clear hW1;have f:=(aw b (E #[OP OM 0,OP OM 0] 33)).alloc ac (E #[bq (H ⟨pw,0,OQ⟩)] 119)
 have g0:=(f.cell (p:=av fb 0) (by show fb<_;omega)).trans v0;have g1:=(f.cell (p:=av fb 1) (by show fb<_;omega)).trans v1;have S:=F.o.trans (N.below (ve B) (λk e=>Ck (Lp e)))
 exact a3 (v:=ay #[aq (I (G w1)+1),bz #[ak 0,ak 0]]) (by simp only [results,results87];simp[go_sem,g0,g1]) rfl ⟨I (G w1)+1,rfl,by rw[u];exact S.trans (f.mono aa)⟩
section
variable {a:Wc}{hp:Nat}{F:Nat->Prop}{S:cv}{w:az}
theorem JH (h:(cD a hp).J F S w)(hq:OG S.q<=90000):
 M OX 57 #[aq a.pw] w λe w'=>∃c b d f,e=OL (bz #[Z c 12 b,Z d (OG (gM a.N S.s.y S.s.g S.s.ws S.q S.s.rs).2.2) f])/\ll w' (I (G w)) c (gM a.N S.s.y S.s.g S.s.ws S.q S.s.rs).1/\jY w' (I (G w)) d (gM a.N S.s.y S.s.g S.s.ws S.q S.s.rs).2.2/\Below (I (G w)) w w':=by
 obtain⟨n,g,_⟩:=lz h;obtain⟨o,g1,_⟩:=oq g;obtain⟨c0,_,c2,c3,_,rl,_,j⟩:=kR g1;obtain⟨p,ar,q,⟨s,ad,cap,⟨own,cV,hM,hO⟩,b,k,t,_⟩,r0,r1,u⟩:=g;have hl:Lq w (au a.nb) S.s.rs:=by
  have hr:=hM.rt;refine⟨λ_=>⟨a.nb,0,rfl,ck hr,λi hi=>?_⟩,λ_=>⟨a.nb,0,_,rfl,hr⟩⟩
  rw[bV];exact(j i (by rw[<-rl];exact hi)).1
 have P:=JE ⟨c0,c2,(l8 g1).1,b,iN k,hq⟩ (by rw[rl];exact c3) hl (by rw[rl];decide)
 rw[rl] at P;refine P.mono ?_;rintro e w' ⟨c,b,d,v,f,rfl,q1,l,rfl,m⟩
 exact⟨c,b,d,f,rfl,q1,l,m⟩
theorem JJ (h:(cD a hp).J F S w):M OX 61 #[aq a.p] w λe w'=>e=OL (ay #[ak S.s.y,ak S.s.g])/\Below (I (G w)) w w':=
 lW w (mS h).1
end
def eM (L:List Bool)(v:Int×Int):Bool:=!(v.1==3)||U L (K v.2) D
def t0:cH:=(0,[],D,D)
def jH (T:List cH)(wt:List b8)(X:Nat->Prop)(i:Nat)(v:Int×Int):Prop:=
 (((U T i t0).1=1\/(U T i t0).1=2)/\v∈(U T i t0).2.1)\/((U T i t0).1=3/\v=U (U T i t0).2.1 1 (0,0))\/
 ((U T i t0).1=4/\((U (U T i t0).2.1 0 (0,0)).1=3->X (K (U (U T i t0).2.1 0 (0,0)).2))/\v=U (U T i t0).2.1 1 (0,0))\/
 ((U T i t0).1=5/\∃e∈wt,e.1=i/\v=(3,e.2))
theorem jH.mono {T:List cH}{wt:List b8}{X Y:Nat->Prop}(e:∀i,X i->Y i){i:Nat}{v:Int×Int}(h:jH T wt X i v):jH T wt Y i v:=by
 rcases h with h|h|⟨b,f,d⟩|h
 ·exact aK h
 ·exact aI (aK h)
 ·exact aI (aI (aK ⟨b,λc=>(by grind),d⟩))
 ·exact aI (aI (aI h))
def iJ (T:List cH)(wt:List b8)(X:Nat->Prop):Prop:=∀i,i<OG T->X i->∀v,jH T wt X i v->v.1=3->X (K v.2)
def cx (L:List Bool):Nat->Prop:=λi=>U L i D=C
structure pK (T:List cH)(wt:List b8)(is out:List Bool):Prop where
 len:OG out=OG is
 up:∀i,cx is i->cx out i
 cl:iJ T wt (cx out)
 lt:∀X,iJ T wt X->(∀i,cx is i->X i)->∀i,cx out i->X i
theorem oE {L:List Bool}{v:Int×Int}(h:eM L v=D):v.1=3/\U L (K v.2) D=D:=by grind [eM]
theorem oF {L:List Bool}{v:Int×Int}(h:eM L v=C):v.1=3->cx L (K v.2):=λb=>by grind [eM,cx]
theorem wy (L:List Bool)(i j:Nat)(h:i<OG L):U (L.set i C) j D=if i=j then C else U L j D:=by grind
theorem cx.lt {L:List Bool}{i:Nat}(h:cx L i):i<OG L:=by grind [cx]
def cnt (L:List Bool):Nat:=OG (L.filter (λb=>!b))
theorem wz:∀(L:List Bool)(i:Nat),U L i C=D->cnt (L.set i C)+1=cnt L
 |[],i,h=>by grind
 |b::L,0,h=>by grind [cnt]
 |b::L,i+1,h=>by
  have h:U L i C=D:=by assumption
  have c:=wz L i h
  grind [cnt]
def cz (T:List cH)(i:Nat):Prop:=i<OG T/\(U T i t0).2.2.2=D
structure e9 (T:List cH)(wt:List b8):Prop where
 fl:∀i,cz T i->(U T i t0).1=3\/(U T i t0).1=4->OG (U T i t0).2.1=2
 fv:∀i,cz T i->∀v∈(U T i t0).2.1,v.1=3->0<=v.2/\cz T (K v.2)
 wv:∀e∈wt,0<=e.2/\cz T (K e.2)
 tl:∀i,OG (U T i t0).2.1<=12
theorem fL {b:Type}{l:List b}{i:Nat}{x:b}(h:i<OG l):U l i x∈l:=by grind
theorem e9.qW {T:List cH}{wt:List b8}(h:e9 T wt){X:Nat->Prop}{i:Nat}(hi:cz T i){v:Int×Int}(hv:jH T wt X i v)(b:v.1=3):0<=v.2/\cz T (K v.2):=by
 rcases hv with⟨_,hm⟩|⟨hk,e⟩|⟨hk,_,e⟩|⟨_,c,he,_,e⟩
 ·exact h.fv i hi v hm b
 ·exact h.fv i hi v (by grind) b
 ·exact h.fv i hi v (by grind) b
 ·rw[e];exact h.wv c he
theorem e9.cls {T:List cH}{wt:List b8}(h:e9 T wt):iJ T wt (cz T):=λ_ _ hX _ hv b=>(h.qW hX hv b).2
def wA (mj:Bool)(t:cH):Bool:=t.2.2.1&&!t.2.2.2&&!mj
def oG (L:List Bool)(v:Int×Int):List Bool:=if v.1=3 then L.set (K v.2) C else L
def kZ (T:List cH)(rs:List (Int×Int))(mj:Bool):List Bool:=rs.foldl oG (T.map (wA mj))
theorem Bx (L:List Bool)(v:Int×Int):OG (oG L v)=OG L:=by grind [oG]
theorem By (T:List cH)(rs:List _)(mj:Bool):OG (kZ T rs mj)=OG T:=by
 have key:∀(rs:List (Int×Int))(L:List Bool),OG (rs.foldl oG L)=OG L:=λrs=>by
  induction rs with
  |nil=>grind
  |cons v rs b=>grind [Bx]
 grind [kZ]
theorem JK {L:List Bool}{v:Int×Int}{i:Nat}:cx (oG L v) i↔cx L i\/(v.1=3/\K v.2=i/\i<OG L):=by grind [oG,cx]
theorem Bz:∀(rs:List (Int×Int))(L:List Bool)(i:Nat),cx (rs.foldl oG L) i↔cx L i\/(i<OG L/\∃v∈rs,v.1=3/\K v.2=i)
 |[],L,i=>by simp
 |v::rs,L,i=>by
  rw[a8,Bz rs,JK,Bx]
  grind
theorem JL (mj:Bool)(T:List cH)(i:Nat):cx (T.map (wA mj)) i↔i<OG T/\(U T i t0).2.2.1=C/\(U T i t0).2.2.2=D/\mj=D:=by grind [cx,wA]
theorem lK (T:List cH)(rs:List _)(mj:Bool)(i:Nat):cx (kZ T rs mj) i↔i<OG T/\(((U T i t0).2.2.1=C/\(U T i t0).2.2.2=D/\mj=D)\/∃v∈rs,v.1=3/\K v.2=i):=by grind [Bz,JL,kZ]
section
variable {T:List cH}{wt:List b8}
theorem pK.uniq {is a b:List Bool}(h:pK T wt is a)(c:pK T wt is b):a=b:=by
 refine List.ext_getElem (h.len.trans c.len.symm) (λi d e=>?_)
 have key:cx a i↔cx b i:=⟨λq=>h.lt _ c.cl c.up i q,λq=>c.lt _ h.cl h.up i q⟩
 grind [cx]
end
def cZ (L:List Bool)(x:Int):Bool:=U L (K x) D
def gz (g:List Bool->List Bool)(L:List Bool)(x:Int):List Bool:=g (L.set (K x) C)
def je (T:List cH)(L:List Bool):Nat->Int
 |0=>0
 |i+1=>if U L i D=C then je T L i+(1+OG (U T i t0).2.1) else je T L i
def gj (L:List Bool)(i:Nat)(t:cH):cH:=
 if U L i D=C then
  (t.1,(if t.1=4/\eM L (U t.2.1 0 (0,0))=D then[(2,0),(2,0)] else if t.1=3/\eM L (U t.2.1 0 (0,0))=D then[(2,0),U t.2.1 1 (0,0)] else t.2.1),C,t.2.2.2)
 else(t.1,[],t.2.2.1,C)
def gS (L:List Bool)(T:List cH):Nat->List cH
 |0=>T
 |i+1=>(gS L T i).set i (gj L i (U T i t0))
def cj.c0 (g:List Bool->List Bool)(s:cj)(mj:Bool):List Bool:=g (kZ s.T s.rs mj)
def cj.cR (g:List Bool->List Bool)(s:cj)(mj:Bool):List Bool×List b8×List b8:=
 turns cZ (gz g) (OG s.rg+1) (s.rg.filter (λe=>!cZ (s.c0 g mj) e.2)) (s.c0 g mj) []
def cj.cF (g:List Bool->List Bool)(s:cj)(grow:Int)(mj:Bool):Bool:=
 (!mj&&decide (grow-(el s.T).2<(el s.T).1))||decide (grow<je s.T (s.cR g mj).1 (OG s.T))
def cj.cut (g:List Bool->List Bool)(s:cj)(grow:Int)(mj:Bool):cj:=
 if s.cF g grow mj=C then s else
  {T:=gS (s.cR g mj).1 s.T (OG s.T),rs:=s.rs,rg:=s.rg.filter (λe=>cZ (s.c0 g mj) e.2&&cZ (s.cR g mj).1 e.1),wt:=(s.wt++(s.cR g mj).2.1).filter (λe=>cZ (s.cR g mj).1 e.1)}
def cj.hI (g:List Bool->List Bool)(s:cj)(grow:Int)(mj:Bool):Int:=if s.cF g grow mj=C then 3 else 0
def dW (T:List cH)(wt:List b8)(g:List Bool->List Bool):Prop:=∀is:List Bool,OG is=OG T->(∀k,cx is k->cz T k)->pK T wt is (g is)
theorem kC (L:List Bool)(T:List cH):∀i,OG (gS L T i)=OG T
 |0=>rfl
 |i+1=>by rw[gS,List.length_set];exact kC L T i
theorem sX (L:List Bool)(T:List cH):∀(i j:Nat),i<=OG T->j<OG T->U (gS L T i) j t0=if j<i then gj L j (U T j t0) else U T j t0
 |0,j,_,_=>by rfl
 |i+1,j,hi,b=>by
  rw[gS,aN,List.getElem?_set];by_cases e:i=j
  ·grind [kC]
  ·rw[aJ e,<-aN,(sX L T i j aa b)]
   grind
theorem BA (T:List cH)(L:List Bool)(h:∀i,OG (U T i t0).2.1<=12):∀i,0<=je T L i/\je T L i<=13*i
 |0=>by simp[je]
 |i+1=>by
  have b:=BA T L h i
  grind [je]
section
variable {T:List cH}{wt:List b8}{g:List Bool->List Bool}
structure hJ (T:List cH)(L:List Bool):Prop where
 len:OG L=OG T
 al:∀k,cx L k->cz T k
theorem dW.ok (hg:dW T wt g)(c:e9 T wt){L:List Bool}(h:hJ T L):hJ T (g L)/\∀k,cx L k->cx (g L) k:=by have b:=hg L h.len h.al;exact⟨⟨b.len.trans h.len,λk hk=>b.lt _ c.cls h.al k hk⟩,b.up⟩
theorem hJ.put {L:List Bool}(h:hJ T L){x:Nat}(b:cz T x):hJ T (L.set x C)/\cx (L.set x C) x/\∀k,cx L k->cx (L.set x C) k:=by
 have hl:x<OG L:=by rw[h.len];exact b.1
 refine⟨⟨by grind [len],λk hk=>?_⟩,?_,λk hk=>?_⟩
 all_goals grind [al,cx]
theorem hJ.gz (hg:dW T wt g)(c:e9 T wt){L:List Bool}(h:hJ T L){x:Int}(d:cz T (K x)):hJ T (gz g L x)/\cx (gz g L x) (K x)/\∀k,cx L k->cx (gz g L x) k:=by obtain⟨e,f,i⟩:=h.put d;obtain⟨q1,b⟩:=hg.ok c e;exact⟨q1,b _ f,λk hk=>b _ (by grind)⟩
end
structure fX (s:cj):Prop where
 iv:e9 s.T s.wt
 rv:∀v∈s.rs,v.1=3->0<=v.2/\cz s.T (K v.2)
 gv:∀e∈s.rg,(0<=e.1/\cz s.T (K e.1))/\0<=e.2/\cz s.T (K e.2)
 wg:∀e∈s.wt,0<=e.1/\cz s.T (K e.1)
 tl:OG s.T<=10000
 gl:OG s.rg<=1000
 wl:OG s.wt<=1000
theorem fX.t12 {s:cj}(h:fX s):∀t∈s.T,OG t.2.1<=12:=λt ht=>by
 obtain⟨i,hi,e⟩:=List.mem_iff_getElem.1 ht;have:=h.iv.tl i
 grind
theorem fX.first {s:cj}(h:fX s)(mj:Bool):hJ s.T (kZ s.T s.rs mj):=
 ⟨By _ _ _,λk hk=>by
  obtain⟨c,b⟩:=(lK _ _ _ _).1 hk;rcases b with⟨_,b,_⟩|⟨v,hv,d,e⟩
  ·exact⟨c,b⟩
  ·rw[<-e];exact(h.rv v hv d).2⟩
abbrev fS:=List cH->List b8->List Bool->List Bool
def jx (T:List cH)(v:Int×Int):Bool:=v.1==3&&(U T (K v.2) t0).1==5
def lL (T:List cH)(v:Int×Int):Bool:=v.1==3&&!((U T (K v.2) t0).1==5)
theorem sY {T:List cH}{v:Int×Int}:jx T v=C↔v.1=3/\(U T (K v.2) t0).1=5:=by grind [jx]
theorem k7 {T:List cH}{v:Int×Int}:lL T v=C↔v.1=3/\(U T (K v.2) t0).1≠5:=by grind [lL]
abbrev jT (T:List cH)(j i:Nat)(y:Int×Int):List cH:=T.set j ((U T j t0).1,(U T j t0).2.1.set i y,(U T j t0).2.2)
def cj.room (g:fS)(ce grow:Int)(s:cj)(m:Int):Int×cj:=
 if m<=ce-(el s.T).1 then(0,s) else(s.hI (g s.T s.wt) grow (decide (grow-(el s.T).2<(el s.T).1)),s.cut (g s.T s.wt) grow (decide (grow-(el s.T).2<(el s.T).1)))
def cj.put (s:cj)(kd:Int)(l:List (Int×Int)):cj:={s with T:=s.T++[(kd,l,D,D)]}
def cj.grow (g:fS)(ce grow:Int)(s:cj)(kd:Int)(l:List (Int×Int)):(Int×Int)×Int×cj:=
 if(s.room g ce grow (1+OG l)).1=0 then((3,(OG (s.room g ce grow (1+OG l)).2.T:Int)),0,(s.room g ce grow (1+OG l)).2.put kd l)
 else((0,0),(s.room g ce grow (1+OG l)).1,(s.room g ce grow (1+OG l)).2)
def cj.pop (s:cj)(v:Int×Int):(Int×Int)×Int×cj:=
 if jx s.T v=C then(if ej v.2 s.wt<OG s.wt then((3,(U s.wt (ej v.2 s.wt) (0,0)).2),0,{s with wt:=s.wt.take (ej v.2 s.wt)++s.wt.drop (ej v.2 s.wt+1)}) else((0,0),4,s)) else((0,0),2,s)
def cj.fc (s:cj)(v:Int×Int)(I:Int):Int:=if lL s.T v=C then(if I<0\/(OG (U s.T (K v.2) t0).2.1:Int)<=I then 1 else 0) else 2
def cj.rt (g:fS)(ce grow:Int)(s:cj)(k:Int)(A B:Nat)(I n:Int):(Int×Int)×Int×cj:=
 if k=1 then((1,n),0,s) else if k=3 then(U s.rs A (0,0),0,s) else if k=4 then s.grow g ce grow 1 [U s.rs A (0,0),U s.rs B (0,0)] else if k=5 then s.grow g ce grow 2 (aZ (K n) (U s.rs A (0,0)))
 else if k=6 then s.grow g ce grow 3 [U s.rs A (0,0),U s.rs B (0,0)] else if k=7 then s.grow g ce grow 4 [U s.rs A (0,0),U s.rs B (0,0)] else if k=8 then s.grow g ce grow 5 [] else if k=10 then s.pop (U s.rs A (0,0))
 else if k=11 then((if s.fc (U s.rs A (0,0)) I=0 then U (U s.T (K (U s.rs A (0,0)).2) t0).2.1 (K I) (0,0) else(0,0)),s.fc (U s.rs A (0,0)) I,s)
 else if k=13 then(if lL s.T (U s.rs A (0,0))=C then((1,(OG (U s.T (K (U s.rs A (0,0)).2) t0).2.1:Int)),0,s) else((0,0),2,s))
 else if k=14 then((1,if U s.rs A (0,0)=U s.rs B (0,0) then 1 else 0),0,s) else((0,0),0,s)
def cj.reg (s:cj)(t d:Int×Int):Int×cj:=
 if t.1=3/\jx s.T d=C then(if 24<=OG s.rg+OG s.wt then(3,s) else(0,{s with rg:=s.rg++[(d.2,t.2)]})) else(2,s)
def cj.set (s:cj)(v:Int×Int)(I:Int)(y:Int×Int):Int×cj:=(s.fc v I,if s.fc v I=0 then {s with T:=jT s.T (K v.2) (K I) y} else s)
def cj.dI (g:fS)(ce grow:Int)(s:cj)(k R A B I n:Int):Int×cj:=
 if dY k R A B n=0 then(if k=9 then s.reg (U s.rs (K A) (0,0)) (U s.rs (K B) (0,0)) else if k=12 then s.set (U s.rs (K A) (0,0)) I (U s.rs (K B) (0,0))
  else if k=15 then(s.hI (g s.T s.wt) grow D,s.cut (g s.T s.wt) grow D) else if k=16 then(s.hI (g s.T s.wt) grow C,s.cut (g s.T s.wt) grow C)
  else if(s.rt g ce grow k (K A) (K B) I n).2.1=0 then(0,{(s.rt g ce grow k (K A) (K B) I n).2.2 with rs:=(s.rt g ce grow k (K A) (K B) I n).2.2.rs.set (K R) (s.rt g ce grow k (K A) (K B) I n).1})
  else((s.rt g ce grow k (K A) (K B) I n).2.1,(s.rt g ce grow k (K A) (K B) I n).2.2))
 else(dY k R A B n,s)
end Go.Proofs.YtjckpdepffejnaaGreatDoor
