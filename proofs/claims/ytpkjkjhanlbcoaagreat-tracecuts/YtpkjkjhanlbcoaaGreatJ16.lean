import Derived.Test.YtpkjkjhanlbcoaaGreatJ15
open Array renaming size->I
open Bool renaming false->K,true->D
open Eq renaming symm->CX
open Go renaming Calls->J
open Go.Ending renaming returned->M6
open Go.IntKind renaming i64->M4
open Go.Obj renaming cells->M5
open Go.Proofs.Tryz renaming prog->Ng
open Go.RowKit renaming Below->C
open Go.Value renaming agg->bF,int->U,pointer->bJ,slice->H,tuple->a8
open Go.World renaming alloc->bj,cell?->V,frozen?->bO,heap->G,setCell->ay
open Int renaming eq_ofNat_of_zero_le->bH,toNat->M,toNat_natCast->bI
open List renaming getD->X,getElem?_replicate_of_lt->Dx,length->MZ,mem_map->fo,replicate->Ni
open Nat renaming le_of_eq->tQ,le_of_lt->wI,zero_add->b7
open Option renaming none->M9,none->Y,some->Z
namespace Go.Proofs.YtpkjkjhanlbcoaaGreat
set_option maxRecDepth 100000
set_option maxHeartbeats 2000000
open Tryz
open Go.RowKit W Kp cq
theorem A4 {P:Prop}(h:P:=by
 generalize hxb:w.heap.size=xb at*;refine PC.mono ?_;rintro e w1 ⟨rfl,hb1⟩
 have hbt:Below w.heap.size w w1:=by rw[hxb];exact HJ.o.2.1.trans (hb1.mono (by have:=lt_of_some HJ.o.2.2;omega))
 obtain⟨q0,q1,q2,q3,q4,q5⟩:=ez ((hb1.block xb (lt_of_some HJ.o.2.2)).trans HJ.o.2.2)
 have J1:=(cD a hp).below HJ.o.1 hbt;obtain⟨h0,_⟩:=fw J1;have P:=A6.o F w1 J1;have HT:aA (ch F w F w1):=ch.of hbt;go_wp2_with fail;refine P.mono ?_;rintro e w2 ⟨F2,rfl,u_,T2⟩
 have HF:=c8 u_ (HT.o.trans T2)
 go_wp2_with fail;go_ret;exact⟨F2,rfl,HF.o.1,HF.o.2⟩):P:=h
theorem rX {P:Prop}(h:P:=by
 go_enter func57,ntmps57;go_wp2_with fail;refine P.mono ?_;rintro e w2 ⟨F2,rfl,u_,T2⟩
 have HF:=c8 u_ ((ch.of HB.o).trans T2)
 go_wp2_with fail;go_ret2;exact⟨F2,rfl,HF.o.1,HF.o.2⟩):P:=h
theorem A7 {P:Prop}(h:P:=by
 rcases qG k with d|d|d|d|d|d|d|d|d|d|d|d|d|d|d|d|d
 case' inr.inr.inr.inr.inr.inr.inr.inr.inr.inr.inr.inr.inr.inr.inr.inr=>
  have:=qH d;unfold d7 at hc;rw[aJ this] at hc;omega
 all_goals
  first
   |(subst d;decide)
   |(omega)):P:=h
theorem A8 {P:Prop}(h:P:=by rw[hW0];exact bc _ _ _ ((aY w2 ⟨w.heap.size,0,none⟩ ⟨w.heap.size,1,none⟩ _ ac).trans y1)):P:=h
theorem IB (a:Wc)(S:cw)(x:Int):(S.pop a x).2.2.s.rs=S.s.rs:=by
 unfold cw.pop;split
 ·split<;>rfl
 ·rfl
theorem IC (a:Wc)(S:cw)(t g:Int):(S.reg a t g).2.s.rs=S.s.rs:=by
 unfold cw.reg;split
 ·split
  ·split<;>rfl
  ·rfl
 ·rfl
section
variable {a:Wc}{hp:Nat}{F:Nat->Prop}{S:cw}{w:az}
theorem ID (h:(cD a hp).J F S w)(R I n:Int)(A B:Nat)(f:A<12)(hB:B<12)(hq:MZ S.q+MZ S.r<=90000)(j:S.gh a=K->∃G,i4 (S.k5 a) (S.dN a) G/\G 0 (S.k5 a,0))(room:(S.room a 3).1=0->(S.room a 3).2.s.y+3<=a.N):
 Calls Ng 57 #[aq hp,eb 4 R A B I n] w fun e w'=>∃c,e=M6 (a8 #[ak (S.b_ a 1 [A,B]).1,ak (S.b_ a 1 [A,B]).2.1])/\(cD a hp).J c (S.b_ a 1 [A,B]).2.2 w'/\ch F w c w':=by
 have d:=(aw w (cH 4 R A B I n)).alloc ac (M5 #[U M4 (A:Int),U M4 (B:Int)] 3)
 have b:=aP (w.alloc (cH 4 R A B I n)) (M5 #[U M4 (A:Int),U M4 (B:Int)] 3)
 have k:(w.alloc (cH 4 R A B I n)).heap.size=w.heap.size+1:=ac;rw[k] at b;have P:=qa ((cD a hp).below h d) 1 [A,B] (au (w.heap.size+1)) 2 hq j rfl (fun _=>⟨w.heap.size+1,rfl,fun l=>by have:=(cD a hp).lt h _ l;omega,lt_of_some b,fun i hi=>by
  have hi:i<2:=hi;rcases(show i=0\/i=1 by omega) with rfl|rfl<;>simp only [World.cell?,b]<;>rfl⟩) (fun i hi=>by
  have hi:i<2:=hi;rcases(show i=0\/i=1 by omega) with rfl|rfl
  ·exact f
  ·exact hB) room
 have HB:=hide d;generalize S.b_ a 1 [A,B]=g at*;obtain⟨v,cd,m⟩:=g;exact rX
theorem IE (h:(cD a hp).J F S w)(R I n:Int)(A B:Nat)(f:A<12)(hB:B<12)(hq:MZ S.q+MZ S.r<=90000)(j:S.gh a=K->∃G,i4 (S.k5 a) (S.dN a) G/\G 0 (S.k5 a,0))(room:(S.room a 3).1=0->(S.room a 3).2.s.y+3<=a.N):
 Calls Ng 57 #[aq hp,eb 6 R A B I n] w fun e w'=>∃c,e=M6 (a8 #[ak (S.b_ a 3 [A,B]).1,ak (S.b_ a 3 [A,B]).2.1])/\(cD a hp).J c (S.b_ a 3 [A,B]).2.2 w'/\ch F w c w':=by
 have d:=(aw w (cH 6 R A B I n)).alloc ac (M5 #[U M4 (A:Int),U M4 (B:Int)] 3)
 have b:=aP (w.alloc (cH 6 R A B I n)) (M5 #[U M4 (A:Int),U M4 (B:Int)] 3)
 have k:(w.alloc (cH 6 R A B I n)).heap.size=w.heap.size+1:=ac;rw[k] at b;have P:=qa ((cD a hp).below h d) 3 [A,B] (au (w.heap.size+1)) 2 hq j rfl (fun _=>⟨w.heap.size+1,rfl,fun l=>by have:=(cD a hp).lt h _ l;omega,lt_of_some b,fun i hi=>by
  have hi:i<2:=hi;rcases(show i=0\/i=1 by omega) with rfl|rfl<;>simp only [World.cell?,b]<;>rfl⟩) (fun i hi=>by
  have hi:i<2:=hi;rcases(show i=0\/i=1 by omega) with rfl|rfl
  ·exact f
  ·exact hB) room
 have HB:=hide d;generalize S.b_ a 3 [A,B]=g at*;obtain⟨v,cd,m⟩:=g;exact rX
theorem IF (h:(cD a hp).J F S w)(R I n:Int)(A B:Nat)(f:A<12)(hB:B<12)(hq:MZ S.q+MZ S.r<=90000)(j:S.gh a=K->∃G,i4 (S.k5 a) (S.dN a) G/\G 0 (S.k5 a,0))(room:(S.room a 3).1=0->(S.room a 3).2.s.y+3<=a.N):
 Calls Ng 57 #[aq hp,eb 7 R A B I n] w fun e w'=>∃c,e=M6 (a8 #[ak (S.b_ a 4 [A,B]).1,ak (S.b_ a 4 [A,B]).2.1])/\(cD a hp).J c (S.b_ a 4 [A,B]).2.2 w'/\ch F w c w':=by
 have d:=(aw w (cH 7 R A B I n)).alloc ac (M5 #[U M4 (A:Int),U M4 (B:Int)] 3)
 have b:=aP (w.alloc (cH 7 R A B I n)) (M5 #[U M4 (A:Int),U M4 (B:Int)] 3)
 have k:(w.alloc (cH 7 R A B I n)).heap.size=w.heap.size+1:=ac;rw[k] at b;have P:=qa ((cD a hp).below h d) 4 [A,B] (au (w.heap.size+1)) 2 hq j rfl (fun _=>⟨w.heap.size+1,rfl,fun l=>by have:=(cD a hp).lt h _ l;omega,lt_of_some b,fun i hi=>by
  have hi:i<2:=hi;rcases(show i=0\/i=1 by omega) with rfl|rfl<;>simp only [World.cell?,b]<;>rfl⟩) (fun i hi=>by
  have hi:i<2:=hi;rcases(show i=0\/i=1 by omega) with rfl|rfl
  ·exact f
  ·exact hB) room
 have HB:=hide d;generalize S.b_ a 4 [A,B]=g at*;obtain⟨v,cd,m⟩:=g;exact rX
theorem IG (h:(cD a hp).J F S w)(R A B I n:Int)(hq:MZ S.q+MZ S.r<=90000)(d:S.gh a=K->∃G,i4 (S.k5 a) (S.dN a) G/\G 0 (S.k5 a,0))(room:(S.room a 1).1=0->(S.room a 1).2.s.y+1<=a.N):
 Calls Ng 57 #[aq hp,eb 8 R A B I n] w fun e w'=>∃b,e=M6 (a8 #[ak (S.b_ a 5 []).1,ak (S.b_ a 5 []).2.1])/\(cD a hp).J b (S.b_ a 5 []).2.2 w'/\ch F w b w':=by
 have c:=aw w (cH 8 R A B I n)
 have P:=qa ((cD a hp).below h c) 5 [] Y 0 hq d rfl (fun f=>absurd f ac) (fun i hi=>absurd hi ac) room;have HB:=hide c;exact rX
theorem IH (h:(cD a hp).J F S w)(R B I:Int)(A n:Nat)(m:A<12)(hn:n<=12)(hq:MZ S.q+MZ S.r<=90000)(o:S.gh a=K->∃G,i4 (S.k5 a) (S.dN a) G/\G 0 (S.k5 a,0))(room:(S.room a (1+n)).1=0->(S.room a (1+n)).2.s.y+1+n<=a.N):
 Calls Ng 57 #[aq hp,eb 5 R A B I n] w fun e w'=>∃b,e=M6 (a8 #[ak (S.b_ a 2 (Ni n A)).1,ak (S.b_ a 2 (Ni n A)).2.1])/\(cD a hp).J b (S.b_ a 2 (Ni n A)).2.2 w'/\ch F w b w':=by
 have f:=(aw w (cH 5 R A B I n)).alloc ac (M5 #[U M4 (A:Int)] 3)
 have k:=aP (w.alloc (cH 5 R A B I n)) (M5 #[U M4 (A:Int)] 3)
 have p:(w.alloc (cH 5 R A B I n)).heap.size=w.heap.size+1:=ac;rw[p] at k;have hl:MZ (Ni n A)=n:=List.length_replicate;have hk:hc 2 (MZ (Ni n A))=0:=by rw[hl];rcases(show n=0\/n=1\/n=2\/n=3\/n=4\/n=5\/n=6\/n=7\/n=8\/n=9\/n=10\/n=11\/n=12 by omega) with e|e|e|e|e|e|e|e|e|e|e|e|e<;>(rw[e];rfl)
 have ad:=(cD a hp).below h f;have q:V (bj (w.alloc (cH 5 R A B I n)) (M5 #[U M4 (A:Int)] 3)) (av (w.heap.size+1) 0)=Z (ak (A:Int)):=by simp only [World.cell?,k];rfl
 have s:Calls Ng 124 #[H (au (w.heap.size+1)) 1 1,ak n] (bj (w.alloc (cH 5 R A B I n)) (M5 #[U M4 (A:Int)] 3)) fun e w'=>∃nb,e=M6 (H (au nb) n n)/\(0<n->w.heap.size+2<=nb/\w'.heap[nb]?=Z (M5 ((Ni n (A:Int)).map (Value.int M4)).toArray 3 (0,0)))/\C w.heap.size w w':=by
  by_cases h0:0<n
  ·refine(Iu _ (w.heap.size+1) n A h0 hn q).mono ?_;rintro e w' ⟨nb,rfl,g1,g2,g3⟩
   simp at g1;exact⟨nb,rfl,fun _=>⟨aa,g2⟩,f.trans (g3.mono (by simp;omega))⟩
  ·obtain rfl:n=0:=aa;refine(Iv _ (w.heap.size+1) A).mono ?_;rintro e w' ⟨nb,rfl,g3⟩
   exact⟨nb,rfl,fun c=>absurd c aa,f.trans (g3.mono (by simp;omega))⟩
 have u:∀d nb,C w.heap.size w d->(0<n->w.heap.size+2<=nb/\d.heap[nb]?=Z (M5 ((Ni n (A:Int)).map (Value.int M4)).toArray 3 (0,0)))->Calls Ng 123 #[aq hp,ak 2,H (au nb) n n] d fun e w'=>∃b,e=M6 (a8 #[ak (S.b_ a 2 (Ni n A)).1,ak (S.b_ a 2 (Ni n A)).2.1])/\(cD a hp).J b (S.b_ a 2 (Ni n A)).2.2 w'/\ch F w b w':=fun d nb hb hr=>by
  have P:=qa ((cD a hp).below h hb) 2 (Ni n A) (au nb) n hq o hk (fun c=>by
   rw[hl] at c;obtain⟨g1,g2⟩:=hr c;refine⟨nb,rfl,fun c=>by have:=(cD a hp).lt h _ c;omega,lt_of_some g2,fun i hi=>?_⟩
   rw[hl] at hi;have e:X (Ni n A) i 0=A:=by rw[aL,Dx hi];rfl
   rw[e];simp[World.cell?,g2,hi]) (fun i hi=>by
   rw[hl] at hi;rw[aL,Dx hi];exact m) (by rw[hl];exact room)
  rw[hl] at P;refine P.mono ?_;rintro e w' ⟨b,rfl,j,t⟩
  exact⟨b,rfl,j,(ch.of hb).trans t⟩
 have x:=hide u;generalize S.b_ a 2 (Ni n A)=g at*;obtain⟨v,cd,ag⟩:=g;go_enter func57,ntmps57;go_wp2_with fail;refine s.mono ?_;rintro e d ⟨nb,rfl,hr,hb⟩
 have P:=x.o d nb hb hr;go_wp2_with fail;refine P.mono ?_;rintro e ai ⟨N,rfl,W,ab⟩
 have l:=c8 W ab;go_wp2_with fail;go_ret2;exact⟨N,rfl,l.o.1,l.o.2⟩
theorem II (h:(cD a hp).J F S w)(R B I n:Int)(A:Nat)(f:A<12):
 Calls Ng 57 #[aq hp,eb 3 R A B I n] w fun e w'=>e=M6 (a8 #[ak (X S.s.rs A 0),ak 0])/\C w.heap.size w w':=by
 have b:=aw w (cH 3 R A B I n)
 have c:=aP w (M5 #[U M4 3,U M4 R,U M4 (A:Int),U M4 B,U M4 I,U M4 n] 44)
 have d:=(cD a hp).below h b;obtain⟨h0,c0,c3,rt,_⟩:=fw d;obtain⟨r1,_⟩:=rt A f;skip;obtain⟨q0,q1,j,q3,k,l⟩:=ez c;have fx:¬F w.heap.size:=fun g=>by have:=(cD a hp).lt h _ g;omega
 have i:=hide b;clear h d rt b c fx;generalize X S.s.rs A 0=x at*;go_enter func57,ntmps57
 go_upto_region 6 with fail
 go_quiet (fail)
 go_wp2_with fail;go_ret2;exact⟨rfl,below_drewN i.o _⟩
theorem IJ (h:(cD a hp).J F S w)(R B I n:Int)(A:Nat)(q:A<12)(hq:MZ S.q<=90000):
 Calls Ng 57 #[aq hp,eb 10 R A B I n] w fun e w'=>∃b,e=M6 (a8 #[ak (S.pop a (X S.s.rs A 0)).1,ak (S.pop a (X S.s.rs A 0)).2.1])/\(cD a hp).J b (S.pop a (X S.s.rs A 0)).2.2 w'/\ch F w b w':=by
 have c:=aw w (cH 10 R A B I n)
 have d:=aP w (M5 #[U M4 10,U M4 R,U M4 (A:Int),U M4 B,U M4 I,U M4 n] 44)
 have k:=(cD a hp).below h c;obtain⟨h0,c0,c3,rt,_⟩:=fw k;obtain⟨r1,_⟩:=rt A q;have l:=(cD a hp).below k (aH _ (w.alloc (cH 10 R A B I n))).drew;have s:=Ik l (X S.s.rs A 0) hq;obtain⟨q0,q1,ad,q3,ar,aB⟩:=ez d;have u:C w.heap.size w (w.alloc (cH 10 R A B I n)).drew:=c.trans ((aH _ (w.alloc (cH 10 R A B I n))).drew.mono c.size)
 have aF:(0:Int)<=(A:Int):=aa;have aR:(A:Int)<12:=aa;have ag:w.heap.size<(w.alloc (cH 10 R A B I n)).heap.size:=lt_of_some d;have fx:¬F w.heap.size:=fun ai=>by have:=(cD a hp).lt h _ ai;omega
 have N:aA ((cD a hp).J F S (w.alloc (cH 10 R A B I n)).drew/\C w.heap.size w (w.alloc (cH 10 R A B I n)).drew/\(w.alloc (cH 10 R A B I n)).drew.heap[w.heap.size]?=Z (cH 10 R A B I n)/\¬F w.heap.size):=⟨l,u,d,fx⟩
 have aV:aA (C w.heap.size w (w.alloc (cH 10 R A B I n))):=c;clear h k l rt c u d fx;have a0:aA (X S.s.rs A 0=X S.s.rs A 0):=rfl;have al:aA ((S.pop a (X S.s.rs A 0)).2.2.s.rs=S.s.rs):=IB a S (X S.s.rs A 0)
 generalize S.pop a (X S.s.rs A 0)=g at*;obtain⟨v,cd,am⟩:=g;dsimp only at*;go_enter func57,ntmps57
 go_upto_region 18 with fail
 generalize w.alloc (cH 10 R A B I n)=w0 at*;generalize an:w.heap.size=f at*;have ao:aA (∀b w' m,(cD a hp).J b m w'->ch F w0.drew b w'->m.s.rs=S.s.rs->(V w' ⟨hp,0,Y⟩=Z (bJ (Z ⟨a.pw,0,Y⟩))/\V w' ⟨a.pw,3,Y⟩=Z (H (Z ⟨a.nb,0,Y⟩) 12 12)/\V w' ⟨a.nb,A,Y⟩=Z (U M4 (X S.s.rs A 0)))/\V w' ⟨f,2,Y⟩=Z (U M4 (A:Int))):=fun b w' m j t ap=>by obtain⟨g0,_,g3,W,_⟩:=fw j;rw[ap] at W;exact⟨⟨g0,g3,(W A q).1⟩,(aQ (a:=⟨f,2,Y⟩) (t.fr.block f ag N.o.2.2.2)).trans ad⟩
 generalize X S.s.rs A 0=x at*
 go_region_held3 (fun w'=>V w' (av hp 0)=Z (aq a.pw)/\V w' (av a.pw 3)=Z (H (au a.nb) 12 12)/\V w' (av a.nb A)=Z (ak x)/\V w' (av f 2)=Z (ak (A:Int))) (go_keep)
  (first
    |(go_at_call 125;refine s.mono ?_;clear s;rintro e o ⟨i,rfl,j2,p⟩;obtain⟨⟨g0,g3,gr⟩,a1⟩:=ao.o i o _ j2 p al.o;have ab:aA ((cD a hp).J i am o/\ch F w i o):=⟨j2,(ch.of (by rw[an];exact N.o.2.1)).trans p⟩;clear j2 p))
 go_wp2_with fail;go_ret2;exact⟨i,rfl,ab.o.1,ab.o.2⟩
theorem IK (h:(cD a hp).J F S w)(R B I n:Int)(A:Nat)(k:A<12):
 Calls Ng 57 #[aq hp,eb 13 R A B I n] w fun e w'=>e=M6 (a8 #[ak (S.len a (X S.s.rs A 0)).1,ak (S.len a (X S.s.rs A 0)).2.1])/\C w.heap.size w w':=by
 have c:=aw w (cH 13 R A B I n)
 have d:=aP w (M5 #[U M4 13,U M4 R,U M4 (A:Int),U M4 B,U M4 I,U M4 n] 44)
 have g:=(cD a hp).below h c;obtain⟨h0,c0,c3,rt,_⟩:=fw g;obtain⟨r1,_⟩:=rt A k;have i:=(cD a hp).below g (aH _ (w.alloc (cH 13 R A B I n))).drew;have l:=Ij i (X S.s.rs A 0)
 obtain⟨q0,q1,o,q3,ab,ad⟩:=ez d;have b:C w.heap.size w (w.alloc (cH 13 R A B I n)).drew:=c.trans ((aH _ (w.alloc (cH 13 R A B I n))).drew.mono c.size)
 have ag:(0:Int)<=(A:Int):=aa;have ai:(A:Int)<12:=aa;have q:w.heap.size<(w.alloc (cH 13 R A B I n)).heap.size:=lt_of_some d;have fx:¬F w.heap.size:=fun s=>by have:=(cD a hp).lt h _ s;omega
 have j:aA ((cD a hp).J F S (w.alloc (cH 13 R A B I n)).drew/\C w.heap.size w (w.alloc (cH 13 R A B I n)).drew/\(w.alloc (cH 13 R A B I n)).drew.heap[w.heap.size]?=Z (cH 13 R A B I n)/\¬F w.heap.size):=⟨i,b,d,fx⟩
 have al:aA (C w.heap.size w (w.alloc (cH 13 R A B I n))):=c;clear h g i rt c b d fx;have am:aA (X S.s.rs A 0=X S.s.rs A 0):=rfl;generalize (S.len a (X S.s.rs A 0)).1=v at*;generalize (S.len a (X S.s.rs A 0)).2.1=cd at*;go_enter func57,ntmps57
 go_upto_region 22 with fail
 generalize w.alloc (cH 13 R A B I n)=w0 at*;generalize t:w.heap.size=f at*;have u:aA (∀w',C w0.drew.heap.size w0.drew w'->(V w' ⟨hp,0,Y⟩=Z (bJ (Z ⟨a.pw,0,Y⟩))/\V w' ⟨a.pw,3,Y⟩=Z (H (Z ⟨a.nb,0,Y⟩) 12 12)/\V w' ⟨a.nb,A,Y⟩=Z (U M4 (X S.s.rs A 0)))/\V w' ⟨f,2,Y⟩=Z (U M4 (A:Int))):=fun w' hb=>by
  obtain⟨g0,_,g3,N,_⟩:=fw ((cD a hp).below j.o.1 hb)
  exact⟨⟨g0,g3,(N A k).1⟩,(hb.cell (p:=av f 2) q).trans o⟩
 generalize X S.s.rs A 0=x at*
 go_region_held3 (fun w'=>V w' (av hp 0)=Z (aq a.pw)/\V w' (av a.pw 3)=Z (H (au a.nb) 12 12)/\V w' (av a.nb A)=Z (ak x)/\V w' (av f 2)=Z (ak (A:Int))) (go_keep)
  (first
    |(go_at_call 126;refine l.mono ?_;clear l;rintro e m ⟨rfl,b⟩;obtain⟨⟨g0,g3,gr⟩,an⟩:=u.o m b;have W:aA (C f w m):=j.o.2.1.trans (b.mono (by have:=j.o.2.1.size;omega));clear b))
 go_wp2_with fail;go_ret2;exact⟨rfl,by rw[t];exact W.o⟩
theorem IL (h:(cD a hp).J F S w)(R B I n:Int)(A:Nat)(k:A<12):
 Calls Ng 57 #[aq hp,eb 11 R A B I n] w fun e w'=>e=M6 (a8 #[ak (if eO a.N S.s.y S.s.g S.s.ws (X S.s.rs A 0) I=0 then ld a.N S.s.y S.s.g S.s.ws (cr (X S.s.rs A 0)+1+I) else 0),ak (eO a.N S.s.y S.s.g S.s.ws (X S.s.rs A 0) I)])/\C w.heap.size w w':=by
 have d:=aw w (cH 11 R A B I n)
 have f:=aP w (M5 #[U M4 11,U M4 R,U M4 (A:Int),U M4 B,U M4 I,U M4 n] 44)
 have i:=(cD a hp).below h d;obtain⟨h0,c0,c3,rt,_⟩:=fw i;obtain⟨r1,_⟩:=rt A k;have g:=(cD a hp).below i (aH _ (w.alloc (cH 11 R A B I n))).drew;have l:=Ew (X S.s.rs A 0) I (w.alloc (cH 11 R A B I n)).drew (fw g).c0 (l7 g).1;obtain⟨q0,q1,q,q3,s,ad⟩:=ez f;have c:C w.heap.size w (w.alloc (cH 11 R A B I n)).drew:=d.trans ((aH _ (w.alloc (cH 11 R A B I n))).drew.mono d.size)
 have ag:(0:Int)<=(A:Int):=aa;have ai:(A:Int)<12:=aa;have m:w.heap.size<(w.alloc (cH 11 R A B I n)).heap.size:=lt_of_some f;have fx:¬F w.heap.size:=fun t=>by have:=(cD a hp).lt h _ t;omega
 have j:aA ((cD a hp).J F S (w.alloc (cH 11 R A B I n)).drew/\C w.heap.size w (w.alloc (cH 11 R A B I n)).drew/\(w.alloc (cH 11 R A B I n)).drew.heap[w.heap.size]?=Z (cH 11 R A B I n)/\¬F w.heap.size):=⟨g,c,f,fx⟩
 have al:aA (C w.heap.size w (w.alloc (cH 11 R A B I n))):=d;clear h i g rt d c f fx;have am:aA (X S.s.rs A 0=X S.s.rs A 0):=rfl;generalize (if eO a.N S.s.y S.s.g S.s.ws (X S.s.rs A 0) I=0 then ld a.N S.s.y S.s.g S.s.ws (cr (X S.s.rs A 0)+1+I) else 0)=v at*;generalize eO a.N S.s.y S.s.g S.s.ws (X S.s.rs A 0) I=cd at*;go_enter func57,ntmps57
 go_upto_region 20 with fail
 generalize w.alloc (cH 11 R A B I n)=w0 at*;generalize u:w.heap.size=b at*;have N:aA (∀w',C w0.drew.heap.size w0.drew w'->(V w' ⟨hp,0,Y⟩=Z (bJ (Z ⟨a.pw,0,Y⟩))/\V w' ⟨a.pw,3,Y⟩=Z (H (Z ⟨a.nb,0,Y⟩) 12 12)/\V w' ⟨a.nb,A,Y⟩=Z (U M4 (X S.s.rs A 0)))/\V w' ⟨b,2,Y⟩=Z (U M4 (A:Int))/\V w' ⟨b,4,Y⟩=Z (U M4 I)):=fun w' hb=>by
  obtain⟨g0,_,g3,W,_⟩:=fw ((cD a hp).below j.o.1 hb)
  exact⟨⟨g0,g3,(W A k).1⟩,(hb.cell (p:=av b 2) m).trans q,(hb.cell (p:=av b 4) m).trans s⟩
 generalize X S.s.rs A 0=x at*
 go_region_held3 (fun w'=>V w' (av hp 0)=Z (aq a.pw)/\V w' (av a.pw 3)=Z (H (au a.nb) 12 12)/\V w' (av a.nb A)=Z (ak x)/\V w' (av b 2)=Z (ak (A:Int))/\V w' (av b 4)=Z (ak I)) (go_keep)
  (first
    |(go_at_call 45;refine l.mono ?_;clear l;rintro e o ⟨rfl,c⟩;obtain⟨⟨g0,g3,gr⟩,an,ao⟩:=N.o o c;have ab:aA (C b w o):=j.o.2.1.trans (c.mono (by have:=j.o.2.1.size;omega));clear c))
 go_wp2_with fail;go_ret2;exact⟨rfl,by rw[u];exact ab.o⟩
theorem IM (h:(cD a hp).J F S w)(R I n:Int)(A B:Nat)(j:A<12)(hB:B<12):
 Calls Ng 57 #[aq hp,eb 14 R A B I n] w fun e w'=>e=M6 (a8 #[ak (if X S.s.rs A 0=X S.s.rs B 0 then ew 1 1 else ew 1 0),ak 0])/\C w.heap.size w w':=by
 have d:=aw w (cH 14 R A B I n)
 have f:=aP w (M5 #[U M4 14,U M4 R,U M4 (A:Int),U M4 (B:Int),U M4 I,U M4 n] 44)
 have g:=(cD a hp).below h d;obtain⟨h0,c0,c3,rt,_⟩:=fw g;obtain⟨r1,_⟩:=rt A j;obtain⟨N,_⟩:=rt B hB;obtain⟨q0,q1,q,q3,W,ab⟩:=ez f;have c:C w.heap.size w (w.alloc (cH 14 R A B I n)).drew:=d.trans ((aH _ (w.alloc (cH 14 R A B I n))).drew.mono d.size)
 have ad:(0:Int)<=(A:Int):=aa;have ag:(A:Int)<12:=aa;have ai:(0:Int)<=(B:Int):=aa;have al:(B:Int)<12:=aa;have k:=Ii (X S.s.rs A 0) (X S.s.rs B 0) (w.alloc (cH 14 R A B I n)).drew;have l:w.heap.size<(w.alloc (cH 14 R A B I n)).heap.size:=lt_of_some f;have i:aA ((cD a hp).J F S (w.alloc (cH 14 R A B I n)).drew/\C w.heap.size w (w.alloc (cH 14 R A B I n)).drew/\(w.alloc (cH 14 R A B I n)).drew.heap[w.heap.size]?=Z (cH 14 R A B I n)):=⟨(cD a hp).below g (aH _ (w.alloc (cH 14 R A B I n))).drew,c,f⟩
 clear h g rt d c f;have am:aA (X S.s.rs A 0=X S.s.rs A 0):=rfl;generalize (if X S.s.rs A 0=X S.s.rs B 0 then ew 1 1 else ew 1 0)=v at*;go_enter func57,ntmps57
 go_upto_region 24 with fail
 generalize w.alloc (cH 14 R A B I n)=w0 at*;generalize s:w.heap.size=b at*;have t:aA (∀w',C w0.drew.heap.size w0.drew w'->(V w' ⟨hp,0,Y⟩=Z (bJ (Z ⟨a.pw,0,Y⟩))/\V w' ⟨a.pw,3,Y⟩=Z (H (Z ⟨a.nb,0,Y⟩) 12 12)/\V w' ⟨a.nb,A,Y⟩=Z (U M4 (X S.s.rs A 0))/\V w' ⟨a.nb,B,Y⟩=Z (U M4 (X S.s.rs B 0)))/\V w' ⟨b,2,Y⟩=Z (U M4 (A:Int))/\V w' ⟨b,3,Y⟩=Z (U M4 (B:Int))):=fun w' hb=>by
  obtain⟨g0,_,g3,m,_⟩:=fw ((cD a hp).below i.o.1 hb)
  exact⟨⟨g0,g3,(m A j).1,(m B hB).1⟩,(hb.cell (p:=av b 2) l).trans q,(hb.cell (p:=av b 3) l).trans q3⟩
 generalize X S.s.rs A 0=x at*;generalize X S.s.rs B 0=y at*
 go_region_held3 (fun w'=>V w' (av hp 0)=Z (aq a.pw)/\V w' (av a.pw 3)=Z (H (au a.nb) 12 12)/\V w' (av a.nb A)=Z (ak x)/\V w' (av a.nb B)=Z (ak y)/\V w' (av b 2)=Z (ak (A:Int))/\V w' (av b 3)=Z (ak (B:Int))) (go_keep)
  (first
    |(go_at_call 127;refine k.mono ?_;clear k;rintro e o ⟨rfl,c⟩;obtain⟨⟨g0,g3,gr,an⟩,ao,ap⟩:=t.o o c;have u:aA (C b w o):=i.o.2.1.trans (c.mono (by have:=i.o.2.1.size;omega));clear c))
 go_wp2_with fail;go_ret2;exact⟨rfl,by rw[s];exact u.o⟩
theorem IN (R A B I n:Int)(w:az)(hp:Nat):
 J Ng 57 #[aq hp,eb 2 R A B I n] w fun e w'=>e=M6 (a8 #[ak 2,ak 0])/\C w.heap.size w w':=by
 have b:=aw w (cH 2 R A B I n)
 go_enter func57,ntmps57;go_wp2_with fail;refine(sV _).mono ?_;rintro e w1 ⟨rfl,hw⟩
 have hw:=hw.symm;subst hw;go_wp2_with fail;go_ret2;exact⟨rfl,b⟩
theorem IP (h:(cD a hp).J F S w){j:Nat}(ok:d5 a S j)(hb:cO a S.s)(k R A B I n:Int)(hk:d7 k R A B n=0)(ad:k≠9)(ag:k≠12)(ai:k≠15)(al:k≠16):
 Calls Ng 57 #[aq hp,eb k R A B I n] w fun e w'=>∃i,e=M6 (a8 #[ak (S.rt a k (M A) (M B) I n).1,ak (S.rt a k (M A) (M B) I n).2.1])/\(cD a hp).J i (S.rt a k (M A) (M B) I n).2.2 w'/\ch F w i w':=by
 have hq:MZ S.q+MZ S.r<=90000:=by have:=ok.lE;omega
 have l:=ok.rL hb;have low:∀{Q:Int×Int×cw},(Calls Ng 57 #[aq hp,eb k R A B I n] w fun e w'=>e=M6 (a8 #[ak Q.1,ak Q.2.1])/\C w.heap.size w w')->Q.2.2=S->Calls Ng 57 #[aq hp,eb k R A B I n] w fun e w'=>∃i,e=M6 (a8 #[ak Q.1,ak Q.2.1])/\(cD a hp).J i Q.2.2 w'/\ch F w i w':=fun {Q} P e=>by
  refine P.mono ?_;rintro an w' ⟨rfl,hb⟩
  rw[e];exact⟨F,rfl,(cD a hp).below h hb,ch.of hb⟩
 have g:(dl k=3\/dl k=6\/dl k=7)->∃c:Nat,A=c/\c<12:=fun o=>by have:=lV hk o;exact⟨M A,aa,aa⟩
 have gE:(dl k=6\/dl k=7)->∃f:Nat,B=f/\f<12:=fun o=>by have:=mD hk o;exact⟨M B,aa,aa⟩
 have rm:∀m:Nat,m<=12->(S.room a (1+m)).1=0->(S.room a (1+m)).2.s.y+1+m<=a.N:=fun m hm e=>by have:=(ok.room hb (1+m)).2.2.1 e aa;omega
 unfold cw.rt;by_cases p:k=1
 ·rw[aJ p];subst p;exact low (GE R A B I n w hp) rfl
 rw[aI p];by_cases q:k=3
 ·rw[aJ q];subst q;obtain⟨c,rfl,d⟩:=g ae;rw[bI];exact low (II h R B I n c d) rfl
 rw[aI q];by_cases s:k=4
 ·rw[aJ s];subst s;obtain⟨c,rfl,d⟩:=g ae;obtain⟨f,rfl,hB⟩:=gE ae;rw[bI,bI];exact ID h R I n c f d hB hq l (rm 2 aa)
 rw[aI s];by_cases t:k=5
 ·rw[aJ t];subst t;obtain⟨c,rfl,d⟩:=g ae;have hn:hc 2 n=0:=A3 hk;have hn:=jo 2 n hn;obtain⟨n,rfl⟩:=bH (show 0<=n by omega)
  rw[bI];exact IH h R B I c n d aa hq l (rm n aa)
 rw[aI t];by_cases e6:k=6
 ·rw[aJ e6];subst e6;obtain⟨c,rfl,d⟩:=g ae;obtain⟨f,rfl,hB⟩:=gE ae;rw[bI,bI];exact IE h R I n c f d hB hq l (rm 2 aa)
 rw[aI e6];by_cases u:k=7
 ·rw[aJ u];subst u;obtain⟨c,rfl,d⟩:=g ae;obtain⟨f,rfl,hB⟩:=gE ae;rw[bI,bI];exact IF h R I n c f d hB hq l (rm 2 aa)
 rw[aI u];by_cases v:k=8
 ·rw[aJ v];subst v;exact IG h R A B I n hq l (rm 0 aa)
 rw[aI v];by_cases x:k=10
 ·rw[aJ x];subst x;obtain⟨c,rfl,d⟩:=g ae;rw[bI];exact IJ h R B I n c d aa
 rw[aI x];by_cases N:k=11
 ·rw[aJ N];subst N;obtain⟨c,rfl,d⟩:=g ae;rw[bI];exact low (IL h R B I n c d) rfl
 rw[aI N];by_cases W:k=13
 ·rw[aJ W];subst W;obtain⟨c,rfl,d⟩:=g ae;rw[bI];exact low (IK h R B I n c d) (by unfold cw.len;split<;>rfl)
 rw[aI W];by_cases ab:k=14
 ·rw[aJ ab];subst ab;obtain⟨c,rfl,d⟩:=g ae;obtain⟨f,rfl,hB⟩:=gE ae;rw[bI,bI];exact low (IM h R I n c f d hB) rfl
 rw[aI ab];have am:k=2:=by
  rcases qG k with b|b|b|b|b|b|b|b|b|b|b|b|b|b|b|b|b
  all_goals
   first
    |exact b
    |exact absurd b p
    |exact absurd b q
    |exact absurd b s
    |exact absurd b t
    |exact absurd b e6
    |exact absurd b u
    |exact absurd b v
    |exact absurd b ad
    |exact absurd b x
    |exact absurd b N
    |exact absurd b ag
    |exact absurd b W
    |exact absurd b ab
    |exact absurd b ai
    |exact absurd b al
    |(have o:=qH b;unfold d7 at hk;rw[aJ o] at hk;omega)
 subst am;exact low (IN R A B I n w hp) rfl
theorem qb (h:(cD a hp).J F S w):cO a S.s:=by obtain⟨c,b,_⟩:=kQ h;obtain⟨d,g1,_⟩:=nK b;obtain⟨_,_,_,_,_,rl,_⟩:=kt g1;have ha:=(lv g1).1;exact⟨ha.hN,ha.hN',ha.hO,ha.hy,ha.hg,ha.hl,rl⟩
theorem IQ (h:(cD a hp).J F S w)(x i z:Int)(hM:MZ S.s.M<=100000):
 Calls Ng 44 #[aq a.pw,ak x,ak i,ak z] w fun e w'=>∃b,e=M6 (ak (eO a.N S.s.y S.s.g S.s.ws x i))/\(cD a hp).J b (S.set a x i z) w'/\ch F w b w':=by
 obtain⟨l,c,_,d⟩:=kQ h;obtain⟨m,g1,g2⟩:=nK c;refine(FZ g1 x i z hM).mono ?_;rintro e w' ⟨rfl,f,g⟩
 obtain⟨n,j2,j⟩:=g2 _ _ _ f g;obtain⟨k,cI,t3⟩:=d _ _ _ j2 j;exact⟨k,rfl,cI,t3⟩
theorem IR {k R A B n:Int}(hc:d7 k R A B n=0)(b:k≠9)(c:k≠12)(e:k≠15)(f:k≠16):dl k=1\/dl k=3\/dl k=7:=by exact A7
theorem IS (k R A B I n:Int)(hc:d7 k R A B n≠0):
 J Ng 20 #[aq hp,eb k R A B I n] w fun e w'=>e=M6 (ak (d7 k R A B n))/\C w.heap.size w w':=by
 have c:=jX k R A B I n (w.alloc (cH k R A B I n))
 have b:=hide (aw w (cH k R A B I n))
 go_enter func20,ntmps20;go_wp2_with fail;refine c.mono ?_;rintro e w1 ⟨rfl,d⟩
 go_wp2_with fail;go_ret;exact⟨rfl,(b.o.trans (d.mono b.o.size))⟩
theorem IT (h:(cD a hp).J F S w)(R A B I n:Int)(hc:d7 15 R A B n=0)(hq:MZ S.q+MZ S.r<=90000):
 Calls Ng 20 #[aq hp,eb 15 R A B I n] w fun e w'=>∃b,e=M6 (ak (S.code a))/\(cD a hp).J b (S.cut a) w'/\ch F w b w':=by
 have PC:=jX 15 R A B I n (w.alloc (cH 15 R A B I n))
 rw[hc] at PC;have HJ:=g_ h (aw w (cH 15 R A B I n)) (aP w (M5 #[U M4 15,U M4 R,U M4 A,U M4 B,U M4 I,U M4 n] 44))
 have A6:aA (∀b w',(cD a hp).J b S w'->_):=fun b w' c=>AV c hq;generalize S.cut a=d at*;generalize S.code a=cd at*;go_enter func20,ntmps20;go_wp2_with fail;generalize w.alloc (cH 15 R A B I n)=w0 at*;exact A4
theorem IU (h:(cD a hp).J F S w)(R A B I n:Int)(hc:d7 16 R A B n=0)(hq:MZ S.q+MZ S.r<=90000)(c:S.gh a=K->∃G,i4 (S.k5 a) (S.dN a) G/\G 0 (S.k5 a,0)):
 Calls Ng 20 #[aq hp,eb 16 R A B I n] w fun e w'=>∃b,e=M6 (ak (S.i5 a))/\(cD a hp).J b (S.dH a) w'/\ch F w b w':=by
 have PC:=jX 16 R A B I n (w.alloc (cH 16 R A B I n))
 rw[hc] at PC;have HJ:=g_ h (aw w (cH 16 R A B I n)) (aP w (M5 #[U M4 16,U M4 R,U M4 A,U M4 B,U M4 I,U M4 n] 44))
 have A6:aA (∀b w',(cD a hp).J b S w'->_):=fun b w' d=>AW d hq c;generalize S.dH a=f at*;generalize S.i5 a=cd at*;go_enter func20,ntmps20;go_wp2_with fail;generalize w.alloc (cH 16 R A B I n)=w0 at*;exact A4
theorem IV (h:(cD a hp).J F S w)(R I n:Int)(A B:Nat)(v:A<12)(hB:B<12)(hc:d7 9 R A B n=0)(hr:MZ S.r<=90000)(hq:MZ S.q<=90000):
 Calls Ng 20 #[aq hp,eb 9 R A B I n] w fun e w'=>∃b,e=M6 (ak (S.reg a (X S.s.rs A 0) (X S.s.rs B 0)).1)/\(cD a hp).J b (S.reg a (X S.s.rs A 0) (X S.s.rs B 0)).2 w'/\ch F w b w':=by
 have N:=aw w (cH 9 R A B I n)
 have W:=aP w (M5 #[U M4 9,U M4 R,U M4 (A:Int),U M4 (B:Int),U M4 I,U M4 n] 44)
 have i:=jX 9 R A B I n (w.alloc (cH 9 R A B I n))
 rw[hc] at i;have d:aA ((cD a hp).J F S w/\C w.heap.size w (w.alloc (cH 9 R A B I n))/\(w.alloc (cH 9 R A B I n)).heap[w.heap.size]?=Z (cH 9 R A B I n)/\¬F w.heap.size):=⟨h,N,W,fun al=>by have:=(cD a hp).lt h _ al;omega⟩
 have a0:(0:Int)<=(A:Int):=aa;have a1:(A:Int)<12:=aa;have a2:(0:Int)<=(B:Int):=aa;have a3:(B:Int)<12:=aa;have am:aA (∀b w',(cD a hp).J b S w'->Calls Ng 56 #[aq hp,ak (X S.s.rs A 0),ak (X S.s.rs B 0)] w' fun e ab=>∃f,e=M6 (ak (S.reg a (X S.s.rs A 0) (X S.s.rs B 0)).1)/\(cD a hp).J f (S.reg a (X S.s.rs A 0) (X S.s.rs B 0)).2 ab/\ch b w' f ab):=fun b w' an=>Il an _ _ hr hq;have ao:aA ((S.reg a (X S.s.rs A 0) (X S.s.rs B 0)).2.s.rs=S.s.rs):=IC a S _ _;generalize S.reg a (X S.s.rs A 0) (X S.s.rs B 0)=g at*;obtain⟨cd,ap⟩:=g;dsimp only at*;clear h N hc W;go_enter func20,ntmps20;go_wp2_with fail;generalize w.alloc (cH 9 R A B I n)=w0 at*;generalize ar:w.heap.size=c at*;refine i.mono ?_;clear i;rintro e w1 ⟨rfl,k⟩
 have l:C w.heap.size w w1:=by rw[ar];exact d.o.2.1.trans (k.mono (by have:=lt_of_some d.o.2.2.1;omega))
 have m:=(k.block c (lt_of_some d.o.2.2.1)).trans d.o.2.2.1;obtain⟨q0,q1,aB,q3,a4,ba⟩:=ez m;have o:=(cD a hp).below d.o.1 l;obtain⟨h0,c0,c3,rt,_⟩:=fw o;obtain⟨r1,_⟩:=rt A v;obtain⟨bb,_⟩:=rt B hB;have ad:=(cD a hp).below o (aH _ w1).drew;have P:=am.o F w1.drew ad;have aF:aA (ch F w F w1.drew):=(ch.of l).below (aH _ w1).drew;have ag:=lt_of_some m;have aR:aA (∀b w' p,(cD a hp).J b p w'->ch F w1.drew b w'->p.s.rs=S.s.rs->(V w' (av hp 0)=Z (aq a.pw)/\V w' (av a.pw 3)=Z (H (au a.nb) 12 12)/\V w' (av a.nb A)=Z (ak (X S.s.rs A 0))/\V w' (av a.nb B)=Z (ak (X S.s.rs B 0)))/\V w' (av c 2)=Z (ak (A:Int))/\V w' (av c 3)=Z (ak (B:Int))):=fun b w' p j t aV=>by obtain⟨g0,_,g3,q,_⟩:=fw j;rw[aV] at q;exact⟨⟨g0,g3,(q A v).1,(q B hB).1⟩,(aQ (a:=⟨c,2,Y⟩) (t.fr.block c ag d.o.2.2.2)).trans aB,(aQ (a:=⟨c,3,Y⟩) (t.fr.block c ag d.o.2.2.2)).trans q3⟩
 clear k l o ad rt m;have bd:aA (X S.s.rs A 0=X S.s.rs A 0):=rfl;generalize X S.s.rs A 0=x at*;generalize X S.s.rs B 0=y at*;go_wp2_with fail
 go_region_held3 (fun w'=>V w' (av hp 0)=Z (aq a.pw)/\V w' (av a.pw 3)=Z (H (au a.nb) 12 12)/\V w' (av a.nb A)=Z (ak x)/\V w' (av a.nb B)=Z (ak y)/\V w' (av c 2)=Z (ak (A:Int))/\V w' (av c 3)=Z (ak (B:Int))) (go_keep)
  (first
    |(go_at_call 56;refine P.mono ?_;clear P;rintro e s ⟨f,rfl,j2,u⟩;obtain⟨⟨g0,g3,gr,be⟩,bg,bi⟩:=aR.o f s _ j2 u ao.o;have ai:aA ((cD a hp).J f ap s/\ch F w f s):=⟨j2,aF.o.trans u⟩;clear j2 u))
 go_wp2_with fail;go_ret;exact⟨f,rfl,ai.o.1,ai.o.2⟩
theorem IW (h:(cD a hp).J F S w)(R I n:Int)(A B:Nat)(v:A<12)(hB:B<12)(hc:d7 12 R A B n=0)(hM:MZ S.s.M<=100000):
 Calls Ng 20 #[aq hp,eb 12 R A B I n] w fun e w'=>∃c,e=M6 (ak (eO a.N S.s.y S.s.g S.s.ws (X S.s.rs A 0) I))/\(cD a hp).J c (S.set a (X S.s.rs A 0) I (X S.s.rs B 0)) w'/\ch F w c w':=by
 have N:=aw w (cH 12 R A B I n)
 have W:=aP w (M5 #[U M4 12,U M4 R,U M4 (A:Int),U M4 (B:Int),U M4 I,U M4 n] 44)
 have g:=jX 12 R A B I n (w.alloc (cH 12 R A B I n))
 rw[hc] at g;have d:aA ((cD a hp).J F S w/\C w.heap.size w (w.alloc (cH 12 R A B I n))/\(w.alloc (cH 12 R A B I n)).heap[w.heap.size]?=Z (cH 12 R A B I n)/\¬F w.heap.size):=⟨h,N,W,fun ai=>by have:=(cD a hp).lt h _ ai;omega⟩
 have a0:(0:Int)<=(A:Int):=aa;have a1:(A:Int)<12:=aa;have a2:(0:Int)<=(B:Int):=aa;have a3:(B:Int)<12:=aa;have al:aA (∀c w',(cD a hp).J c S w'->Calls Ng 44 #[aq a.pw,ak (X S.s.rs A 0),ak I,ak (X S.s.rs B 0)] w' fun e ab=>∃f,e=M6 (ak (eO a.N S.s.y S.s.g S.s.ws (X S.s.rs A 0) I))/\(cD a hp).J f (S.set a (X S.s.rs A 0) I (X S.s.rs B 0)) ab/\ch c w' f ab):=fun c w' am=>IQ am _ _ _ hM;have an:aA ((S.set a (X S.s.rs A 0) I (X S.s.rs B 0)).s.rs=S.s.rs):=rfl;generalize S.set a (X S.s.rs A 0) I (X S.s.rs B 0)=ao at*;generalize eO a.N S.s.y S.s.g S.s.ws (X S.s.rs A 0) I=cd at*;clear h N hc W;go_enter func20,ntmps20;go_wp2_with fail;generalize w.alloc (cH 12 R A B I n)=w0 at*;generalize ap:w.heap.size=b at*;refine g.mono ?_;clear g;rintro e w1 ⟨rfl,i⟩
 have k:C w.heap.size w w1:=by rw[ap];exact d.o.2.1.trans (i.mono (by have:=lt_of_some d.o.2.2.1;omega))
 have l:=(i.block b (lt_of_some d.o.2.2.1)).trans d.o.2.2.1;obtain⟨q0,q1,ar,q3,aB,a4⟩:=ez l;have m:=(cD a hp).below d.o.1 k;obtain⟨h0,c0,c3,rt,_⟩:=fw m;obtain⟨r1,_⟩:=rt A v;obtain⟨ba,_⟩:=rt B hB;have ad:=(cD a hp).below m (aH _ w1).drew;have P:=al.o F w1.drew ad;have aF:aA (ch F w F w1.drew):=(ch.of k).below (aH _ w1).drew;have o:=lt_of_some l;have aR:aA (∀c w' p,(cD a hp).J c p w'->ch F w1.drew c w'->p.s.rs=S.s.rs->(V w' (av hp 0)=Z (aq a.pw)/\V w' (av a.pw 3)=Z (H (au a.nb) 12 12)/\V w' (av a.nb A)=Z (ak (X S.s.rs A 0))/\V w' (av a.nb B)=Z (ak (X S.s.rs B 0)))/\V w' (av b 2)=Z (ak (A:Int))/\V w' (av b 3)=Z (ak (B:Int))/\V w' (av b 4)=Z (ak I)):=fun c w' p j t aV=>by obtain⟨g0,_,g3,q,_⟩:=fw j;rw[aV] at q;exact⟨⟨g0,g3,(q A v).1,(q B hB).1⟩,(aQ (a:=⟨b,2,Y⟩) (t.fr.block b o d.o.2.2.2)).trans ar,(aQ (a:=⟨b,3,Y⟩) (t.fr.block b o d.o.2.2.2)).trans q3,(aQ (a:=⟨b,4,Y⟩) (t.fr.block b o d.o.2.2.2)).trans aB⟩
 clear i k m ad rt l;have bb:aA (X S.s.rs A 0=X S.s.rs A 0):=rfl;generalize X S.s.rs A 0=x at*;generalize X S.s.rs B 0=y at*;go_wp2_with fail
 go_region_held3 (fun w'=>V w' (av hp 0)=Z (aq a.pw)/\V w' (av a.pw 3)=Z (H (au a.nb) 12 12)/\V w' (av a.nb A)=Z (ak x)/\V w' (av a.nb B)=Z (ak y)/\V w' (av b 2)=Z (ak (A:Int))/\V w' (av b 3)=Z (ak (B:Int))/\V w' (av b 4)=Z (ak I)) (go_keep)
  (first
    |(go_at_call 44;refine P.mono ?_;clear P;rintro e s ⟨f,rfl,j2,u⟩;obtain⟨⟨g0,g3,gr,bd⟩,be,bg,bi⟩:=aR.o f s _ j2 u an.o;have ag:aA ((cD a hp).J f ao s/\ch F w f s):=⟨j2,aF.o.trans u⟩;clear j2 u))
 go_wp2_with fail;go_ret;exact⟨f,rfl,ag.o.1,ag.o.2⟩
theorem IX (h:(cD a hp).J F S w)(k R A B I n:Int)(hc:d7 k R A B n=0)(k1:k≠9)(u:k≠12)(x:k≠15)(N:k≠16)(v cd:Int)(h0:cd≠0)(f:cw)
 (m:∀b w',(cD a hp).J b S w'->Calls Ng 57 #[aq hp,eb k R A B I n] w' fun e g=>∃F2,e=M6 (a8 #[ak v,ak cd])/\(cD a hp).J F2 f g/\ch b w' F2 g):
 Calls Ng 20 #[aq hp,eb k R A B I n] w fun e w'=>∃b,e=M6 (ak cd)/\(cD a hp).J b f w'/\ch F w b w':=by
 have i:=aw w (cH k R A B I n)
 have o:=aP w (M5 #[U M4 k,U M4 R,U M4 A,U M4 B,U M4 I,U M4 n] 44)
 have j:=jX k R A B I n (w.alloc (cH k R A B I n))
 rw[hc] at j;have c:=g_ ((cD a hp).below h i) i o;have p:=hide m;go_enter func20,ntmps20;go_wp2_with fail;generalize w.alloc (cH k R A B I n)=w0 at*;generalize q:w.heap.size=s at*;refine j.mono ?_;rintro e w1 ⟨rfl,d⟩
 have l:=c8 ((cD a hp).below c.o.1 d) (c.o.2.1.trans (d.mono (by have:=lt_of_some c.o.2.2;omega)))
 obtain⟨q0,q1,W,q3,ab,ad⟩:=ez ((d.block s (lt_of_some c.o.2.2)).trans c.o.2.2)
 go_wp2_with fail;refine(p.o F w1 l.o.1).mono ?_;rintro e ag ⟨F2,rfl,j2,t⟩
 have HF:=c8 j2 ((ch.of (by rw[q];exact l.o.2)).trans t)
 exact nW
theorem IY (h:(cD a hp).J F S w){j:Nat}(ok:d5 a S j)(t:j<=100000)(k R A B I n:Int):
 Calls Ng 20 #[aq hp,eb k R A B I n] w fun e w'=>∃i,e=M6 (ak (S.hd a k R A B I n).1)/\(cD a hp).J i (S.hd a k R A B I n).2 w'/\ch F w i w':=by
 have hb:=qb h;have u:=ok.lE;have hm:=ok.m;have hq:MZ S.q+MZ S.r<=90000:=aa;unfold cw.hd;by_cases hc:d7 k R A B n=0
 ·rw[aJ hc];by_cases b:k=9
  ·rw[aJ b];subst b;have l:=lV hc ae;have m:=mD hc ae;obtain⟨A,rfl⟩:=bH l.1;obtain⟨B,rfl⟩:=bH m.1;rw[bI,bI];exact IV h R I n A B aa aa hc aa aa
  rw[aI b];by_cases d:k=12
  ·rw[aJ d];subst d;have l:=lV hc ae;have m:=mD hc ae;obtain⟨A,rfl⟩:=bH l.1;obtain⟨B,rfl⟩:=bH m.1;rw[bI,bI];exact IW h R I n A B aa aa hc aa
  rw[aI d];by_cases f:k=15
  ·rw[aJ f];subst f;exact IT h R A B I n hc hq
  rw[aI f];by_cases e16:k=16
  ·rw[aJ e16];subst e16;exact IU h R A B I n hc hq (ok.rL hb)
  rw[aI e16];have q:=xz hc (IR hc b d f e16)
  obtain⟨R,rfl⟩:=bH q.1;rw[bI];have o:∀i w',(cD a hp).J i S w'->_:=fun i w' s=>IP s ok hb k R A B I n hc b d f e16;generalize S.rt a k (M A) (M B) I n=g at*;obtain⟨v,cd,p⟩:=g;by_cases c:cd=0
  ·rw[aJ c];subst c;exact Ip h k R A B I n aa hc b d f e16 v p o
  ·rw[aI c];exact IX h k R A B I n hc b d f e16 v cd c p o
 ·rw[aI hc];refine(IS k R A B I n hc).mono ?_;rintro e w' ⟨rfl,hb⟩
  exact⟨F,rfl,(cD a hp).below h hb,ch.of hb⟩
end
section
variable {w:az}{pw p q N O y g:Nat}{ws:List Int}{sd:Nat}{v0:Value}{a1:Option Addr}{k1:Nat}{Q:List cf}{l:List Int}{ra:Option Addr}{rc:Nat}
theorem IZ (hq:nF w pw p q N O y g ws sd v0 a1 k1 Q)(c3:V w (av pw 3)=Z (H ra (MZ l) rc))(hl:Lq w ra l)(hm:MZ l<=100000):
 J Ng 25 #[aq pw] w fun e w'=>∃an bb f ao o,e=M6 (bF #[H an (MZ l) bb,H f ao o])/\jc w' (I (G w)) an (i2 N y g ws Q l).1/\iH w' (I (G w)) f (i2 N y g ws Q l).2.2/\ao=MZ (i2 N y g ws Q l).2.2/\C (I (G w)) w w':=by
 have j:=aw w (M5 #[H Y 0 0,H Y 0 0] 60)
 have ap:=aP w (M5 #[H Y 0 0,H Y 0 0] 60)
 have ai:=hq.low j;have bd:=hl.kf (Kf.of (B:=0) j)
 have ar:=aT w _ c3;have aB:=(j.cell (p:=av pw 3) ar).trans c3;have be:I (G w)<I (G (bj w (M5 #[H Y 0 0,H Y 0 0] 60))):=ac;have P:=EY ai.c0 ai.ar;have b5:=hq.ar.hN';have b6:=hq.ar.hy;have ca:=hq.ar.hO;have cb:=hq.ar.hg;have bg:∀a∈eN N y g ws++dM N y g ws,0<=a/\a<2000:=fun a ha=>by
  rcases List.mem_append.1 ha with ha|ha
  ·have:=oG a ha;omega
  ·have:=qV a ha;omega
 have bi:MZ (eN N y g ws++dM N y g ws)<=100000:=by have t:MZ (eN N y g ws)<=2000:=je _ _;have cc:MZ (dM N y g ws)<=2000:=je _ _;simp;omega
 have bl:aA (∀(u cu:Nat)(w1:az),Wk (bj w (M5 #[H Y 0 0,H Y 0 0] 60)) w1 u cu pw (eN N y g ws++dM N y g ws) ([],[]) (H Y 0 0) []->J Ng 65 #[aq u,H ra (MZ l) rc] w1 fun e w'=>∃bn al a2 c2,e=M6 (H a2 (MZ l) c2)/\w'.ownsRow (I (G w1)) 97 2 (H a2 (MZ l) c2) (MZ l) (ev (i2 N y g ws Q l).1)/\Wk (bj w (M5 #[H Y 0 0,H Y 0 0] 60)) w' u cu pw (eN N y g ws++dM N y g ws) (i2 N y g ws Q l).2 bn al/\f4 (bj w (M5 #[H Y 0 0,H Y 0 0] 60)) w1 [] w' al/\(∀k,fT al k->Z k≠(Value.slice a2 (MZ l) c2).ownBlock)):=
  fun u cu w1 t=>zp (zq ai bg bi _) (ka _) t (fB.start _) ac l ra rc (bd.kf (Kf.of (B:=0) t.eX)) hm
 have aF:aA (MZ (i2 N y g ws Q l).1=MZ l):=og _ _ _ _;generalize i2 N y g ws Q l=R at*;obtain⟨cd,s⟩:=R;generalize eN N y g ws++dM N y g ws=T at*;go_enter func25,ntmps25;go_wp2_with fail;refine P.mono ?_;rintro e w1 ⟨u,cu,rfl,t⟩
 have bo:=(t.eX.cell (p:=av pw 3) (aO ar j.size)).trans aB;have am:=hide t;go_wp2_with fail;refine(bl.o u cu w1 am.o).mono ?_;rintro e w2 ⟨ce,m,a2,c2,rfl,F,d,aR,_⟩
 obtain⟨f,o,bp⟩:=eZ d.row;subst bp;have cf:=d.cells.2.2.1;have aV:=j.trans (d.eX.mono j.size)
 have n:=(d.eX.block _ be).trans ap;have y0:V w2 (av (I (G w)) 0)=Z (H Y 0 0):=aD n
 have y1:V w2 (av (I (G w)) 1)=Z (H Y 0 0):=aD n
 have cg:bO w2 (av (I (G w)) 0)=K:=aE n
 have ch:bO w2 (av (I (G w)) 1)=K:=aE n
 have l2:=lt_of_some n;have br:=c8 d F;have bs:=hide d.len;have bt:=hide aV;have a0:=hide n;have a3:I (G w)<=I (G w1):=by
  have:=am.o.eX.size;simp at this
  omega
 have bx:aA (∀k,fT m k->I (G w)<=k):=fun k hk=>(aR.2 k hk).elim (fun⟨x,ab,_⟩=>by cases ab) (fun b0=>aU a3 b0)
 clear d F aR aV n j ap bo aB am;go_wp2_with fail;obtain⟨S,hW0⟩:∃S,S=ay (ay w2 ⟨I (G w),0,Y⟩ (H a2 (MZ l) c2)) ⟨I (G w),1,Y⟩ (H f (MZ m) o):=⟨_,rfl⟩
 rw[<-hW0];have g0:V S (av (I (G w)) 0)=Z (H a2 (MZ l) c2):=by exact l5
 have g1:V S (av (I (G w)) 1)=Z (H f (MZ m) o):=by exact A8
 have W:Fr (fun k=>k=I (G w)) w2 S:=by rw[hW0];exact((Fr.refl (fun k=>k=I (G w)) w2).set (I (G w)) 0 _ rfl).set (I (G w)) 1 _ rfl
 obtain⟨d,F⟩:=br.o;have a4:∀{ad:Option Addr}{L:List (Int×Int)},fS w2 ad L->dA S ad L:=fun {ad L} h=>h.1.keep W.size (fun hp b e=>by
  obtain⟨b1,ci,cj,b2,hb⟩:=h.2 hp;rw[b2] at e;cases e;refine W.block _ (lt_of_some hb) (fun c=>?_)
  have c:b1=I (G w):=c;rw[c,a0.o] at hb;simp at hb)
 refine a6 (v:=bF #[H a2 (MZ l) c2,H f (MZ m) o]) (by simp[results,results25,go_sem,g0,g1]) rfl ⟨a2,c2,f,MZ m,o,rfl,⟨a4 (fS.of (by rw[aF.o];exact F)),fun hp=>?_⟩,⟨m,d.nd,fun x ab=>a4 (d.fl x ab),bx.o,fun hp=>?_⟩,bs.o,bt.o.trans (W.below (wI l2) (fun k e=>tQ (CX e)))⟩
 ·obtain⟨b,cap,e⟩:=eW F (by rw[<-aF.o];exact hp)
  cases e;exact⟨b,0,rfl,aU a3 (cv F b rfl).1⟩
 obtain⟨b,cap,e⟩:=eW d.row hp;cases e;have b3:=(cv d.row b rfl).1;simp at b3;obtain⟨ck,ag⟩:=fF d.row b rfl;have ba:b≠I (G w):=fun c=>by rw[c,a0.o] at ag;simp at ag
 refine⟨b,0,rfl,aa,aO (lt_of_some ag) W.size,fun i x ab=>?_⟩
 obtain⟨n1,b4⟩:=py m i x ab;rw[b7];exact⟨(aQ (a:=⟨b,i*2,Y⟩) (W.block b (lt_of_some ag) ba)).trans (iW d.row n1).1,(aQ (a:=⟨b,i*2+1,Y⟩) (W.block b (lt_of_some ag) ba)).trans (iW d.row b4).1⟩
end
theorem I0 (n o:Int)(w:az)(h:n<16\/256<n\/o<0\/1024<o):
 J Ng 18 #[ak n,ak o] w fun e w'=>e=M6 (a8 #[bJ Y,bF #[ak 1,ak (-1)]])/\C (I (G w)) w w':=by
 have g:=aP w (M5 #[U M4 0,U M4 0] 28)
 have P:=Gb n o (bj w (M5 #[U M4 0,U M4 0] 28)) h;go_enter func18,ntmps18;go_wp2_with fail;refine P.mono ?_;rintro e w1 ⟨rfl,d⟩
 have c:=(d.block (I (G w)) ac).trans g;have hB1:=(aw w (M5 #[U M4 0,U M4 0] 28)).trans (d.mono ac)
 have i:=d.size;simp at i;have y0:V w1 (av (I (G w)) 0)=Z (ak 0):=aD c
 have y1:V w1 (av (I (G w)) 1)=Z (ak 0):=aD c
 have m:bO w1 (av (I (G w)) 0)=K:=aE c
 have q:bO w1 (av (I (G w)) 1)=K:=aE c
 have l1:I (G w)<I (G w1):=aa;clear d g c;go_wp2_with fail
 go_region_law (fail)
 all_goals
  obtain⟨b,hW0⟩:∃b,b=ay (ay w1 ⟨I (G w),0,Y⟩ (U M4 1)) ⟨I (G w),1,Y⟩ (U M4 (-1)):=⟨_,rfl⟩
  rw[<-hW0];have s:I (G b)=I (G w1):=by rw[hW0];simp[World.setCell]
  have g0:V b (av (I (G w)) 0)=Z (ak 1):=by exact l5
  have g1:V b (av (I (G w)) 1)=Z (ak (-1)):=by exact qX
  have j:C (I (G w)) w b:=by exact uh
  have f:=(aw b (M5 #[U M4 1,U M4 (-1)] 28)).drew;have r0:=(f.cell (p:=av (I (G w)) 0) (by show I (G w)<_;omega)).trans g0;have r1:=(f.cell (p:=av (I (G w)) 1) (by show I (G w)<_;omega)).trans g1;have l:=j.trans (f.mono aa)
  generalize (bj b (M5 #[U M4 1,U M4 (-1)] 28)).drew=t at*;go_wp2_with fail;refine a6 (v:=a8 #[bJ Y,bF #[U M4 1,U M4 (-1)]]) (by simp[results,results18,go_sem,r0,r1]) rfl ⟨rfl,l⟩
theorem I1 (n o:Nat)(w:az)(h0:16<=n)(l:n<=256)(m:o<=1024):
 J Ng 18 #[ak n,ak o] w fun e w'=>∃hp,e=M6 (a8 #[aq hp,bF #[ak 0,ak 0]])/\C (I (G w)) w w':=by
 have g:=aw w (M5 #[U M4 0,U M4 0] 28)
 have P:=zs n o (bj w (M5 #[U M4 0,U M4 0] 28)) h0 l m;have i:=aP w (M5 #[U M4 0,U M4 0] 28)
 have t:I (G w)<I (G (bj w (M5 #[U M4 0,U M4 0] 28))):=ac;have j:=hide g;clear g;go_enter func18,ntmps18;go_wp2_with fail;generalize bj w (M5 #[U M4 0,U M4 0] 28)=w0 at*;generalize u:I (G w)=fb at*;refine P.mono ?_;clear P;rintro e w1 ⟨pw,p,q,pc,cU,s,nb,rfl,x,hs,hr,hg,d⟩
 have c:=(d.block fb t).trans i;have y0:V w1 (av fb 0)=Z (ak 0):=aD c
 have y1:V w1 (av fb 1)=Z (ak 0):=aD c
 have z0:bO w1 (av fb 0)=K:=aE c
 have W:bO w1 (av fb 1)=K:=aE c
 have B:=lt_of_some c;have F:=hide (j.o.trans (d.mono aa))
 clear x hs hr hg d i j c;go_wp2_with fail;obtain⟨b,hW1⟩:∃b,b=ay (ay w1 ⟨fb,0,Y⟩ (U M4 0)) ⟨fb,1,Y⟩ (U M4 0):=⟨_,rfl⟩
 rw[<-hW1];have v0:V b (av fb 0)=Z (ak 0):=by exact un
 have v1:V b (av fb 1)=Z (ak 0):=by exact zw
 have N:Fr (fun k=>k=fb) w1 b:=by rw[hW1];exact((Fr.refl (fun k=>k=fb) w1).set fb 0 _ rfl).set fb 1 _ rfl
 have ab:I (G b)=I (G w1):=by rw[hW1];simp
 clear hW1;have f:=(aw b (M5 #[U M4 0,U M4 0] 28)).alloc ac (M5 #[bJ (Z ⟨pw,0,Y⟩)] 49)
 have g0:=(f.cell (p:=av fb 0) (by show fb<_;omega)).trans v0;have g1:=(f.cell (p:=av fb 1) (by show fb<_;omega)).trans v1;have S:=F.o.trans (N.below (wI B) (fun k e=>tQ (CX e)))
 exact a6 (v:=a8 #[aq (I (G w1)+1),bF #[ak 0,ak 0]]) (by simp only [results,results18];simp[go_sem,g0,g1]) rfl ⟨I (G w1)+1,rfl,by rw[u];exact S.trans (f.mono aa)⟩
section
variable {a:Wc}{hp:Nat}{F:Nat->Prop}{S:cw}{w:az}
theorem I2 (h:(cD a hp).J F S w)(hq:MZ S.q<=90000):
 Calls Ng 25 #[aq a.pw] w fun e w'=>∃c b d f,e=M6 (bF #[H c 12 b,H d (MZ (i2 a.N S.s.y S.s.g S.s.ws S.q S.s.rs).2.2) f])/\jc w' (I (G w)) c (i2 a.N S.s.y S.s.g S.s.ws S.q S.s.rs).1/\iH w' (I (G w)) d (i2 a.N S.s.y S.s.g S.s.ws S.q S.s.rs).2.2/\C (I (G w)) w w':=by
 obtain⟨n,g,_⟩:=kQ h;obtain⟨o,g1,_⟩:=nK g;obtain⟨c0,_,c2,c3,_,rl,_,j⟩:=kt g1;obtain⟨p,ar,q,⟨s,ad,cap,⟨own,cU,hM,hO⟩,b,k,t,_⟩,r0,r1,u⟩:=g;have hl:Lq w (au a.nb) S.s.rs:=by
  have hr:=hM.rt;refine⟨fun _=>⟨a.nb,0,rfl,lt_of_some hr,fun i hi=>?_⟩,fun _=>⟨a.nb,0,_,rfl,hr⟩⟩
  rw[b7];exact(j i (by rw[<-rl];exact hi)).1
 have P:=IZ ⟨c0,c2,(lv g1).1,b,it k,hq⟩ (by rw[rl];exact c3) hl (by rw[rl];decide)
 rw[rl] at P;refine P.mono ?_;rintro e w' ⟨c,b,d,v,f,rfl,q1,l,rfl,m⟩
 exact⟨c,b,d,f,rfl,q1,l,m⟩
theorem I3 (h:(cD a hp).J F S w):Calls Ng 22 #[aq a.p] w fun e w'=>e=M6 (a8 #[ak S.s.y,ak S.s.g])/\C (I (G w)) w w':=
 lq w (l7 h).1
end
structure dE where
 A:List Bool
 td:List Int
 hd:Int->List (Int×Int)
 m:Nat
def ej (s:dE)(v:Int×Int):dE:=if d_ s.A v=D then s else {s with A:=s.A.set (M v.2) D,td:=s.td++[v.2]}
def dy (s:dE)(l:List (Int×Int)):dE:=l.foldl ej s
def lH (s:dE)(k v:Int×Int):dE:=if d_ s.A k=D then ej s v else {s with hd:=fun x=>if x=k.2 then s.hd x++[v] else s.hd x,m:=s.m+1}
def g6 (T:List cJ)(wt:List cf)(s:dE)(i:Int):dE:=
 if(X T (M i) t0).1=1\/(X T (M i) t0).1=2 then dy s (X T (M i) t0).2.1
 else if(X T (M i) t0).1=3 then ej s (X (X T (M i) t0).2.1 1 (0,0))
 else if(X T (M i) t0).1=4 then lH s (X (X T (M i) t0).2.1 0 (0,0)) (X (X T (M i) t0).2.1 1 (0,0))
 else if(X T (M i) t0).1=5 then dy s ((eK wt i).map fun x=>(3,x)) else s
def hL (T:List cJ)(wt:List cf)(s:dE)(i:Int):dE:=dy (g6 T wt s i) ((g6 T wt s i).hd i)
theorem A9 (s:dE)(l:List (Int×Int))(v:Int×Int):dy s (l++[v])=ej (dy s l) v:=by simp[dy,List.foldl_append]
def qc (T:List cJ)(wt:List cf)(s:dE)(P:Int->Prop)(i:Nat):Prop:=
 ((X T i t0).1≠4->∀v,jv T wt (fun _=>True) i v->v.1=3->cx s.A (M v.2))/\
 ((
   X T i t0).1=4->((X (X T i t0).2.1 0 (0,0)).1=3/\(¬cx s.A (M (X (X T i t0).2.1 0 (0,0)).2)\/P (X (X T i t0).2.1 0 (0,0)).2)/\X (X T i t0).2.1 1 (0,0)∈s.hd (X (X T i t0).2.1 0 (0,0)).2)\/
   ((X (X T i t0).2.1 1 (0,0)).1=3->cx s.A (M (X (X T i t0).2.1 1 (0,0)).2)))
structure ff (T:List cJ)(wt:List cf)(is:List Bool)(s:dE)(E:List Int):Prop where
 len:MZ s.A=MZ T
 al:∀k,cx s.A k->cA T k
 lt:∀X,ic T wt X->(∀k,cx is k->X k)->∀k,cx s.A k->X k
 td:∀x,x∈E\/x∈s.td->0<=x/\cx s.A (M x)
 hd:∀x v,v∈s.hd x->∃i,cx s.A i/\(T.getD i t0).1=4/\(T.getD i t0).2.1.getD 0 (0,0)=(3,x)/\v=(T.getD i t0).2.1.getD 1 (0,0)
 dr:∀i:Nat,cx s.A i->¬((i:Int)∈E\/(i:Int)∈s.td)->qc T wt s (fun x=>x∈E\/x∈s.td) i
section
variable {T:List cJ}{wt:List cf}{is:List Bool}{s:dE}{E:List Int}
theorem A_ {L:List Bool}{i k:Nat}(h:cx L k):cx (L.set i D) k:=by grind [cx]
theorem qd (s:dE)(v:Int×Int){k:Nat}(h:cx s.A k):cx (ej s v).A k:=by grind [A_,ej]
theorem vd (s:dE)(v:Int×Int)(b:v.1=3)(hl:M v.2<MZ s.A):cx (ej s v).A (M v.2):=by grind [ni,ej,cx]
theorem rY (s:dE)(v:Int×Int):MZ (ej s v).A=MZ s.A:=by grind [ej]
theorem nY (s:dE)(v:Int×Int):(ej s v).hd=s.hd/\(ej s v).m=s.m:=by grind [ej]
theorem I4 (s:dE)(v:Int×Int){x:Int}(h:x∈s.td):x∈(ej s v).td:=by grind [ej]
theorem I5 (s:dE)(v:Int×Int)(hv:v.1=3->0<=v.2){k:Nat}(h:cx (ej s v).A k):cx s.A k\/(k:Int)∈(ej s v).td:=by grind [ej,d_,cx]
theorem jF (s:dE)(l:List _):(dy s l).hd=s.hd/\(dy s l).m=s.m/\MZ (dy s l).A=MZ s.A:=by
 induction l generalizing s with
 |nil=>exact⟨rfl,rfl,rfl⟩
 |cons v l b=>
  have h:=b (ej s v)
  exact⟨h.1.trans (nY s v).1,h.2.1.trans (nY s v).2,h.2.2.trans (rY s v)⟩
theorem kZ (s:dE)(l:List _){k:Nat}(h:cx s.A k):cx (dy s l).A k:=by
 induction l generalizing s with
 |nil=>exact h
 |cons v l b=>exact b (ej s v) (qd s v h)
theorem I6 (s:dE)(l:List _){x:Int}(h:x∈s.td):x∈(dy s l).td:=by
 induction l generalizing s with
 |nil=>exact h
 |cons v l b=>exact b (ej s v) (I4 s v h)
theorem vf (s:dE)(l:List _)(hl:∀v∈l,v.1=3->M v.2<MZ s.A):∀v∈l,v.1=3->cx (dy s l).A (M v.2):=by
 induction l generalizing s with
 |nil=>grind
 |cons u l b=>
  intro v hv c;rcases List.mem_cons.1 hv with e|hv
  ·exact kZ (ej s u) l (by grind [vd])
  ·exact b (ej s u) (by grind [rY]) v hv c
theorem I7 (s:dE)(l:List _)(hl:∀v∈l,v.1=3->0<=v.2){k:Nat}(h:cx (dy s l).A k):cx s.A k\/(k:Int)∈(dy s l).td:=by
 induction l generalizing s with
 |nil=>exact aM h
 |cons v l b=>
  rcases b (ej s v) (by grind) h with c|c
  ·rcases I5 s v (by grind) c with c|c
   ·grind
   ·exact aK (I6 (ej s v) l c)
  ·exact aK c
theorem qc.mono {s d:dE}{P e:Int->Prop}{i:Nat}(h:qc T wt s P i)(f:∀k,cx s.A k->cx d.A k)(j:∀x:Int,0<=x->cx d.A (M x)->¬cx s.A (M x)->e x)(l:∀x,P x->e x)(m:∀x v,v∈s.hd x->v∈d.hd x)(h0:(X T i t0).1=4->(X (X T i t0).2.1 0 (0,0)).1=3->0<=(X (X T i t0).2.1 0 (0,0)).2):qc T wt d e i:=by
 refine⟨fun hk v hv g=>f _ (h.1 hk v hv g),fun hk=>?_⟩
 rcases h.2 hk with⟨a,b,c⟩|a
 all_goals grind
theorem mf (b:ey T wt){i:Nat}(hi:cA T i)(hk:(X T i t0).1=4)(j:Nat)(c:j<2):(X (X T i t0).2.1 j (0,0)).1=3->0<=(X (X T i t0).2.1 j (0,0)).2/\cA T (M (X (X T i t0).2.1 j (0,0)).2):=fun d=>
 b.fv i hi _ (getD_in ((b.fl i hi (aK hk)▸c))) d
theorem vg {s:dE}{v:Int×Int}(h:d_ s.A v=D):ej s v=s:=by grind [ej]
theorem rZ {s:dE}{v:Int×Int}(h:d_ s.A v=K):ej s v={s with A:=s.A.set (M v.2) D,td:=s.td++[v.2]}:=by grind [ej]
theorem ff.mark (h:ff T wt is s E)(e:ey T wt)(v:Int×Int)(hv:v.1=3->0<=v.2/\cA T (M v.2))(l:v.1=3->∀X,ic T wt X->(∀k,cx is k->X k)->X (M v.2)):ff T wt is (ej s v) E:=by
 cases hi:d_ s.A v
 ·obtain⟨c,m⟩:=nh hi;obtain⟨v0,f⟩:=hv c;have hl:M v.2<MZ s.A:=(h.len▸f.1)
  have n:∀k,cx (ej s v).A k↔M v.2=k\/cx s.A k:=fun k=>by grind [rZ,cx]
  have g:∀x,x∈(ej s v).td↔x∈s.td\/x=v.2:=fun x=>by grind [rZ]
  refine⟨(rY s v).trans h.len,fun k hk=>?_,fun X o hb k hk=>?_,fun x b=>?_,fun x u j=>?_,fun i p hn=>?_⟩
  ·grind [al]
  ·grind [lt]
  ·rcases b with b|b
   ·exact⟨(h.td x (by grind)).1,qd s v (h.td x (by grind)).2⟩
   ·rcases(g x).1 b with b|b
    ·exact⟨(h.td x (by grind)).1,qd s v (h.td x (by grind)).2⟩
    grind
  ·rw[(nY s v).1] at j
   grind [hd]
  ·have d:cx s.A i:=by grind
   refine(h.dr i d (by grind)).mono (by grind) (fun x q ha hb=>?_) (by grind) (by grind [nY]) (fun hk c=>(mf e (h.al i d) hk 0 ae c).1)
   grind
 grind [vg]
theorem ff.marks (h:ff T wt is s E)(c:ey T wt)(l:List _)(hv:∀v∈l,v.1=3->0<=v.2/\cA T (M v.2))(d:∀v∈l,v.1=3->∀X,ic T wt X->(∀k,cx is k->X k)->X (M v.2)):ff T wt is (dy s l) E:=by
 induction l generalizing s with
 |nil=>exact h
 |cons v l b=>exact b (by grind [mark]) (by grind) (by grind)
theorem Ba (s:dE)(v:Int×Int)(hv:v.1=3->M v.2<MZ s.A):MZ (ej s v).td+cnt (ej s v).A=MZ s.td+cnt s.A:=by
 cases hi:d_ s.A v
 ·obtain⟨b,c⟩:=nh hi;have d:=tc s.A (M v.2) (by simp_all)
  rw[rZ hi]
  grind
 ·rw[vg hi]
theorem qe (s:dE)(l:List _)(hl:∀v∈l,v.1=3->M v.2<MZ s.A):MZ (dy s l).td+cnt (dy s l).A=MZ s.td+cnt s.A:=by
 induction l generalizing s with
 |nil=>rfl
 |cons v l b=>exact(b (ej s v) (by grind [rY])).trans (Ba s v (by grind))
theorem ff.pop {t:List Int}{x:Int}(h:ff T wt is s [])(b:ey T wt)(e:s.td=t++[x]):ff T wt is {s with td:=t} [x]:=by
 have hm:∀y,(y∈[x]\/y∈t)↔(y∈([]:List Int)\/y∈s.td):=fun y=>by grind
 exact⟨h.len,h.al,h.lt,fun y hy=>h.td y (by grind),h.hd,fun i hi hn=>(h.dr i hi (by grind)).mono (by grind) (by grind) (by grind) (by grind) (fun hk c=>(mf b (h.al i hi) hk 0 ae c).1)⟩
theorem ff.hold {i n:Nat}{x:Int}{u:Int×Int}(h:ff T wt is s E)(c:ey T wt)(hi:cx s.A i)(hk:(X T i t0).1=4)(h0:X (X T i t0).2.1 0 (0,0)=(3,x))(e:X (X T i t0).2.1 1 (0,0)=u):
 ff T wt is {s with hd:=fun y=>if y=x then s.hd y++[u] else s.hd y,m:=n} E:=by
 refine⟨h.len,h.al,h.lt,h.td,fun y v hv=>?_,fun j b hn=>(h.dr j b hn).mono (by grind) (by grind) (by grind) (fun y v hv=>?_) (fun hk d=>(mf c (h.al j b) hk 0 ae d).1)⟩
 all_goals grind [hd]
theorem ff.drop {i:Nat}(h:ff T wt is s [(i:Int)])(f:¬(i:Int)∈s.td->qc T wt s (fun x=>x∈s.td) i)(g:∀v∈s.hd i,v.1=3->cx s.A (M v.2)):ff T wt is s []:=by
 refine⟨h.len,h.al,h.lt,fun x k=>h.td x (by grind),h.hd,fun j d hn=>?_⟩
 have hn:_:=fun c=>hn (aK c)
 by_cases e:j=i
 ·simp_all
 ·have:=h.dr j d (by grind)
  refine⟨this.1,fun hk=>?_⟩
  rcases this.2 hk with⟨a,b,c⟩|a
  all_goals grind
theorem vh {i x:Int}:x∈eK wt i↔(∃e∈wt,e.1=i/\x=e.2):=by simp_all [eK]
theorem ff.list {i:Nat}(h:ff T wt is s [(i:Int)])(c:ey T wt)(hi:cx s.A i)(l:List _)(hl:∀v∈l,jv T wt (cx s.A) i v):ff T wt is (dy s l) [(i:Int)]/\∀v∈l,v.1=3->cx (dy s l).A (M v.2):=
 ⟨h.marks c l (fun v hv b=>c.px (h.al i hi) (hl v hv) b) (fun v hv b X d hb=>d i (h.al i hi).1 (by grind [lt]) v (by grind [jv.mono,lt]) b),
  vf s l (fun v hv b=>(h.len▸(c.px (h.al i hi) (hl v hv) b).2.1))⟩
theorem ff.free {i:Nat}(h:ff T wt is s [(i:Int)])(f:ey T wt)(hi:cx s.A i):ff T wt is (dy s (s.hd i)) [(i:Int)]/\(∀v∈s.hd i,v.1=3->cx (dy s (s.hd i)).A (M v.2))/\(∀v∈s.hd i,v.1=3->0<=v.2/\M v.2<MZ s.A):=by
 have ho:∀v∈s.hd i,v.1=3->0<=v.2/\cA T (M v.2):=fun v hv d=>by obtain⟨j,a,b,c,e⟩:=h.hd _ _ hv;rw[e] at d⊢;exact mf f (h.al j a) b 1 ae d
 refine⟨h.marks f _ ho (fun v hv d X g hb=>?_),vf s _ (fun v hv d=>(h.len▸(ho v hv d).2.1)),fun v hv d=>⟨(ho v hv d).1,(h.len▸(ho v hv d).2.1)⟩⟩
 obtain⟨j,a,b,c,e⟩:=h.hd _ _ hv;refine g j (h.al j a).1 (by grind [lt]) v (aK (aK (aM ⟨b,fun _=>?_,e⟩))) d
 grind [lt]
structure Bb (T:List cJ)(wt:List cf)(is:List Bool)(s s':dE):Prop where
 mi:ff T wt is s' []
 mm:s'.m<=s.m+1
 td:MZ s'.td+cnt s'.A=MZ s.td+cnt s.A
 up:∀k,cx s.A k->cx s'.A k
theorem r5 {i:Nat}(h:ff T wt is s [(i:Int)])(d:ey T wt)(hi:cx s.A i)(hk:(X T i t0).1≠4)(l:List _)(e:∀v∈l,jv T wt (cx s.A) i v)(f:∀v,jv T wt (fun _=>True) i v->v∈l):
 Bb T wt is s (dy (dy s l) ((dy s l).hd i)):=by
 obtain⟨a1,a2⟩:=h.list d hi l e;obtain⟨b1,b2,b3⟩:=a1.free d (kZ s l hi)
 refine⟨b1.drop (fun _=>⟨fun _ v hv b=>kZ _ _ (a2 v (f v hv) b),fun c=>absurd c hk⟩) (fun v hv=>?_),?_,?_,fun k hk=>kZ _ _ (kZ _ _ hk)⟩
 ·rw[(jF _ _).1] at hv;exact b2 v hv
 ·rw[(jF _ _).2.1,(jF _ _).2.1];omega
 ·rw[qe _ _ (fun v hv b=>(b3 v hv b).2),qe _ _ (fun v hv b=>by rw[h.len];exact(d.px (h.al i hi) (e v hv) b).2.1)]
theorem ff.look {i:Nat}(h:ff T wt is s [(i:Int)])(b:ey T wt)(hi:cx s.A i):Bb T wt is s (hL T wt s i):=by
 have o:=h.al i hi;unfold hL g6;rw[bI];by_cases k1:(X T i t0).1=1\/(X T i t0).1=2
 ·rw[aJ k1];refine r5 h b hi aa _ (fun v hv=>aM ⟨k1,hv⟩) (fun v hv=>?_)
  rcases hv with c|c|c|c
  ·exact c.2
  ·exact absurd c.1 aa
  ·exact absurd c.1 aa
  ·exact absurd c.1 aa
 rw[aI k1];by_cases g:(X T i t0).1=3
 ·rw[aJ g];refine r5 h b hi aa [_] (fun v hv=>aK (aM ⟨g,by simpa using hv⟩)) (fun v hv=>?_)
  rcases hv with c|c|c|c
  ·exact absurd c.1 aa
  ·rw[c.2];simp
  ·exact absurd c.1 aa
  ·exact absurd c.1 aa
 rw[aI g];by_cases d:(X T i t0).1=4
 ·rw[aJ d];unfold lH;cases hk:d_ s.A _
  ·obtain⟨q3,q⟩:=nh hk;rw[aI ae];have t:X (X T i t0).2.1 0 (0,0)=(3,(X (X T i t0).2.1 0 (0,0)).2):=by rw[<-q3]
   obtain⟨b1,b2,b3⟩:=(h.hold (n:=s.m+1) b hi d t rfl).free b hi;refine⟨b1.drop (fun _=>⟨fun c=>absurd d c,fun _=>aM ⟨q3,?_,?_⟩⟩) (fun v hv=>?_),?_,?_,fun k hk=>kZ _ _ hk⟩
   ·by_cases c:cx (dy {s with hd:=fun y=>if y=(X (X T i t0).2.1 0 (0,0)).2 then s.hd y++[X (X T i t0).2.1 1 (0,0)] else s.hd y,m:=s.m+1} ((fun y=>if y=(X (X T i t0).2.1 0 (0,0)).2 then s.hd y++[X (X T i t0).2.1 1 (0,0)] else s.hd y) (i:Int))).A (M (X (X T i t0).2.1 0 (0,0)).2)
    ·right;rcases I7 _ _ (fun v hv f=>(b3 v hv f).1) c with c|c
     ·exact absurd c (by unfold cx;rw[q];decide)
     ·have:=(mf b o d 0 ae q3).1;rwa [Int.toNat_of_nonneg this] at c
    ·exact aM c
   ·rw[(jF _ _).1];dsimp only;rw[aJ rfl];exact bq _ ac
   ·rw[(jF _ _).1] at hv;exact b2 v hv
   ·rw[(jF _ _).2.1];exact aG _
   ·rw[qe _ _ (fun v hv f=>(b3 v hv f).2)]
  ·rw[aJ rfl];have p:∀v∈[X (X T i t0).2.1 1 (0,0)],jv T wt (cx s.A) i v:=fun v hv=>aK (aK (aM ⟨d,fun c=>ni hk c,by simpa using hv⟩))
   obtain⟨a1,a2⟩:=h.list b hi _ p;obtain⟨b1,b2,b3⟩:=a1.free b (kZ s _ hi)
   refine⟨b1.drop (fun _=>⟨fun c=>absurd d c,fun _=>aK (fun c=>kZ _ _ (a2 _ ac c))⟩) (fun v hv=>?_),?_,?_,fun k hk=>kZ _ _ (kZ s [_] hk)⟩
   ·rw[(jF _ _).1] at hv;exact b2 v hv
   ·show(dy (dy s [_]) _).m<=_;rw[(jF _ _).2.1,(jF _ _).2.1];omega
   ·rw[show ej s (X (X T i t0).2.1 1 (0,0))=dy s [X (X T i t0).2.1 1 (0,0)] from rfl];rw[qe _ _ (fun v hv f=>(b3 v hv f).2),qe _ _ (fun v hv f=>by rw[h.len];exact(b.px o (p v hv) f).2.1)]
 rw[aI d];by_cases k5:(X T i t0).1=5
 ·rw[aJ k5];refine r5 h b hi d _ (fun v hv=>?_) (fun v hv=>?_)
  ·obtain⟨x,u,rfl⟩:=fo.1 hv;obtain⟨e,j,l,rfl⟩:=vh.1 u;exact aK (aK (aK ⟨k5,e,j,l,rfl⟩))
  ·rcases hv with c|c|c|c
   ·exact absurd c.1 aa
   ·exact absurd c.1 aa
   ·exact absurd c.1 aa
   ·obtain⟨_,e,j,l,rfl⟩:=c;exact fo.2 ⟨e.2,vh.2 ⟨e,j,l,rfl⟩,rfl⟩
 ·rw[aI k5];refine r5 h b hi d [] (fun v hv=>by cases hv) (fun v hv=>?_)
  rcases hv with c|c|c|c
  ·exact absurd c.1 k1
  ·exact absurd c.1 g
  ·exact absurd c.1 d
  ·exact absurd c.1 k5
theorem ff.done (h:ff T wt is s [])(e:s.td=[])(hl:MZ is=MZ T)(g:∀k,cx is k->cx s.A k):ow T wt is s.A:=by
 refine⟨h.len.trans hl.symm,g,fun i _ j v hv d=>?_,h.lt⟩
 have hd:=h.dr i j (by rw[e];simp)
 by_cases f:(X T i t0).1=4
 ·rcases hv with c|c|c|c
  ·exact absurd c.1 aa
  ·exact absurd c.1 aa
  ·rcases hd.2 f with⟨a,b,_⟩|a
   ·rcases b with b|b
    ·exact absurd (c.2.1 a) b
    ·rw[e] at b;simp at b
   ·rw[c.2.2] at d⊢;exact a d
  ·exact absurd c.1 aa
 ·exact hd.1 f v (hv.mono (fun _ _=>trivial)) d
theorem ff.base (h:ff T wt is s []){b:List Bool}(c:∀k,cx s.A k->cx b k):ff T wt b s []:=⟨h.len,h.al,fun _ _ hb k hk=>hb k (c k hk),h.td,h.hd,h.dr⟩
theorem ff.start (T:List cJ)(wt:List cf)(is:List Bool):ff T wt is ⟨Ni (MZ T) K,[],fun _=>[],0⟩ []:=by
 have hn:∀k,¬cx (Ni (MZ T) K) k:=fun k hk=>by unfold cx at hk;rw[aL,List.getElem?_replicate] at hk;split at hk<;>cases hk
 exact⟨ac,fun k hk=>absurd hk (hn k),fun _ _ _ k hk=>absurd hk (hn k),fun x b=>absurd b ac,fun x v hv=>absurd hv ac,fun i hi=>absurd hi (hn i)⟩
end
end Go.Proofs.YtpkjkjhanlbcoaaGreat
