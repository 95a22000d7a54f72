import Derived.Test.YtpkjkjhanlbcoaaGreatJ15
import Derived.Maps.RangeWalk
open Array renaming size->I
open Bool renaming false->K,true->ML
open Eq renaming symm->CB
open Go renaming Calls->J,Value->bj
open Go.Ending renaming returned->MD
open Go.IntKind renaming i64->MC
open Go.Obj renaming cells->ME
open Go.Proofs.Tryz renaming prog->MO
open Go.RowKit renaming Below->C
open Go.Value renaming agg->bF,int->U,pointer->bL,slice->H,tuple->a6
open Go.World renaming alloc->bE,cell?->V,frozen?->bO,heap->G,setCell->ay
open Int renaming eq_ofNat_of_zero_le->bG,toNat->M,toNat_natCast->bH
open List renaming getD->X,getElem?_replicate_of_lt->En,length->Mx,mem_map->b7,replicate->MQ
open Nat renaming le_of_eq->tF,le_of_lt->yB,zero_add->bZ
open Option renaming none->MH,none->Y,some->Z
open Option.some renaming inj->p4
namespace Go.Proofs.YtpkjkjhanlbcoaaGreat
set_option maxRecDepth 100000
set_option maxHeartbeats 2000000
open Tryz
open Go.RowKit W Kp cq
theorem AH {P:Prop}(h:P:=by
 generalize hxb:w.heap.size=xb at*;refine PC.mono ?_;rintro e w1 ⟨rfl,hb1⟩
 have hbt:Below w.heap.size w w1:=by rw[hxb];exact HJ.o.2.1.trans (hb1.mono (by have:=lt_of_some HJ.o.2.2;omega))
 obtain⟨q0,q1,q2,q3,q4,q5⟩:=es ((hb1.block xb (lt_of_some HJ.o.2.2)).trans HJ.o.2.2)
 have J1:=(cD a hp).below HJ.o.1 hbt;obtain⟨h0,_⟩:=fj J1;have P:=AI.o F w1 J1;have HT:aA (ch F w F w1):=ch.of hbt;go_wp2_with fail;refine P.mono ?_;rintro e w2 ⟨F2,rfl,uQ,T2⟩
 have HF:=c8 uQ (HT.o.trans T2)
 go_wp2_with fail;go_ret;exact⟨F2,rfl,HF.o.1,HF.o.2⟩):P:=h
theorem rM {P:Prop}(h:P:=by
 go_enter func57,ntmps57;go_wp2_with fail;refine P.mono ?_;rintro e w2 ⟨F2,rfl,uQ,T2⟩
 have HF:=c8 uQ ((ch.of HB.o).trans T2)
 go_wp2_with fail;go_ret2;exact⟨F2,rfl,HF.o.1,HF.o.2⟩):P:=h
theorem AJ {P:Prop}(h:P:=by
 rcases qy k with d|d|d|d|d|d|d|d|d|d|d|d|d|d|d|d|d
 case' inr.inr.inr.inr.inr.inr.inr.inr.inr.inr.inr.inr.inr.inr.inr.inr=>
  have:=qz d;unfold d5 at hc;rw[aJ this] at hc;omega
 all_goals
  first
   |(subst d;decide)
   |(omega)):P:=h
theorem AK {P:Prop}(h:P:=by rw[hW0];exact bc _ _ _ ((aY w2 ⟨w.heap.size,0,none⟩ ⟨w.heap.size,1,none⟩ _ ac).trans y1)):P:=h
theorem Ie (a:Wc)(S:cw)(x:Int):(S.pop a x).2.2.s.rs=S.s.rs:=by
 unfold cw.pop;split
 ·split<;>rfl
 ·rfl
theorem If (a:Wc)(S:cw)(t g:Int):(S.reg a t g).2.s.rs=S.s.rs:=by
 unfold cw.reg;split
 ·split
  ·split<;>rfl
  ·rfl
 ·rfl
section
variable {a:Wc}{hp:Nat}{F:Nat->Prop}{S:cw}{w:az}
theorem Ig (h:(cD a hp).J F S w)(R I n:Int)(A B:Nat)(f:A<12)(hB:B<12)(hq:Mx S.q+Mx S.r<=90000)(j:S.f7 a=K->∃G,iZ (S.k5 a) (S.dM a) G/\G 0 (S.k5 a,0))(room:(S.room a 3).1=0->(S.room a 3).2.s.y+3<=a.N):
 Calls MO 57 #[aq hp,d_ 4 R A B I n] w fun e w'=>∃c,e=MD (a6 #[ak (S.b_ a 1 [A,B]).1,ak (S.b_ a 1 [A,B]).2.1])/\(cD a hp).J c (S.b_ a 1 [A,B]).2.2 w'/\ch F w c w':=by
 have d:=(aw w (cH 4 R A B I n)).alloc ac (ME #[U MC (A:Int),U MC (B:Int)] 3)
 have b:=aP (w.alloc (cH 4 R A B I n)) (ME #[U MC (A:Int),U MC (B:Int)] 3)
 have k:(w.alloc (cH 4 R A B I n)).heap.size=w.heap.size+1:=ac;rw[k] at b;have P:=pY ((cD a hp).below h d) 1 [A,B] (au (w.heap.size+1)) 2 hq j rfl (fun _=>⟨w.heap.size+1,rfl,fun l=>by have:=(cD a hp).lt h _ l;omega,lt_of_some b,fun i hi=>by
  have hi:i<2:=hi;rcases(show i=0\/i=1 by omega) with rfl|rfl<;>simp only [World.cell?,b]<;>rfl⟩) (fun i hi=>by
  have hi:i<2:=hi;rcases(show i=0\/i=1 by omega) with rfl|rfl
  ·exact f
  ·exact hB) room
 have HB:=hide d;generalize S.b_ a 1 [A,B]=g at*;obtain⟨v,cd,m⟩:=g;exact rM
theorem Ih (h:(cD a hp).J F S w)(R I n:Int)(A B:Nat)(f:A<12)(hB:B<12)(hq:Mx S.q+Mx S.r<=90000)(j:S.f7 a=K->∃G,iZ (S.k5 a) (S.dM a) G/\G 0 (S.k5 a,0))(room:(S.room a 3).1=0->(S.room a 3).2.s.y+3<=a.N):
 Calls MO 57 #[aq hp,d_ 6 R A B I n] w fun e w'=>∃c,e=MD (a6 #[ak (S.b_ a 3 [A,B]).1,ak (S.b_ a 3 [A,B]).2.1])/\(cD a hp).J c (S.b_ a 3 [A,B]).2.2 w'/\ch F w c w':=by
 have d:=(aw w (cH 6 R A B I n)).alloc ac (ME #[U MC (A:Int),U MC (B:Int)] 3)
 have b:=aP (w.alloc (cH 6 R A B I n)) (ME #[U MC (A:Int),U MC (B:Int)] 3)
 have k:(w.alloc (cH 6 R A B I n)).heap.size=w.heap.size+1:=ac;rw[k] at b;have P:=pY ((cD a hp).below h d) 3 [A,B] (au (w.heap.size+1)) 2 hq j rfl (fun _=>⟨w.heap.size+1,rfl,fun l=>by have:=(cD a hp).lt h _ l;omega,lt_of_some b,fun i hi=>by
  have hi:i<2:=hi;rcases(show i=0\/i=1 by omega) with rfl|rfl<;>simp only [World.cell?,b]<;>rfl⟩) (fun i hi=>by
  have hi:i<2:=hi;rcases(show i=0\/i=1 by omega) with rfl|rfl
  ·exact f
  ·exact hB) room
 have HB:=hide d;generalize S.b_ a 3 [A,B]=g at*;obtain⟨v,cd,m⟩:=g;exact rM
theorem Ii (h:(cD a hp).J F S w)(R I n:Int)(A B:Nat)(f:A<12)(hB:B<12)(hq:Mx S.q+Mx S.r<=90000)(j:S.f7 a=K->∃G,iZ (S.k5 a) (S.dM a) G/\G 0 (S.k5 a,0))(room:(S.room a 3).1=0->(S.room a 3).2.s.y+3<=a.N):
 Calls MO 57 #[aq hp,d_ 7 R A B I n] w fun e w'=>∃c,e=MD (a6 #[ak (S.b_ a 4 [A,B]).1,ak (S.b_ a 4 [A,B]).2.1])/\(cD a hp).J c (S.b_ a 4 [A,B]).2.2 w'/\ch F w c w':=by
 have d:=(aw w (cH 7 R A B I n)).alloc ac (ME #[U MC (A:Int),U MC (B:Int)] 3)
 have b:=aP (w.alloc (cH 7 R A B I n)) (ME #[U MC (A:Int),U MC (B:Int)] 3)
 have k:(w.alloc (cH 7 R A B I n)).heap.size=w.heap.size+1:=ac;rw[k] at b;have P:=pY ((cD a hp).below h d) 4 [A,B] (au (w.heap.size+1)) 2 hq j rfl (fun _=>⟨w.heap.size+1,rfl,fun l=>by have:=(cD a hp).lt h _ l;omega,lt_of_some b,fun i hi=>by
  have hi:i<2:=hi;rcases(show i=0\/i=1 by omega) with rfl|rfl<;>simp only [World.cell?,b]<;>rfl⟩) (fun i hi=>by
  have hi:i<2:=hi;rcases(show i=0\/i=1 by omega) with rfl|rfl
  ·exact f
  ·exact hB) room
 have HB:=hide d;generalize S.b_ a 4 [A,B]=g at*;obtain⟨v,cd,m⟩:=g;exact rM
theorem Ij (h:(cD a hp).J F S w)(R A B I n:Int)(hq:Mx S.q+Mx S.r<=90000)(d:S.f7 a=K->∃G,iZ (S.k5 a) (S.dM a) G/\G 0 (S.k5 a,0))(room:(S.room a 1).1=0->(S.room a 1).2.s.y+1<=a.N):
 Calls MO 57 #[aq hp,d_ 8 R A B I n] w fun e w'=>∃b,e=MD (a6 #[ak (S.b_ a 5 []).1,ak (S.b_ a 5 []).2.1])/\(cD a hp).J b (S.b_ a 5 []).2.2 w'/\ch F w b w':=by
 have c:=aw w (cH 8 R A B I n)
 have P:=pY ((cD a hp).below h c) 5 [] Y 0 hq d rfl (fun f=>absurd f ac) (fun i hi=>absurd hi ac) room;have HB:=hide c;exact rM
theorem Ik (h:(cD a hp).J F S w)(R B I:Int)(A n:Nat)(m:A<12)(hn:n<=12)(hq:Mx S.q+Mx S.r<=90000)(o:S.f7 a=K->∃G,iZ (S.k5 a) (S.dM a) G/\G 0 (S.k5 a,0))(room:(S.room a (1+n)).1=0->(S.room a (1+n)).2.s.y+1+n<=a.N):
 Calls MO 57 #[aq hp,d_ 5 R A B I n] w fun e w'=>∃b,e=MD (a6 #[ak (S.b_ a 2 (MQ n A)).1,ak (S.b_ a 2 (MQ n A)).2.1])/\(cD a hp).J b (S.b_ a 2 (MQ n A)).2.2 w'/\ch F w b w':=by
 have f:=(aw w (cH 5 R A B I n)).alloc ac (ME #[U MC (A:Int)] 3)
 have k:=aP (w.alloc (cH 5 R A B I n)) (ME #[U MC (A:Int)] 3)
 have p:(w.alloc (cH 5 R A B I n)).heap.size=w.heap.size+1:=ac;rw[p] at k;have hl:Mx (MQ n A)=n:=List.length_replicate;have hk:hc 2 (Mx (MQ n A))=0:=by rw[hl];rcases(show n=0\/n=1\/n=2\/n=3\/n=4\/n=5\/n=6\/n=7\/n=8\/n=9\/n=10\/n=11\/n=12 by omega) with e|e|e|e|e|e|e|e|e|e|e|e|e<;>(rw[e];rfl)
 have ad:=(cD a hp).below h f;have q:V (bE (w.alloc (cH 5 R A B I n)) (ME #[U MC (A:Int)] 3)) (av (w.heap.size+1) 0)=Z (ak (A:Int)):=by simp only [World.cell?,k];rfl
 have s:Calls MO 124 #[H (au (w.heap.size+1)) 1 1,ak n] (bE (w.alloc (cH 5 R A B I n)) (ME #[U MC (A:Int)] 3)) fun e w'=>∃nb,e=MD (H (au nb) n n)/\(0<n->w.heap.size+2<=nb/\w'.heap[nb]?=Z (ME ((MQ n (A:Int)).map (Value.int MC)).toArray 3 (0,0)))/\C w.heap.size w w':=by
  by_cases h0:0<n
  ·refine(H7 _ (w.heap.size+1) n A h0 hn q).mono ?_;rintro e w' ⟨nb,rfl,g1,g2,g3⟩
   simp at g1;exact⟨nb,rfl,fun _=>⟨aa,g2⟩,f.trans (g3.mono (by simp;omega))⟩
  ·obtain rfl:n=0:=aa;refine(H8 _ (w.heap.size+1) A).mono ?_;rintro e w' ⟨nb,rfl,g3⟩
   exact⟨nb,rfl,fun c=>absurd c aa,f.trans (g3.mono (by simp;omega))⟩
 have u:∀d nb,C w.heap.size w d->(0<n->w.heap.size+2<=nb/\d.heap[nb]?=Z (ME ((MQ n (A:Int)).map (Value.int MC)).toArray 3 (0,0)))->Calls MO 123 #[aq hp,ak 2,H (au nb) n n] d fun e w'=>∃b,e=MD (a6 #[ak (S.b_ a 2 (MQ n A)).1,ak (S.b_ a 2 (MQ n A)).2.1])/\(cD a hp).J b (S.b_ a 2 (MQ n A)).2.2 w'/\ch F w b w':=fun d nb hb hr=>by
  have P:=pY ((cD a hp).below h hb) 2 (MQ n A) (au nb) n hq o hk (fun c=>by
   rw[hl] at c;obtain⟨g1,g2⟩:=hr c;refine⟨nb,rfl,fun c=>by have:=(cD a hp).lt h _ c;omega,lt_of_some g2,fun i hi=>?_⟩
   rw[hl] at hi;have e:X (MQ n A) i 0=A:=by rw[aL,En hi];rfl
   rw[e];simp[World.cell?,g2,hi]) (fun i hi=>by
   rw[hl] at hi;rw[aL,En hi];exact m) (by rw[hl];exact room)
  rw[hl] at P;refine P.mono ?_;rintro e w' ⟨b,rfl,j,t⟩
  exact⟨b,rfl,j,(ch.of hb).trans t⟩
 have x:=hide u;generalize S.b_ a 2 (MQ n A)=g at*;obtain⟨v,cd,ag⟩:=g;go_enter func57,ntmps57;go_wp2_with fail;refine s.mono ?_;rintro e d ⟨nb,rfl,hr,hb⟩
 have P:=x.o d nb hb hr;go_wp2_with fail;refine P.mono ?_;rintro e ai ⟨N,rfl,W,ab⟩
 have l:=c8 W ab;go_wp2_with fail;go_ret2;exact⟨N,rfl,l.o.1,l.o.2⟩
theorem Il (h:(cD a hp).J F S w)(R B I n:Int)(A:Nat)(f:A<12):
 Calls MO 57 #[aq hp,d_ 3 R A B I n] w fun e w'=>e=MD (a6 #[ak (X S.s.rs A 0),ak 0])/\C w.heap.size w w':=by
 have b:=aw w (cH 3 R A B I n)
 have c:=aP w (ME #[U MC 3,U MC R,U MC (A:Int),U MC B,U MC I,U MC n] 44)
 have d:=(cD a hp).below h b;obtain⟨h0,c0,c3,rt,_⟩:=fj d;obtain⟨r1,_⟩:=rt A f;skip;obtain⟨q0,q1,j,q3,k,l⟩:=es c;have fx:¬F w.heap.size:=fun g=>by have:=(cD a hp).lt h _ g;omega
 have i:=hide b;clear h d rt b c fx;generalize X S.s.rs A 0=x at*;go_enter func57,ntmps57
 go_upto_region 6 with fail
 go_quiet (fail)
 go_wp2_with fail;go_ret2;exact⟨rfl,below_drewN i.o _⟩
theorem Im (h:(cD a hp).J F S w)(R B I n:Int)(A:Nat)(q:A<12)(hq:Mx S.q<=90000):
 Calls MO 57 #[aq hp,d_ 10 R A B I n] w fun e w'=>∃b,e=MD (a6 #[ak (S.pop a (X S.s.rs A 0)).1,ak (S.pop a (X S.s.rs A 0)).2.1])/\(cD a hp).J b (S.pop a (X S.s.rs A 0)).2.2 w'/\ch F w b w':=by
 have c:=aw w (cH 10 R A B I n)
 have d:=aP w (ME #[U MC 10,U MC R,U MC (A:Int),U MC B,U MC I,U MC n] 44)
 have k:=(cD a hp).below h c;obtain⟨h0,c0,c3,rt,_⟩:=fj k;obtain⟨r1,_⟩:=rt A q;have l:=(cD a hp).below k (aH _ (w.alloc (cH 10 R A B I n))).drew;have s:=HW l (X S.s.rs A 0) hq;obtain⟨q0,q1,ad,q3,ar,aB⟩:=es d;have u:C w.heap.size w (w.alloc (cH 10 R A B I n)).drew:=c.trans ((aH _ (w.alloc (cH 10 R A B I n))).drew.mono c.size)
 have aF:(0:Int)<=(A:Int):=aa;have aR:(A:Int)<12:=aa;have ag:w.heap.size<(w.alloc (cH 10 R A B I n)).heap.size:=lt_of_some d;have fx:¬F w.heap.size:=fun ai=>by have:=(cD a hp).lt h _ ai;omega
 have N:aA ((cD a hp).J F S (w.alloc (cH 10 R A B I n)).drew/\C w.heap.size w (w.alloc (cH 10 R A B I n)).drew/\(w.alloc (cH 10 R A B I n)).drew.heap[w.heap.size]?=Z (cH 10 R A B I n)/\¬F w.heap.size):=⟨l,u,d,fx⟩
 have aV:aA (C w.heap.size w (w.alloc (cH 10 R A B I n))):=c;clear h k l rt c u d fx;have a0:aA (X S.s.rs A 0=X S.s.rs A 0):=rfl;have al:aA ((S.pop a (X S.s.rs A 0)).2.2.s.rs=S.s.rs):=Ie a S (X S.s.rs A 0)
 generalize S.pop a (X S.s.rs A 0)=g at*;obtain⟨v,cd,am⟩:=g;dsimp only at*;go_enter func57,ntmps57
 go_upto_region 18 with fail
 generalize w.alloc (cH 10 R A B I n)=w0 at*;generalize an:w.heap.size=f at*;have ao:aA (∀b w' m,(cD a hp).J b m w'->ch F w0.drew b w'->m.s.rs=S.s.rs->(V w' ⟨hp,0,Y⟩=Z (bL (Z ⟨a.pw,0,Y⟩))/\V w' ⟨a.pw,3,Y⟩=Z (H (Z ⟨a.nb,0,Y⟩) 12 12)/\V w' ⟨a.nb,A,Y⟩=Z (U MC (X S.s.rs A 0)))/\V w' ⟨f,2,Y⟩=Z (U MC (A:Int))):=fun b w' m j t ap=>by obtain⟨g0,_,g3,W,_⟩:=fj j;rw[ap] at W;exact⟨⟨g0,g3,(W A q).1⟩,(aQ (a:=⟨f,2,Y⟩) (t.fr.block f ag N.o.2.2.2)).trans ad⟩
 generalize X S.s.rs A 0=x at*
 go_region_held3 (fun w'=>V w' (av hp 0)=Z (aq a.pw)/\V w' (av a.pw 3)=Z (H (au a.nb) 12 12)/\V w' (av a.nb A)=Z (ak x)/\V w' (av f 2)=Z (ak (A:Int))) (go_keep)
  (first
    |(go_at_call 125;refine s.mono ?_;clear s;rintro e o ⟨i,rfl,j2,p⟩;obtain⟨⟨g0,g3,gr⟩,a1⟩:=ao.o i o _ j2 p al.o;have ab:aA ((cD a hp).J i am o/\ch F w i o):=⟨j2,(ch.of (by rw[an];exact N.o.2.1)).trans p⟩;clear j2 p))
 go_wp2_with fail;go_ret2;exact⟨i,rfl,ab.o.1,ab.o.2⟩
theorem In (h:(cD a hp).J F S w)(R B I n:Int)(A:Nat)(k:A<12):
 Calls MO 57 #[aq hp,d_ 13 R A B I n] w fun e w'=>e=MD (a6 #[ak (S.len a (X S.s.rs A 0)).1,ak (S.len a (X S.s.rs A 0)).2.1])/\C w.heap.size w w':=by
 have c:=aw w (cH 13 R A B I n)
 have d:=aP w (ME #[U MC 13,U MC R,U MC (A:Int),U MC B,U MC I,U MC n] 44)
 have g:=(cD a hp).below h c;obtain⟨h0,c0,c3,rt,_⟩:=fj g;obtain⟨r1,_⟩:=rt A k;have i:=(cD a hp).below g (aH _ (w.alloc (cH 13 R A B I n))).drew;have l:=HV i (X S.s.rs A 0)
 obtain⟨q0,q1,o,q3,ab,ad⟩:=es d;have b:C w.heap.size w (w.alloc (cH 13 R A B I n)).drew:=c.trans ((aH _ (w.alloc (cH 13 R A B I n))).drew.mono c.size)
 have ag:(0:Int)<=(A:Int):=aa;have ai:(A:Int)<12:=aa;have q:w.heap.size<(w.alloc (cH 13 R A B I n)).heap.size:=lt_of_some d;have fx:¬F w.heap.size:=fun s=>by have:=(cD a hp).lt h _ s;omega
 have j:aA ((cD a hp).J F S (w.alloc (cH 13 R A B I n)).drew/\C w.heap.size w (w.alloc (cH 13 R A B I n)).drew/\(w.alloc (cH 13 R A B I n)).drew.heap[w.heap.size]?=Z (cH 13 R A B I n)/\¬F w.heap.size):=⟨i,b,d,fx⟩
 have al:aA (C w.heap.size w (w.alloc (cH 13 R A B I n))):=c;clear h g i rt c b d fx;have am:aA (X S.s.rs A 0=X S.s.rs A 0):=rfl;generalize (S.len a (X S.s.rs A 0)).1=v at*;generalize (S.len a (X S.s.rs A 0)).2.1=cd at*;go_enter func57,ntmps57
 go_upto_region 22 with fail
 generalize w.alloc (cH 13 R A B I n)=w0 at*;generalize t:w.heap.size=f at*;have u:aA (∀w',C w0.drew.heap.size w0.drew w'->(V w' ⟨hp,0,Y⟩=Z (bL (Z ⟨a.pw,0,Y⟩))/\V w' ⟨a.pw,3,Y⟩=Z (H (Z ⟨a.nb,0,Y⟩) 12 12)/\V w' ⟨a.nb,A,Y⟩=Z (U MC (X S.s.rs A 0)))/\V w' ⟨f,2,Y⟩=Z (U MC (A:Int))):=fun w' hb=>by
  obtain⟨g0,_,g3,N,_⟩:=fj ((cD a hp).below j.o.1 hb)
  exact⟨⟨g0,g3,(N A k).1⟩,(hb.cell (p:=av f 2) q).trans o⟩
 generalize X S.s.rs A 0=x at*
 go_region_held3 (fun w'=>V w' (av hp 0)=Z (aq a.pw)/\V w' (av a.pw 3)=Z (H (au a.nb) 12 12)/\V w' (av a.nb A)=Z (ak x)/\V w' (av f 2)=Z (ak (A:Int))) (go_keep)
  (first
    |(go_at_call 126;refine l.mono ?_;clear l;rintro e m ⟨rfl,b⟩;obtain⟨⟨g0,g3,gr⟩,an⟩:=u.o m b;have W:aA (C f w m):=j.o.2.1.trans (b.mono (by have:=j.o.2.1.size;omega));clear b))
 go_wp2_with fail;go_ret2;exact⟨rfl,by rw[t];exact W.o⟩
theorem Io (h:(cD a hp).J F S w)(R B I n:Int)(A:Nat)(k:A<12):
 Calls MO 57 #[aq hp,d_ 11 R A B I n] w fun e w'=>e=MD (a6 #[ak (if eK a.N S.s.y S.s.g S.s.ws (X S.s.rs A 0) I=0 then ld a.N S.s.y S.s.g S.s.ws (cr (X S.s.rs A 0)+1+I) else 0),ak (eK a.N S.s.y S.s.g S.s.ws (X S.s.rs A 0) I)])/\C w.heap.size w w':=by
 have d:=aw w (cH 11 R A B I n)
 have f:=aP w (ME #[U MC 11,U MC R,U MC (A:Int),U MC B,U MC I,U MC n] 44)
 have i:=(cD a hp).below h d;obtain⟨h0,c0,c3,rt,_⟩:=fj i;obtain⟨r1,_⟩:=rt A k;have g:=(cD a hp).below i (aH _ (w.alloc (cH 11 R A B I n))).drew;have l:=D7 (X S.s.rs A 0) I (w.alloc (cH 11 R A B I n)).drew (fj g).c0 (lW g).1;obtain⟨q0,q1,q,q3,s,ad⟩:=es f;have c:C w.heap.size w (w.alloc (cH 11 R A B I n)).drew:=d.trans ((aH _ (w.alloc (cH 11 R A B I n))).drew.mono d.size)
 have ag:(0:Int)<=(A:Int):=aa;have ai:(A:Int)<12:=aa;have m:w.heap.size<(w.alloc (cH 11 R A B I n)).heap.size:=lt_of_some f;have fx:¬F w.heap.size:=fun t=>by have:=(cD a hp).lt h _ t;omega
 have j:aA ((cD a hp).J F S (w.alloc (cH 11 R A B I n)).drew/\C w.heap.size w (w.alloc (cH 11 R A B I n)).drew/\(w.alloc (cH 11 R A B I n)).drew.heap[w.heap.size]?=Z (cH 11 R A B I n)/\¬F w.heap.size):=⟨g,c,f,fx⟩
 have al:aA (C w.heap.size w (w.alloc (cH 11 R A B I n))):=d;clear h i g rt d c f fx;have am:aA (X S.s.rs A 0=X S.s.rs A 0):=rfl;generalize (if eK a.N S.s.y S.s.g S.s.ws (X S.s.rs A 0) I=0 then ld a.N S.s.y S.s.g S.s.ws (cr (X S.s.rs A 0)+1+I) else 0)=v at*;generalize eK a.N S.s.y S.s.g S.s.ws (X S.s.rs A 0) I=cd at*;go_enter func57,ntmps57
 go_upto_region 20 with fail
 generalize w.alloc (cH 11 R A B I n)=w0 at*;generalize u:w.heap.size=b at*;have N:aA (∀w',C w0.drew.heap.size w0.drew w'->(V w' ⟨hp,0,Y⟩=Z (bL (Z ⟨a.pw,0,Y⟩))/\V w' ⟨a.pw,3,Y⟩=Z (H (Z ⟨a.nb,0,Y⟩) 12 12)/\V w' ⟨a.nb,A,Y⟩=Z (U MC (X S.s.rs A 0)))/\V w' ⟨b,2,Y⟩=Z (U MC (A:Int))/\V w' ⟨b,4,Y⟩=Z (U MC I)):=fun w' hb=>by
  obtain⟨g0,_,g3,W,_⟩:=fj ((cD a hp).below j.o.1 hb)
  exact⟨⟨g0,g3,(W A k).1⟩,(hb.cell (p:=av b 2) m).trans q,(hb.cell (p:=av b 4) m).trans s⟩
 generalize X S.s.rs A 0=x at*
 go_region_held3 (fun w'=>V w' (av hp 0)=Z (aq a.pw)/\V w' (av a.pw 3)=Z (H (au a.nb) 12 12)/\V w' (av a.nb A)=Z (ak x)/\V w' (av b 2)=Z (ak (A:Int))/\V w' (av b 4)=Z (ak I)) (go_keep)
  (first
    |(go_at_call 45;refine l.mono ?_;clear l;rintro e o ⟨rfl,c⟩;obtain⟨⟨g0,g3,gr⟩,an,ao⟩:=N.o o c;have ab:aA (C b w o):=j.o.2.1.trans (c.mono (by have:=j.o.2.1.size;omega));clear c))
 go_wp2_with fail;go_ret2;exact⟨rfl,by rw[u];exact ab.o⟩
theorem Ip (h:(cD a hp).J F S w)(R I n:Int)(A B:Nat)(j:A<12)(hB:B<12):
 Calls MO 57 #[aq hp,d_ 14 R A B I n] w fun e w'=>e=MD (a6 #[ak (if X S.s.rs A 0=X S.s.rs B 0 then ew 1 1 else ew 1 0),ak 0])/\C w.heap.size w w':=by
 have d:=aw w (cH 14 R A B I n)
 have f:=aP w (ME #[U MC 14,U MC R,U MC (A:Int),U MC (B:Int),U MC I,U MC n] 44)
 have g:=(cD a hp).below h d;obtain⟨h0,c0,c3,rt,_⟩:=fj g;obtain⟨r1,_⟩:=rt A j;obtain⟨N,_⟩:=rt B hB;obtain⟨q0,q1,q,q3,W,ab⟩:=es f;have c:C w.heap.size w (w.alloc (cH 14 R A B I n)).drew:=d.trans ((aH _ (w.alloc (cH 14 R A B I n))).drew.mono d.size)
 have ad:(0:Int)<=(A:Int):=aa;have ag:(A:Int)<12:=aa;have ai:(0:Int)<=(B:Int):=aa;have al:(B:Int)<12:=aa;have k:=HU (X S.s.rs A 0) (X S.s.rs B 0) (w.alloc (cH 14 R A B I n)).drew;have l:w.heap.size<(w.alloc (cH 14 R A B I n)).heap.size:=lt_of_some f;have i:aA ((cD a hp).J F S (w.alloc (cH 14 R A B I n)).drew/\C w.heap.size w (w.alloc (cH 14 R A B I n)).drew/\(w.alloc (cH 14 R A B I n)).drew.heap[w.heap.size]?=Z (cH 14 R A B I n)):=⟨(cD a hp).below g (aH _ (w.alloc (cH 14 R A B I n))).drew,c,f⟩
 clear h g rt d c f;have am:aA (X S.s.rs A 0=X S.s.rs A 0):=rfl;generalize (if X S.s.rs A 0=X S.s.rs B 0 then ew 1 1 else ew 1 0)=v at*;go_enter func57,ntmps57
 go_upto_region 24 with fail
 generalize w.alloc (cH 14 R A B I n)=w0 at*;generalize s:w.heap.size=b at*;have t:aA (∀w',C w0.drew.heap.size w0.drew w'->(V w' ⟨hp,0,Y⟩=Z (bL (Z ⟨a.pw,0,Y⟩))/\V w' ⟨a.pw,3,Y⟩=Z (H (Z ⟨a.nb,0,Y⟩) 12 12)/\V w' ⟨a.nb,A,Y⟩=Z (U MC (X S.s.rs A 0))/\V w' ⟨a.nb,B,Y⟩=Z (U MC (X S.s.rs B 0)))/\V w' ⟨b,2,Y⟩=Z (U MC (A:Int))/\V w' ⟨b,3,Y⟩=Z (U MC (B:Int))):=fun w' hb=>by
  obtain⟨g0,_,g3,m,_⟩:=fj ((cD a hp).below i.o.1 hb)
  exact⟨⟨g0,g3,(m A j).1,(m B hB).1⟩,(hb.cell (p:=av b 2) l).trans q,(hb.cell (p:=av b 3) l).trans q3⟩
 generalize X S.s.rs A 0=x at*;generalize X S.s.rs B 0=y at*
 go_region_held3 (fun w'=>V w' (av hp 0)=Z (aq a.pw)/\V w' (av a.pw 3)=Z (H (au a.nb) 12 12)/\V w' (av a.nb A)=Z (ak x)/\V w' (av a.nb B)=Z (ak y)/\V w' (av b 2)=Z (ak (A:Int))/\V w' (av b 3)=Z (ak (B:Int))) (go_keep)
  (first
    |(go_at_call 127;refine k.mono ?_;clear k;rintro e o ⟨rfl,c⟩;obtain⟨⟨g0,g3,gr,an⟩,ao,ap⟩:=t.o o c;have u:aA (C b w o):=i.o.2.1.trans (c.mono (by have:=i.o.2.1.size;omega));clear c))
 go_wp2_with fail;go_ret2;exact⟨rfl,by rw[s];exact u.o⟩
theorem Iq (R A B I n:Int)(w:az)(hp:Nat):
 J MO 57 #[aq hp,d_ 2 R A B I n] w fun e w'=>e=MD (a6 #[ak 2,ak 0])/\C w.heap.size w w':=by
 have b:=aw w (cH 2 R A B I n)
 go_enter func57,ntmps57;go_wp2_with fail;refine(sK _).mono ?_;rintro e w1 ⟨rfl,hw⟩
 have hw:=hw.symm;subst hw;go_wp2_with fail;go_ret2;exact⟨rfl,b⟩
theorem Ir (h:(cD a hp).J F S w){j:Nat}(ok:dY a S j)(hb:cO a S.s)(k R A B I n:Int)(hk:d5 k R A B n=0)(ad:k≠9)(ag:k≠12)(ai:k≠15)(al:k≠16):
 Calls MO 57 #[aq hp,d_ k R A B I n] w fun e w'=>∃i,e=MD (a6 #[ak (S.rt a k (M A) (M B) I n).1,ak (S.rt a k (M A) (M B) I n).2.1])/\(cD a hp).J i (S.rt a k (M A) (M B) I n).2.2 w'/\ch F w i w':=by
 have hq:Mx S.q+Mx S.r<=90000:=by have:=ok.ly;omega
 have l:=ok.rB hb;have low:∀{Q:Int×Int×cw},(Calls MO 57 #[aq hp,d_ k R A B I n] w fun e w'=>e=MD (a6 #[ak Q.1,ak Q.2.1])/\C w.heap.size w w')->Q.2.2=S->Calls MO 57 #[aq hp,d_ k R A B I n] w fun e w'=>∃i,e=MD (a6 #[ak Q.1,ak Q.2.1])/\(cD a hp).J i Q.2.2 w'/\ch F w i w':=fun {Q} P e=>by
  refine P.mono ?_;rintro an w' ⟨rfl,hb⟩
  rw[e];exact⟨F,rfl,(cD a hp).below h hb,ch.of hb⟩
 have g:(dj k=3\/dj k=6\/dj k=7)->∃c:Nat,A=c/\c<12:=fun o=>by have:=lO hk o;exact⟨M A,aa,aa⟩
 have gx:(dj k=6\/dj k=7)->∃f:Nat,B=f/\f<12:=fun o=>by have:=mv hk o;exact⟨M B,aa,aa⟩
 have rm:∀m:Nat,m<=12->(S.room a (1+m)).1=0->(S.room a (1+m)).2.s.y+1+m<=a.N:=fun m hm e=>by have:=(ok.room hb (1+m)).2.2.1 e aa;omega
 unfold cw.rt;by_cases p:k=1
 ·rw[aJ p];subst p;exact low (Ge R A B I n w hp) rfl
 rw[aI p];by_cases q:k=3
 ·rw[aJ q];subst q;obtain⟨c,rfl,d⟩:=g ae;rw[bH];exact low (Il h R B I n c d) rfl
 rw[aI q];by_cases s:k=4
 ·rw[aJ s];subst s;obtain⟨c,rfl,d⟩:=g ae;obtain⟨f,rfl,hB⟩:=gx ae;rw[bH,bH];exact Ig h R I n c f d hB hq l (rm 2 aa)
 rw[aI s];by_cases t:k=5
 ·rw[aJ t];subst t;obtain⟨c,rfl,d⟩:=g ae;have hn:hc 2 n=0:=AG hk;have hn:=jf 2 n hn;obtain⟨n,rfl⟩:=bG (show 0<=n by omega)
  rw[bH];exact Ik h R B I c n d aa hq l (rm n aa)
 rw[aI t];by_cases e6:k=6
 ·rw[aJ e6];subst e6;obtain⟨c,rfl,d⟩:=g ae;obtain⟨f,rfl,hB⟩:=gx ae;rw[bH,bH];exact Ih h R I n c f d hB hq l (rm 2 aa)
 rw[aI e6];by_cases u:k=7
 ·rw[aJ u];subst u;obtain⟨c,rfl,d⟩:=g ae;obtain⟨f,rfl,hB⟩:=gx ae;rw[bH,bH];exact Ii h R I n c f d hB hq l (rm 2 aa)
 rw[aI u];by_cases v:k=8
 ·rw[aJ v];subst v;exact Ij h R A B I n hq l (rm 0 aa)
 rw[aI v];by_cases x:k=10
 ·rw[aJ x];subst x;obtain⟨c,rfl,d⟩:=g ae;rw[bH];exact Im h R B I n c d aa
 rw[aI x];by_cases N:k=11
 ·rw[aJ N];subst N;obtain⟨c,rfl,d⟩:=g ae;rw[bH];exact low (Io h R B I n c d) rfl
 rw[aI N];by_cases W:k=13
 ·rw[aJ W];subst W;obtain⟨c,rfl,d⟩:=g ae;rw[bH];exact low (In h R B I n c d) (by unfold cw.len;split<;>rfl)
 rw[aI W];by_cases ab:k=14
 ·rw[aJ ab];subst ab;obtain⟨c,rfl,d⟩:=g ae;obtain⟨f,rfl,hB⟩:=gx ae;rw[bH,bH];exact low (Ip h R I n c f d hB) rfl
 rw[aI ab];have am:k=2:=by
  rcases qy k with b|b|b|b|b|b|b|b|b|b|b|b|b|b|b|b|b
  all_goals
   first
    |exact b
    |exact absurd b p
    |exact absurd b q
    |exact absurd b s
    |exact absurd b t
    |exact absurd b e6
    |exact absurd b u
    |exact absurd b v
    |exact absurd b ad
    |exact absurd b x
    |exact absurd b N
    |exact absurd b ag
    |exact absurd b W
    |exact absurd b ab
    |exact absurd b ai
    |exact absurd b al
    |(have o:=qz b;unfold d5 at hk;rw[aJ o] at hk;omega)
 subst am;exact low (Iq R A B I n w hp) rfl
theorem pZ (h:(cD a hp).J F S w):cO a S.s:=by obtain⟨c,b,_⟩:=kK h;obtain⟨d,g1,_⟩:=nD b;obtain⟨_,_,_,_,_,rl,_⟩:=kk g1;have ha:=(lh g1).1;exact⟨ha.hN,ha.hN',ha.hO,ha.hy,ha.hg,ha.hl,rl⟩
theorem Is (h:(cD a hp).J F S w)(x i z:Int)(hM:Mx S.s.M<=100000):
 Calls MO 44 #[aq a.pw,ak x,ak i,ak z] w fun e w'=>∃b,e=MD (ak (eK a.N S.s.y S.s.g S.s.ws x i))/\(cD a hp).J b (S.set a x i z) w'/\ch F w b w':=by
 obtain⟨l,c,_,d⟩:=kK h;obtain⟨m,g1,g2⟩:=nD c;refine(FC g1 x i z hM).mono ?_;rintro e w' ⟨rfl,f,g⟩
 obtain⟨n,j2,j⟩:=g2 _ _ _ f g;obtain⟨k,cI,t3⟩:=d _ _ _ j2 j;exact⟨k,rfl,cI,t3⟩
theorem It {k R A B n:Int}(hc:d5 k R A B n=0)(b:k≠9)(c:k≠12)(e:k≠15)(f:k≠16):dj k=1\/dj k=3\/dj k=7:=by exact AJ
theorem Iu (k R A B I n:Int)(hc:d5 k R A B n≠0):
 J MO 20 #[aq hp,d_ k R A B I n] w fun e w'=>e=MD (ak (d5 k R A B n))/\C w.heap.size w w':=by
 have c:=jS k R A B I n (w.alloc (cH k R A B I n))
 have b:=hide (aw w (cH k R A B I n))
 go_enter func20,ntmps20;go_wp2_with fail;refine c.mono ?_;rintro e w1 ⟨rfl,d⟩
 go_wp2_with fail;go_ret;exact⟨rfl,(b.o.trans (d.mono b.o.size))⟩
theorem Iv (h:(cD a hp).J F S w)(R A B I n:Int)(hc:d5 15 R A B n=0)(hq:Mx S.q+Mx S.r<=90000):
 Calls MO 20 #[aq hp,d_ 15 R A B I n] w fun e w'=>∃b,e=MD (ak (S.code a))/\(cD a hp).J b (S.cut a) w'/\ch F w b w':=by
 have PC:=jS 15 R A B I n (w.alloc (cH 15 R A B I n))
 rw[hc] at PC;have HJ:=gY h (aw w (cH 15 R A B I n)) (aP w (ME #[U MC 15,U MC R,U MC A,U MC B,U MC I,U MC n] 44))
 have AI:aA (∀b w',(cD a hp).J b S w'->_):=fun b w' c=>Ay c hq;generalize S.cut a=d at*;generalize S.code a=cd at*;go_enter func20,ntmps20;go_wp2_with fail;generalize w.alloc (cH 15 R A B I n)=w0 at*;exact AH
theorem Iw (h:(cD a hp).J F S w)(R A B I n:Int)(hc:d5 16 R A B n=0)(hq:Mx S.q+Mx S.r<=90000)(c:S.f7 a=K->∃G,iZ (S.k5 a) (S.dM a) G/\G 0 (S.k5 a,0)):
 Calls MO 20 #[aq hp,d_ 16 R A B I n] w fun e w'=>∃b,e=MD (ak (S.i0 a))/\(cD a hp).J b (S.dG a) w'/\ch F w b w':=by
 have PC:=jS 16 R A B I n (w.alloc (cH 16 R A B I n))
 rw[hc] at PC;have HJ:=gY h (aw w (cH 16 R A B I n)) (aP w (ME #[U MC 16,U MC R,U MC A,U MC B,U MC I,U MC n] 44))
 have AI:aA (∀b w',(cD a hp).J b S w'->_):=fun b w' d=>Az d hq c;generalize S.dG a=f at*;generalize S.i0 a=cd at*;go_enter func20,ntmps20;go_wp2_with fail;generalize w.alloc (cH 16 R A B I n)=w0 at*;exact AH
theorem Ix (h:(cD a hp).J F S w)(R I n:Int)(A B:Nat)(v:A<12)(hB:B<12)(hc:d5 9 R A B n=0)(hr:Mx S.r<=90000)(hq:Mx S.q<=90000):
 Calls MO 20 #[aq hp,d_ 9 R A B I n] w fun e w'=>∃b,e=MD (ak (S.reg a (X S.s.rs A 0) (X S.s.rs B 0)).1)/\(cD a hp).J b (S.reg a (X S.s.rs A 0) (X S.s.rs B 0)).2 w'/\ch F w b w':=by
 have N:=aw w (cH 9 R A B I n)
 have W:=aP w (ME #[U MC 9,U MC R,U MC (A:Int),U MC (B:Int),U MC I,U MC n] 44)
 have i:=jS 9 R A B I n (w.alloc (cH 9 R A B I n))
 rw[hc] at i;have d:aA ((cD a hp).J F S w/\C w.heap.size w (w.alloc (cH 9 R A B I n))/\(w.alloc (cH 9 R A B I n)).heap[w.heap.size]?=Z (cH 9 R A B I n)/\¬F w.heap.size):=⟨h,N,W,fun al=>by have:=(cD a hp).lt h _ al;omega⟩
 have a0:(0:Int)<=(A:Int):=aa;have a1:(A:Int)<12:=aa;have a2:(0:Int)<=(B:Int):=aa;have a3:(B:Int)<12:=aa;have am:aA (∀b w',(cD a hp).J b S w'->Calls MO 56 #[aq hp,ak (X S.s.rs A 0),ak (X S.s.rs B 0)] w' fun e ab=>∃f,e=MD (ak (S.reg a (X S.s.rs A 0) (X S.s.rs B 0)).1)/\(cD a hp).J f (S.reg a (X S.s.rs A 0) (X S.s.rs B 0)).2 ab/\ch b w' f ab):=fun b w' an=>HX an _ _ hr hq;have ao:aA ((S.reg a (X S.s.rs A 0) (X S.s.rs B 0)).2.s.rs=S.s.rs):=If a S _ _;generalize S.reg a (X S.s.rs A 0) (X S.s.rs B 0)=g at*;obtain⟨cd,ap⟩:=g;dsimp only at*;clear h N hc W;go_enter func20,ntmps20;go_wp2_with fail;generalize w.alloc (cH 9 R A B I n)=w0 at*;generalize ar:w.heap.size=c at*;refine i.mono ?_;clear i;rintro e w1 ⟨rfl,k⟩
 have l:C w.heap.size w w1:=by rw[ar];exact d.o.2.1.trans (k.mono (by have:=lt_of_some d.o.2.2.1;omega))
 have m:=(k.block c (lt_of_some d.o.2.2.1)).trans d.o.2.2.1;obtain⟨q0,q1,aB,q3,a4,ba⟩:=es m;have o:=(cD a hp).below d.o.1 l;obtain⟨h0,c0,c3,rt,_⟩:=fj o;obtain⟨r1,_⟩:=rt A v;obtain⟨bb,_⟩:=rt B hB;have ad:=(cD a hp).below o (aH _ w1).drew;have P:=am.o F w1.drew ad;have aF:aA (ch F w F w1.drew):=(ch.of l).below (aH _ w1).drew;have ag:=lt_of_some m;have aR:aA (∀b w' p,(cD a hp).J b p w'->ch F w1.drew b w'->p.s.rs=S.s.rs->(V w' (av hp 0)=Z (aq a.pw)/\V w' (av a.pw 3)=Z (H (au a.nb) 12 12)/\V w' (av a.nb A)=Z (ak (X S.s.rs A 0))/\V w' (av a.nb B)=Z (ak (X S.s.rs B 0)))/\V w' (av c 2)=Z (ak (A:Int))/\V w' (av c 3)=Z (ak (B:Int))):=fun b w' p j t aV=>by obtain⟨g0,_,g3,q,_⟩:=fj j;rw[aV] at q;exact⟨⟨g0,g3,(q A v).1,(q B hB).1⟩,(aQ (a:=⟨c,2,Y⟩) (t.fr.block c ag d.o.2.2.2)).trans aB,(aQ (a:=⟨c,3,Y⟩) (t.fr.block c ag d.o.2.2.2)).trans q3⟩
 clear k l o ad rt m;have bd:aA (X S.s.rs A 0=X S.s.rs A 0):=rfl;generalize X S.s.rs A 0=x at*;generalize X S.s.rs B 0=y at*;go_wp2_with fail
 go_region_held3 (fun w'=>V w' (av hp 0)=Z (aq a.pw)/\V w' (av a.pw 3)=Z (H (au a.nb) 12 12)/\V w' (av a.nb A)=Z (ak x)/\V w' (av a.nb B)=Z (ak y)/\V w' (av c 2)=Z (ak (A:Int))/\V w' (av c 3)=Z (ak (B:Int))) (go_keep)
  (first
    |(go_at_call 56;refine P.mono ?_;clear P;rintro e s ⟨f,rfl,j2,u⟩;obtain⟨⟨g0,g3,gr,be⟩,bg,bi⟩:=aR.o f s _ j2 u ao.o;have ai:aA ((cD a hp).J f ap s/\ch F w f s):=⟨j2,aF.o.trans u⟩;clear j2 u))
 go_wp2_with fail;go_ret;exact⟨f,rfl,ai.o.1,ai.o.2⟩
theorem Iy (h:(cD a hp).J F S w)(R I n:Int)(A B:Nat)(v:A<12)(hB:B<12)(hc:d5 12 R A B n=0)(hM:Mx S.s.M<=100000):
 Calls MO 20 #[aq hp,d_ 12 R A B I n] w fun e w'=>∃c,e=MD (ak (eK a.N S.s.y S.s.g S.s.ws (X S.s.rs A 0) I))/\(cD a hp).J c (S.set a (X S.s.rs A 0) I (X S.s.rs B 0)) w'/\ch F w c w':=by
 have N:=aw w (cH 12 R A B I n)
 have W:=aP w (ME #[U MC 12,U MC R,U MC (A:Int),U MC (B:Int),U MC I,U MC n] 44)
 have g:=jS 12 R A B I n (w.alloc (cH 12 R A B I n))
 rw[hc] at g;have d:aA ((cD a hp).J F S w/\C w.heap.size w (w.alloc (cH 12 R A B I n))/\(w.alloc (cH 12 R A B I n)).heap[w.heap.size]?=Z (cH 12 R A B I n)/\¬F w.heap.size):=⟨h,N,W,fun ai=>by have:=(cD a hp).lt h _ ai;omega⟩
 have a0:(0:Int)<=(A:Int):=aa;have a1:(A:Int)<12:=aa;have a2:(0:Int)<=(B:Int):=aa;have a3:(B:Int)<12:=aa;have al:aA (∀c w',(cD a hp).J c S w'->Calls MO 44 #[aq a.pw,ak (X S.s.rs A 0),ak I,ak (X S.s.rs B 0)] w' fun e ab=>∃f,e=MD (ak (eK a.N S.s.y S.s.g S.s.ws (X S.s.rs A 0) I))/\(cD a hp).J f (S.set a (X S.s.rs A 0) I (X S.s.rs B 0)) ab/\ch c w' f ab):=fun c w' am=>Is am _ _ _ hM;have an:aA ((S.set a (X S.s.rs A 0) I (X S.s.rs B 0)).s.rs=S.s.rs):=rfl;generalize S.set a (X S.s.rs A 0) I (X S.s.rs B 0)=ao at*;generalize eK a.N S.s.y S.s.g S.s.ws (X S.s.rs A 0) I=cd at*;clear h N hc W;go_enter func20,ntmps20;go_wp2_with fail;generalize w.alloc (cH 12 R A B I n)=w0 at*;generalize ap:w.heap.size=b at*;refine g.mono ?_;clear g;rintro e w1 ⟨rfl,i⟩
 have k:C w.heap.size w w1:=by rw[ap];exact d.o.2.1.trans (i.mono (by have:=lt_of_some d.o.2.2.1;omega))
 have l:=(i.block b (lt_of_some d.o.2.2.1)).trans d.o.2.2.1;obtain⟨q0,q1,ar,q3,aB,a4⟩:=es l;have m:=(cD a hp).below d.o.1 k;obtain⟨h0,c0,c3,rt,_⟩:=fj m;obtain⟨r1,_⟩:=rt A v;obtain⟨ba,_⟩:=rt B hB;have ad:=(cD a hp).below m (aH _ w1).drew;have P:=al.o F w1.drew ad;have aF:aA (ch F w F w1.drew):=(ch.of k).below (aH _ w1).drew;have o:=lt_of_some l;have aR:aA (∀c w' p,(cD a hp).J c p w'->ch F w1.drew c w'->p.s.rs=S.s.rs->(V w' (av hp 0)=Z (aq a.pw)/\V w' (av a.pw 3)=Z (H (au a.nb) 12 12)/\V w' (av a.nb A)=Z (ak (X S.s.rs A 0))/\V w' (av a.nb B)=Z (ak (X S.s.rs B 0)))/\V w' (av b 2)=Z (ak (A:Int))/\V w' (av b 3)=Z (ak (B:Int))/\V w' (av b 4)=Z (ak I)):=fun c w' p j t aV=>by obtain⟨g0,_,g3,q,_⟩:=fj j;rw[aV] at q;exact⟨⟨g0,g3,(q A v).1,(q B hB).1⟩,(aQ (a:=⟨b,2,Y⟩) (t.fr.block b o d.o.2.2.2)).trans ar,(aQ (a:=⟨b,3,Y⟩) (t.fr.block b o d.o.2.2.2)).trans q3,(aQ (a:=⟨b,4,Y⟩) (t.fr.block b o d.o.2.2.2)).trans aB⟩
 clear i k m ad rt l;have bb:aA (X S.s.rs A 0=X S.s.rs A 0):=rfl;generalize X S.s.rs A 0=x at*;generalize X S.s.rs B 0=y at*;go_wp2_with fail
 go_region_held3 (fun w'=>V w' (av hp 0)=Z (aq a.pw)/\V w' (av a.pw 3)=Z (H (au a.nb) 12 12)/\V w' (av a.nb A)=Z (ak x)/\V w' (av a.nb B)=Z (ak y)/\V w' (av b 2)=Z (ak (A:Int))/\V w' (av b 3)=Z (ak (B:Int))/\V w' (av b 4)=Z (ak I)) (go_keep)
  (first
    |(go_at_call 44;refine P.mono ?_;clear P;rintro e s ⟨f,rfl,j2,u⟩;obtain⟨⟨g0,g3,gr,bd⟩,be,bg,bi⟩:=aR.o f s _ j2 u an.o;have ag:aA ((cD a hp).J f ao s/\ch F w f s):=⟨j2,aF.o.trans u⟩;clear j2 u))
 go_wp2_with fail;go_ret;exact⟨f,rfl,ag.o.1,ag.o.2⟩
theorem Iz (h:(cD a hp).J F S w)(k R A B I n:Int)(hc:d5 k R A B n=0)(k1:k≠9)(u:k≠12)(x:k≠15)(N:k≠16)(v cd:Int)(h0:cd≠0)(f:cw)
 (m:∀b w',(cD a hp).J b S w'->Calls MO 57 #[aq hp,d_ k R A B I n] w' fun e g=>∃F2,e=MD (a6 #[ak v,ak cd])/\(cD a hp).J F2 f g/\ch b w' F2 g):
 Calls MO 20 #[aq hp,d_ k R A B I n] w fun e w'=>∃b,e=MD (ak cd)/\(cD a hp).J b f w'/\ch F w b w':=by
 have i:=aw w (cH k R A B I n)
 have o:=aP w (ME #[U MC k,U MC R,U MC A,U MC B,U MC I,U MC n] 44)
 have j:=jS k R A B I n (w.alloc (cH k R A B I n))
 rw[hc] at j;have c:=gY ((cD a hp).below h i) i o;have p:=hide m;go_enter func20,ntmps20;go_wp2_with fail;generalize w.alloc (cH k R A B I n)=w0 at*;generalize q:w.heap.size=s at*;refine j.mono ?_;rintro e w1 ⟨rfl,d⟩
 have l:=c8 ((cD a hp).below c.o.1 d) (c.o.2.1.trans (d.mono (by have:=lt_of_some c.o.2.2;omega)))
 obtain⟨q0,q1,W,q3,ab,ad⟩:=es ((d.block s (lt_of_some c.o.2.2)).trans c.o.2.2)
 go_wp2_with fail;refine(p.o F w1 l.o.1).mono ?_;rintro e ag ⟨F2,rfl,j2,t⟩
 have HF:=c8 j2 ((ch.of (by rw[q];exact l.o.2)).trans t)
 exact nO
theorem IA (h:(cD a hp).J F S w){j:Nat}(ok:dY a S j)(t:j<=100000)(k R A B I n:Int):
 Calls MO 20 #[aq hp,d_ k R A B I n] w fun e w'=>∃i,e=MD (ak (S.hd a k R A B I n).1)/\(cD a hp).J i (S.hd a k R A B I n).2 w'/\ch F w i w':=by
 have hb:=pZ h;have u:=ok.ly;have hm:=ok.m;have hq:Mx S.q+Mx S.r<=90000:=aa;unfold cw.hd;by_cases hc:d5 k R A B n=0
 ·rw[aJ hc];by_cases b:k=9
  ·rw[aJ b];subst b;have l:=lO hc ae;have m:=mv hc ae;obtain⟨A,rfl⟩:=bG l.1;obtain⟨B,rfl⟩:=bG m.1;rw[bH,bH];exact Ix h R I n A B aa aa hc aa aa
  rw[aI b];by_cases d:k=12
  ·rw[aJ d];subst d;have l:=lO hc ae;have m:=mv hc ae;obtain⟨A,rfl⟩:=bG l.1;obtain⟨B,rfl⟩:=bG m.1;rw[bH,bH];exact Iy h R I n A B aa aa hc aa
  rw[aI d];by_cases f:k=15
  ·rw[aJ f];subst f;exact Iv h R A B I n hc hq
  rw[aI f];by_cases e16:k=16
  ·rw[aJ e16];subst e16;exact Iw h R A B I n hc hq (ok.rB hb)
  rw[aI e16];have q:=xd hc (It hc b d f e16)
  obtain⟨R,rfl⟩:=bG q.1;rw[bH];have o:∀i w',(cD a hp).J i S w'->_:=fun i w' s=>Ir s ok hb k R A B I n hc b d f e16;generalize S.rt a k (M A) (M B) I n=g at*;obtain⟨v,cd,p⟩:=g;by_cases c:cd=0
  ·rw[aJ c];subst c;exact H2 h k R A B I n aa hc b d f e16 v p o
  ·rw[aI c];exact Iz h k R A B I n hc b d f e16 v cd c p o
 ·rw[aI hc];refine(Iu k R A B I n hc).mono ?_;rintro e w' ⟨rfl,hb⟩
  exact⟨F,rfl,(cD a hp).below h hb,ch.of hb⟩
end
section
variable {w:az}{pw p q N O y g:Nat}{ws:List Int}{sd:Nat}{v0:bj}{a1:Option Addr}{k1:Nat}{Q:List cf}{l:List Int}{ra:Option Addr}{rc:Nat}
theorem IB (hq:nu w pw p q N O y g ws sd v0 a1 k1 Q)(c3:V w (av pw 3)=Z (H ra (Mx l) rc))(hl:Lq w ra l)(hm:Mx l<=100000):
 J MO 25 #[aq pw] w fun e w'=>∃an bb f ao o,e=MD (bF #[H an (Mx l) bb,H f ao o])/\jp w' (I (G w)) an (iX N y g ws Q l).1/\i6 w' (I (G w)) f (iX N y g ws Q l).2.2/\ao=Mx (iX N y g ws Q l).2.2/\C (I (G w)) w w':=by
 have j:=aw w (ME #[H Y 0 0,H Y 0 0] 60)
 have ap:=aP w (ME #[H Y 0 0,H Y 0 0] 60)
 have ai:=hq.low j;have bd:=hl.kf (Kf.of (B:=0) j)
 have ar:=aT w _ c3;have aB:=(j.cell (p:=av pw 3) ar).trans c3;have be:I (G w)<I (G (bE w (ME #[H Y 0 0,H Y 0 0] 60))):=ac;have P:=EC ai.c0 ai.ar;have b5:=hq.ar.hN';have b6:=hq.ar.hy;have ca:=hq.ar.hO;have cb:=hq.ar.hg;have bg:∀a∈eJ N y g ws++dL N y g ws,0<=a/\a<2000:=fun a ha=>by
  rcases List.mem_append.1 ha with ha|ha
  ·have:=ox a ha;omega
  ·have:=qN a ha;omega
 have bi:Mx (eJ N y g ws++dL N y g ws)<=100000:=by have t:Mx (eJ N y g ws)<=2000:=i8 _ _;have cc:Mx (dL N y g ws)<=2000:=i8 _ _;simp;omega
 have bl:aA (∀(u cu:Nat)(w1:az),Wk (bE w (ME #[H Y 0 0,H Y 0 0] 60)) w1 u cu pw (eJ N y g ws++dL N y g ws) ([],[]) (H Y 0 0) []->J MO 65 #[aq u,H ra (Mx l) rc] w1 fun e w'=>∃bn al a2 c2,e=MD (H a2 (Mx l) c2)/\w'.ownsRow (I (G w1)) 97 2 (H a2 (Mx l) c2) (Mx l) (ev (iX N y g ws Q l).1)/\Wk (bE w (ME #[H Y 0 0,H Y 0 0] 60)) w' u cu pw (eJ N y g ws++dL N y g ws) (iX N y g ws Q l).2 bn al/\fT (bE w (ME #[H Y 0 0,H Y 0 0] 60)) w1 [] w' al/\(∀k,fM al k->Z k≠(Value.slice a2 (Mx l) c2).ownBlock)):=
  fun u cu w1 t=>yY (yZ ai bg bi _) (j6 _) t (ft.start _) ac l ra rc (bd.kf (Kf.of (B:=0) t.eV)) hm
 have aF:aA (Mx (iX N y g ws Q l).1=Mx l):=n7 _ _ _ _;generalize iX N y g ws Q l=R at*;obtain⟨cd,s⟩:=R;generalize eJ N y g ws++dL N y g ws=T at*;go_enter func25,ntmps25;go_wp2_with fail;refine P.mono ?_;rintro e w1 ⟨u,cu,rfl,t⟩
 have bo:=(t.eV.cell (p:=av pw 3) (aO ar j.size)).trans aB;have am:=hide t;go_wp2_with fail;refine(bl.o u cu w1 am.o).mono ?_;rintro e w2 ⟨ce,m,a2,c2,rfl,F,d,aR,_⟩
 obtain⟨f,o,bp⟩:=eT d.row;subst bp;have cf:=d.cells.2.2.1;have aV:=j.trans (d.eV.mono j.size)
 have n:=(d.eV.block _ be).trans ap;have y0:V w2 (av (I (G w)) 0)=Z (H Y 0 0):=aD n
 have y1:V w2 (av (I (G w)) 1)=Z (H Y 0 0):=aD n
 have cg:bO w2 (av (I (G w)) 0)=K:=aE n
 have ch:bO w2 (av (I (G w)) 1)=K:=aE n
 have l2:=lt_of_some n;have br:=c8 d F;have bs:=hide d.len;have bt:=hide aV;have a0:=hide n;have a3:I (G w)<=I (G w1):=by
  have:=am.o.eV.size;simp at this
  omega
 have bx:aA (∀k,fM m k->I (G w)<=k):=fun k hk=>(aR.2 k hk).elim (fun⟨x,ab,_⟩=>by cases ab) (fun b0=>aU a3 b0)
 clear d F aR aV n j ap bo aB am;go_wp2_with fail;obtain⟨S,hW0⟩:∃S,S=ay (ay w2 ⟨I (G w),0,Y⟩ (H a2 (Mx l) c2)) ⟨I (G w),1,Y⟩ (H f (Mx m) o):=⟨_,rfl⟩
 rw[<-hW0];have g0:V S (av (I (G w)) 0)=Z (H a2 (Mx l) c2):=by exact oz
 have g1:V S (av (I (G w)) 1)=Z (H f (Mx m) o):=by exact AK
 have W:Fr (fun k=>k=I (G w)) w2 S:=by rw[hW0];exact((Fr.refl (fun k=>k=I (G w)) w2).set (I (G w)) 0 _ rfl).set (I (G w)) 1 _ rfl
 obtain⟨d,F⟩:=br.o;have a4:∀{ad:Option Addr}{L:List (Int×Int)},fL w2 ad L->dC S ad L:=fun {ad L} h=>h.1.keep W.size (fun hp b e=>by
  obtain⟨b1,ci,cj,b2,hb⟩:=h.2 hp;rw[b2] at e;cases e;refine W.block _ (lt_of_some hb) (fun c=>?_)
  have c:b1=I (G w):=c;rw[c,a0.o] at hb;simp at hb)
 refine a7 (v:=bF #[H a2 (Mx l) c2,H f (Mx m) o]) (by simp[results,results25,go_sem,g0,g1]) rfl ⟨a2,c2,f,Mx m,o,rfl,⟨a4 (fL.of (by rw[aF.o];exact F)),fun hp=>?_⟩,⟨m,d.nd,fun x ab=>a4 (d.fl x ab),bx.o,fun hp=>?_⟩,bs.o,bt.o.trans (W.below (yB l2) (fun k e=>tF (CB e)))⟩
 ·obtain⟨b,cap,e⟩:=eS F (by rw[<-aF.o];exact hp)
  cases e;exact⟨b,0,rfl,aU a3 (cv F b rfl).1⟩
 obtain⟨b,cap,e⟩:=eS d.row hp;cases e;have b3:=(cv d.row b rfl).1;simp at b3;obtain⟨ck,ag⟩:=fw d.row b rfl;have ba:b≠I (G w):=fun c=>by rw[c,a0.o] at ag;simp at ag
 refine⟨b,0,rfl,aa,aO (lt_of_some ag) W.size,fun i x ab=>?_⟩
 obtain⟨n1,b4⟩:=pm m i x ab;rw[bZ];exact⟨(aQ (a:=⟨b,i*2,Y⟩) (W.block b (lt_of_some ag) ba)).trans (iR d.row n1).1,(aQ (a:=⟨b,i*2+1,Y⟩) (W.block b (lt_of_some ag) ba)).trans (iR d.row b4).1⟩
end
theorem IC (n o:Nat)(w:az)(h0:16<=n)(l:n<=256)(m:o<=1024):
 J MO 18 #[ak n,ak o] w fun e w'=>∃hp,e=MD (a6 #[aq hp,bF #[ak 0,ak 0]])/\C (I (G w)) w w':=by
 have g:=aw w (ME #[U MC 0,U MC 0] 28)
 have P:=y4 n o (bE w (ME #[U MC 0,U MC 0] 28)) h0 l m;have i:=aP w (ME #[U MC 0,U MC 0] 28)
 have t:I (G w)<I (G (bE w (ME #[U MC 0,U MC 0] 28))):=ac;have j:=hide g;clear g;go_enter func18,ntmps18;go_wp2_with fail;generalize bE w (ME #[U MC 0,U MC 0] 28)=w0 at*;generalize u:I (G w)=fb at*;refine P.mono ?_;clear P;rintro e w1 ⟨pw,p,q,pc,cU,s,nb,rfl,x,hs,hr,hg,d⟩
 have c:=(d.block fb t).trans i;have y0:V w1 (av fb 0)=Z (ak 0):=aD c
 have y1:V w1 (av fb 1)=Z (ak 0):=aD c
 have z0:bO w1 (av fb 0)=K:=aE c
 have W:bO w1 (av fb 1)=K:=aE c
 have B:=lt_of_some c;have F:=hide (j.o.trans (d.mono aa))
 clear x hs hr hg d i j c;go_wp2_with fail;obtain⟨b,hW1⟩:∃b,b=ay (ay w1 ⟨fb,0,Y⟩ (U MC 0)) ⟨fb,1,Y⟩ (U MC 0):=⟨_,rfl⟩
 rw[<-hW1];have v0:V b (av fb 0)=Z (ak 0):=by exact ud
 have v1:V b (av fb 1)=Z (ak 0):=by exact y8
 have N:Fr (fun k=>k=fb) w1 b:=by rw[hW1];exact((Fr.refl (fun k=>k=fb) w1).set fb 0 _ rfl).set fb 1 _ rfl
 have ab:I (G b)=I (G w1):=by rw[hW1];simp
 clear hW1;have f:=(aw b (ME #[U MC 0,U MC 0] 28)).alloc ac (ME #[bL (Z ⟨pw,0,Y⟩)] 49)
 have g0:=(f.cell (p:=av fb 0) (by show fb<_;omega)).trans v0;have g1:=(f.cell (p:=av fb 1) (by show fb<_;omega)).trans v1;have S:=F.o.trans (N.below (yB B) (fun k e=>tF (CB e)))
 exact a7 (v:=a6 #[aq (I (G w1)+1),bF #[ak 0,ak 0]]) (by simp only [results,results18];simp[go_sem,g0,g1]) rfl ⟨I (G w1)+1,rfl,by rw[u];exact S.trans (f.mono aa)⟩
section
variable {a:Wc}{hp:Nat}{F:Nat->Prop}{S:cw}{w:az}
theorem ID (h:(cD a hp).J F S w)(hq:Mx S.q<=90000):
 Calls MO 25 #[aq a.pw] w fun e w'=>∃c b d f,e=MD (bF #[H c 12 b,H d (Mx (iX a.N S.s.y S.s.g S.s.ws S.q S.s.rs).2.2) f])/\jp w' (I (G w)) c (iX a.N S.s.y S.s.g S.s.ws S.q S.s.rs).1/\i6 w' (I (G w)) d (iX a.N S.s.y S.s.g S.s.ws S.q S.s.rs).2.2/\C (I (G w)) w w':=by
 obtain⟨n,g,_⟩:=kK h;obtain⟨o,g1,_⟩:=nD g;obtain⟨c0,_,c2,c3,_,rl,_,j⟩:=kk g1;obtain⟨p,ar,q,⟨s,ad,cap,⟨own,cU,hM,hO⟩,b,k,t,_⟩,r0,r1,u⟩:=g;have hl:Lq w (au a.nb) S.s.rs:=by
  have hr:=hM.rt;refine⟨fun _=>⟨a.nb,0,rfl,lt_of_some hr,fun i hi=>?_⟩,fun _=>⟨a.nb,0,_,rfl,hr⟩⟩
  rw[bZ];exact(j i (by rw[<-rl];exact hi)).1
 have P:=IB ⟨c0,c2,(lh g1).1,b,ik k,hq⟩ (by rw[rl];exact c3) hl (by rw[rl];decide)
 rw[rl] at P;refine P.mono ?_;rintro e w' ⟨c,b,d,v,f,rfl,q1,l,rfl,m⟩
 exact⟨c,b,d,f,rfl,q1,l,m⟩
theorem IE (h:(cD a hp).J F S w):Calls MO 22 #[aq a.p] w fun e w'=>e=MD (a6 #[ak S.s.y,ak S.s.g])/\C (I (G w)) w w':=
 k8 w (lW h).1
end
structure dD where
 A:List Bool
 td:List Int
 hd:Int->List (Int×Int)
 m:Nat
def ef (s:dD)(v:Int×Int):dD:=if d9 s.A v=ML then s else {s with A:=s.A.set (M v.2) ML,td:=s.td++[v.2]}
def dx (s:dD)(l:List (Int×Int)):dD:=l.foldl ef s
def lz (s:dD)(k v:Int×Int):dD:=if d9 s.A k=ML then ef s v else {s with hd:=fun x=>if x=k.2 then s.hd x++[v] else s.hd x,m:=s.m+1}
def gU (T:List cJ)(wt:List cf)(s:dD)(i:Int):dD:=
 if(X T (M i) t0).1=1\/(X T (M i) t0).1=2 then dx s (X T (M i) t0).2.1
 else if(X T (M i) t0).1=3 then ef s (X (X T (M i) t0).2.1 1 (0,0))
 else if(X T (M i) t0).1=4 then lz s (X (X T (M i) t0).2.1 0 (0,0)) (X (X T (M i) t0).2.1 1 (0,0))
 else if(X T (M i) t0).1=5 then dx s ((eF wt i).map fun x=>(3,x)) else s
def hC (T:List cJ)(wt:List cf)(s:dD)(i:Int):dD:=dx (gU T wt s i) ((gU T wt s i).hd i)
theorem AL (s:dD)(l:List (Int×Int))(v:Int×Int):dx s (l++[v])=ef (dx s l) v:=by simp[dx,List.foldl_append]
def p5 (T:List cJ)(wt:List cf)(s:dD)(P:Int->Prop)(i:Nat):Prop:=
 ((X T i t0).1≠4->∀v,jn T wt (fun _=>True) i v->v.1=3->cx s.A (M v.2))/\
 ((
   X T i t0).1=4->((X (X T i t0).2.1 0 (0,0)).1=3/\(¬cx s.A (M (X (X T i t0).2.1 0 (0,0)).2)\/P (X (X T i t0).2.1 0 (0,0)).2)/\X (X T i t0).2.1 1 (0,0)∈s.hd (X (X T i t0).2.1 0 (0,0)).2)\/
   ((X (X T i t0).2.1 1 (0,0)).1=3->cx s.A (M (X (X T i t0).2.1 1 (0,0)).2)))
structure e7 (T:List cJ)(wt:List cf)(is:List Bool)(s:dD)(E:List Int):Prop where
 len:Mx s.A=Mx T
 al:∀k,cx s.A k->cA T k
 lt:∀X,h7 T wt X->(∀k,cx is k->X k)->∀k,cx s.A k->X k
 td:∀x,x∈E\/x∈s.td->0<=x/\cx s.A (M x)
 hd:∀x v,v∈s.hd x->∃i,cx s.A i/\(T.getD i t0).1=4/\(T.getD i t0).2.1.getD 0 (0,0)=(3,x)/\v=(T.getD i t0).2.1.getD 1 (0,0)
 dq:∀i:Nat,cx s.A i->¬((i:Int)∈E\/(i:Int)∈s.td)->p5 T wt s (fun x=>x∈E\/x∈s.td) i
section
variable {T:List cJ}{wt:List cf}{is:List Bool}{s:dD}{E:List Int}
theorem AM {L:List Bool}{i k:Nat}(h:cx L k):cx (L.set i ML) k:=by grind [cx]
theorem p6 (s:dD)(v:Int×Int){k:Nat}(h:cx s.A k):cx (ef s v).A k:=by grind [AM,ef]
theorem uR (s:dD)(v:Int×Int)(b:v.1=3)(hl:M v.2<Mx s.A):cx (ef s v).A (M v.2):=by grind [m9,ef,cx]
theorem rN (s:dD)(v:Int×Int):Mx (ef s v).A=Mx s.A:=by grind [ef]
theorem nP (s:dD)(v:Int×Int):(ef s v).hd=s.hd/\(ef s v).m=s.m:=by grind [ef]
theorem IF (s:dD)(v:Int×Int){x:Int}(h:x∈s.td):x∈(ef s v).td:=by grind [ef]
theorem IG (s:dD)(v:Int×Int)(hv:v.1=3->0<=v.2){k:Nat}(h:cx (ef s v).A k):cx s.A k\/(k:Int)∈(ef s v).td:=by grind [ef,d9,cx]
theorem jz (s:dD)(l:List _):(dx s l).hd=s.hd/\(dx s l).m=s.m/\Mx (dx s l).A=Mx s.A:=by
 induction l generalizing s with
 |nil=>exact⟨rfl,rfl,rfl⟩
 |cons v l b=>
  have h:=b (ef s v)
  exact⟨h.1.trans (nP s v).1,h.2.1.trans (nP s v).2,h.2.2.trans (rN s v)⟩
theorem kT (s:dD)(l:List _){k:Nat}(h:cx s.A k):cx (dx s l).A k:=by
 induction l generalizing s with
 |nil=>exact h
 |cons v l b=>exact b (ef s v) (p6 s v h)
theorem IH (s:dD)(l:List _){x:Int}(h:x∈s.td):x∈(dx s l).td:=by
 induction l generalizing s with
 |nil=>exact h
 |cons v l b=>exact b (ef s v) (IF s v h)
theorem uS (s:dD)(l:List _)(hl:∀v∈l,v.1=3->M v.2<Mx s.A):∀v∈l,v.1=3->cx (dx s l).A (M v.2):=by
 induction l generalizing s with
 |nil=>grind
 |cons u l b=>
  intro v hv c;rcases List.mem_cons.1 hv with e|hv
  ·exact kT (ef s u) l (by grind [uR])
  ·exact b (ef s u) (by grind [rN]) v hv c
theorem II (s:dD)(l:List _)(hl:∀v∈l,v.1=3->0<=v.2){k:Nat}(h:cx (dx s l).A k):cx s.A k\/(k:Int)∈(dx s l).td:=by
 induction l generalizing s with
 |nil=>exact aM h
 |cons v l b=>
  rcases b (ef s v) (by grind) h with c|c
  ·rcases IG s v (by grind) c with c|c
   ·grind
   ·exact aK (IH (ef s v) l c)
  ·exact aK c
theorem p5.mono {s d:dD}{P e:Int->Prop}{i:Nat}(h:p5 T wt s P i)(f:∀k,cx s.A k->cx d.A k)(j:∀x:Int,0<=x->cx d.A (M x)->¬cx s.A (M x)->e x)(l:∀x,P x->e x)(m:∀x v,v∈s.hd x->v∈d.hd x)(h0:(X T i t0).1=4->(X (X T i t0).2.1 0 (0,0)).1=3->0<=(X (X T i t0).2.1 0 (0,0)).2):p5 T wt d e i:=by
 refine⟨fun hk v hv g=>f _ (h.1 hk v hv g),fun hk=>?_⟩
 rcases h.2 hk with⟨a,b,c⟩|a
 all_goals grind
theorem l6 (b:em T wt){i:Nat}(hi:cA T i)(hk:(X T i t0).1=4)(j:Nat)(c:j<2):(X (X T i t0).2.1 j (0,0)).1=3->0<=(X (X T i t0).2.1 j (0,0)).2/\cA T (M (X (X T i t0).2.1 j (0,0)).2):=fun d=>
 b.fv i hi _ (getD_in ((b.fl i hi (aK hk)▸c))) d
theorem uT {s:dD}{v:Int×Int}(h:d9 s.A v=ML):ef s v=s:=by grind [ef]
theorem rO {s:dD}{v:Int×Int}(h:d9 s.A v=K):ef s v={s with A:=s.A.set (M v.2) ML,td:=s.td++[v.2]}:=by grind [ef]
theorem e7.mark (h:e7 T wt is s E)(e:em T wt)(v:Int×Int)(hv:v.1=3->0<=v.2/\cA T (M v.2))(l:v.1=3->∀X,h7 T wt X->(∀k,cx is k->X k)->X (M v.2)):e7 T wt is (ef s v) E:=by
 cases hi:d9 s.A v
 ·obtain⟨c,m⟩:=m8 hi;obtain⟨v0,f⟩:=hv c;have hl:M v.2<Mx s.A:=(h.len▸f.1)
  have n:∀k,cx (ef s v).A k↔M v.2=k\/cx s.A k:=fun k=>by grind [rO,cx]
  have g:∀x,x∈(ef s v).td↔x∈s.td\/x=v.2:=fun x=>by grind [rO]
  refine⟨(rN s v).trans h.len,fun k hk=>?_,fun X o hb k hk=>?_,fun x b=>?_,fun x u j=>?_,fun i p hn=>?_⟩
  ·grind [al]
  ·grind [lt]
  ·rcases b with b|b
   ·exact⟨(h.td x (by grind)).1,p6 s v (h.td x (by grind)).2⟩
   ·rcases(g x).1 b with b|b
    ·exact⟨(h.td x (by grind)).1,p6 s v (h.td x (by grind)).2⟩
    grind
  ·rw[(nP s v).1] at j
   grind [hd]
  ·have d:cx s.A i:=by grind
   refine(h.dq i d (by grind)).mono (by grind) (fun x q ha hb=>?_) (by grind) (by grind [nP]) (fun hk c=>(l6 e (h.al i d) hk 0 ae c).1)
   grind
 grind [uT]
theorem e7.marks (h:e7 T wt is s E)(c:em T wt)(l:List _)(hv:∀v∈l,v.1=3->0<=v.2/\cA T (M v.2))(d:∀v∈l,v.1=3->∀X,h7 T wt X->(∀k,cx is k->X k)->X (M v.2)):e7 T wt is (dx s l) E:=by
 induction l generalizing s with
 |nil=>exact h
 |cons v l b=>exact b (by grind [mark]) (by grind) (by grind)
theorem AN (s:dD)(v:Int×Int)(hv:v.1=3->M v.2<Mx s.A):Mx (ef s v).td+cnt (ef s v).A=Mx s.td+cnt s.A:=by
 cases hi:d9 s.A v
 ·obtain⟨b,c⟩:=m8 hi;have d:=sX s.A (M v.2) (by simp_all)
  rw[rO hi]
  grind
 ·rw[uT hi]
theorem p7 (s:dD)(l:List _)(hl:∀v∈l,v.1=3->M v.2<Mx s.A):Mx (dx s l).td+cnt (dx s l).A=Mx s.td+cnt s.A:=by
 induction l generalizing s with
 |nil=>rfl
 |cons v l b=>exact(b (ef s v) (by grind [rN])).trans (AN s v (by grind))
theorem e7.pop {t:List Int}{x:Int}(h:e7 T wt is s [])(b:em T wt)(e:s.td=t++[x]):e7 T wt is {s with td:=t} [x]:=by
 have hm:∀y,(y∈[x]\/y∈t)↔(y∈([]:List Int)\/y∈s.td):=fun y=>by grind
 exact⟨h.len,h.al,h.lt,fun y hy=>h.td y (by grind),h.hd,fun i hi hn=>(h.dq i hi (by grind)).mono (by grind) (by grind) (by grind) (by grind) (fun hk c=>(l6 b (h.al i hi) hk 0 ae c).1)⟩
theorem e7.hold {i n:Nat}{x:Int}{u:Int×Int}(h:e7 T wt is s E)(c:em T wt)(hi:cx s.A i)(hk:(X T i t0).1=4)(h0:X (X T i t0).2.1 0 (0,0)=(3,x))(e:X (X T i t0).2.1 1 (0,0)=u):
 e7 T wt is {s with hd:=fun y=>if y=x then s.hd y++[u] else s.hd y,m:=n} E:=by
 refine⟨h.len,h.al,h.lt,h.td,fun y v hv=>?_,fun j b hn=>(h.dq j b hn).mono (by grind) (by grind) (by grind) (fun y v hv=>?_) (fun hk d=>(l6 c (h.al j b) hk 0 ae d).1)⟩
 all_goals grind [hd]
theorem e7.drop {i:Nat}(h:e7 T wt is s [(i:Int)])(f:¬(i:Int)∈s.td->p5 T wt s (fun x=>x∈s.td) i)(g:∀v∈s.hd i,v.1=3->cx s.A (M v.2)):e7 T wt is s []:=by
 refine⟨h.len,h.al,h.lt,fun x k=>h.td x (by grind),h.hd,fun j d hn=>?_⟩
 have hn:_:=fun c=>hn (aK c)
 by_cases e:j=i
 ·simp_all
 ·have:=h.dq j d (by grind)
  refine⟨this.1,fun hk=>?_⟩
  rcases this.2 hk with⟨a,b,c⟩|a
  all_goals grind
theorem uU {i x:Int}:x∈eF wt i↔(∃e∈wt,e.1=i/\x=e.2):=by simp_all [eF]
theorem e7.list {i:Nat}(h:e7 T wt is s [(i:Int)])(c:em T wt)(hi:cx s.A i)(l:List _)(hl:∀v∈l,jn T wt (cx s.A) i v):e7 T wt is (dx s l) [(i:Int)]/\∀v∈l,v.1=3->cx (dx s l).A (M v.2):=
 ⟨h.marks c l (fun v hv b=>c.pj (h.al i hi) (hl v hv) b) (fun v hv b X d hb=>d i (h.al i hi).1 (by grind [lt]) v (by grind [jn.mono,lt]) b),
  uS s l (fun v hv b=>(h.len▸(c.pj (h.al i hi) (hl v hv) b).2.1))⟩
theorem e7.free {i:Nat}(h:e7 T wt is s [(i:Int)])(f:em T wt)(hi:cx s.A i):e7 T wt is (dx s (s.hd i)) [(i:Int)]/\(∀v∈s.hd i,v.1=3->cx (dx s (s.hd i)).A (M v.2))/\(∀v∈s.hd i,v.1=3->0<=v.2/\M v.2<Mx s.A):=by
 have ho:∀v∈s.hd i,v.1=3->0<=v.2/\cA T (M v.2):=fun v hv d=>by obtain⟨j,a,b,c,e⟩:=h.hd _ _ hv;rw[e] at d⊢;exact l6 f (h.al j a) b 1 ae d
 refine⟨h.marks f _ ho (fun v hv d X g hb=>?_),uS s _ (fun v hv d=>(h.len▸(ho v hv d).2.1)),fun v hv d=>⟨(ho v hv d).1,(h.len▸(ho v hv d).2.1)⟩⟩
 obtain⟨j,a,b,c,e⟩:=h.hd _ _ hv;refine g j (h.al j a).1 (by grind [lt]) v (aK (aK (aM ⟨b,fun _=>?_,e⟩))) d
 grind [lt]
structure AO (T:List cJ)(wt:List cf)(is:List Bool)(s s':dD):Prop where
 mi:e7 T wt is s' []
 mm:s'.m<=s.m+1
 td:Mx s'.td+cnt s'.A=Mx s.td+cnt s.A
 up:∀k,cx s.A k->cx s'.A k
theorem rP {i:Nat}(h:e7 T wt is s [(i:Int)])(d:em T wt)(hi:cx s.A i)(hk:(X T i t0).1≠4)(l:List _)(e:∀v∈l,jn T wt (cx s.A) i v)(f:∀v,jn T wt (fun _=>True) i v->v∈l):
 AO T wt is s (dx (dx s l) ((dx s l).hd i)):=by
 obtain⟨a1,a2⟩:=h.list d hi l e;obtain⟨b1,b2,b3⟩:=a1.free d (kT s l hi)
 refine⟨b1.drop (fun _=>⟨fun _ v hv b=>kT _ _ (a2 v (f v hv) b),fun c=>absurd c hk⟩) (fun v hv=>?_),?_,?_,fun k hk=>kT _ _ (kT _ _ hk)⟩
 ·rw[(jz _ _).1] at hv;exact b2 v hv
 ·rw[(jz _ _).2.1,(jz _ _).2.1];omega
 ·rw[p7 _ _ (fun v hv b=>(b3 v hv b).2),p7 _ _ (fun v hv b=>by rw[h.len];exact(d.pj (h.al i hi) (e v hv) b).2.1)]
theorem e7.look {i:Nat}(h:e7 T wt is s [(i:Int)])(b:em T wt)(hi:cx s.A i):AO T wt is s (hC T wt s i):=by
 have o:=h.al i hi;unfold hC gU;rw[bH];by_cases k1:(X T i t0).1=1\/(X T i t0).1=2
 ·rw[aJ k1];refine rP h b hi aa _ (fun v hv=>aM ⟨k1,hv⟩) (fun v hv=>?_)
  rcases hv with c|c|c|c
  ·exact c.2
  ·exact absurd c.1 aa
  ·exact absurd c.1 aa
  ·exact absurd c.1 aa
 rw[aI k1];by_cases g:(X T i t0).1=3
 ·rw[aJ g];refine rP h b hi aa [_] (fun v hv=>aK (aM ⟨g,by simpa using hv⟩)) (fun v hv=>?_)
  rcases hv with c|c|c|c
  ·exact absurd c.1 aa
  ·rw[c.2];simp
  ·exact absurd c.1 aa
  ·exact absurd c.1 aa
 rw[aI g];by_cases d:(X T i t0).1=4
 ·rw[aJ d];unfold lz;cases hk:d9 s.A _
  ·obtain⟨q3,q⟩:=m8 hk;rw[aI ae];have t:X (X T i t0).2.1 0 (0,0)=(3,(X (X T i t0).2.1 0 (0,0)).2):=by rw[<-q3]
   obtain⟨b1,b2,b3⟩:=(h.hold (n:=s.m+1) b hi d t rfl).free b hi;refine⟨b1.drop (fun _=>⟨fun c=>absurd d c,fun _=>aM ⟨q3,?_,?_⟩⟩) (fun v hv=>?_),?_,?_,fun k hk=>kT _ _ hk⟩
   ·by_cases c:cx (dx {s with hd:=fun y=>if y=(X (X T i t0).2.1 0 (0,0)).2 then s.hd y++[X (X T i t0).2.1 1 (0,0)] else s.hd y,m:=s.m+1} ((fun y=>if y=(X (X T i t0).2.1 0 (0,0)).2 then s.hd y++[X (X T i t0).2.1 1 (0,0)] else s.hd y) (i:Int))).A (M (X (X T i t0).2.1 0 (0,0)).2)
    ·right;rcases II _ _ (fun v hv f=>(b3 v hv f).1) c with c|c
     ·exact absurd c (by unfold cx;rw[q];decide)
     ·have:=(l6 b o d 0 ae q3).1;rwa [Int.toNat_of_nonneg this] at c
    ·exact aM c
   ·rw[(jz _ _).1];dsimp only;rw[aJ rfl];exact bk _ ac
   ·rw[(jz _ _).1] at hv;exact b2 v hv
   ·rw[(jz _ _).2.1];exact aG _
   ·rw[p7 _ _ (fun v hv f=>(b3 v hv f).2)]
  ·rw[aJ rfl];have p:∀v∈[X (X T i t0).2.1 1 (0,0)],jn T wt (cx s.A) i v:=fun v hv=>aK (aK (aM ⟨d,fun c=>m9 hk c,by simpa using hv⟩))
   obtain⟨a1,a2⟩:=h.list b hi _ p;obtain⟨b1,b2,b3⟩:=a1.free b (kT s _ hi)
   refine⟨b1.drop (fun _=>⟨fun c=>absurd d c,fun _=>aK (fun c=>kT _ _ (a2 _ ac c))⟩) (fun v hv=>?_),?_,?_,fun k hk=>kT _ _ (kT s [_] hk)⟩
   ·rw[(jz _ _).1] at hv;exact b2 v hv
   ·show(dx (dx s [_]) _).m<=_;rw[(jz _ _).2.1,(jz _ _).2.1];omega
   ·rw[show ef s (X (X T i t0).2.1 1 (0,0))=dx s [X (X T i t0).2.1 1 (0,0)] from rfl];rw[p7 _ _ (fun v hv f=>(b3 v hv f).2),p7 _ _ (fun v hv f=>by rw[h.len];exact(b.pj o (p v hv) f).2.1)]
 rw[aI d];by_cases k5:(X T i t0).1=5
 ·rw[aJ k5];refine rP h b hi d _ (fun v hv=>?_) (fun v hv=>?_)
  ·obtain⟨x,u,rfl⟩:=b7.1 hv;obtain⟨e,j,l,rfl⟩:=uU.1 u;exact aK (aK (aK ⟨k5,e,j,l,rfl⟩))
  ·rcases hv with c|c|c|c
   ·exact absurd c.1 aa
   ·exact absurd c.1 aa
   ·exact absurd c.1 aa
   ·obtain⟨_,e,j,l,rfl⟩:=c;exact b7.2 ⟨e.2,uU.2 ⟨e,j,l,rfl⟩,rfl⟩
 ·rw[aI k5];refine rP h b hi d [] (fun v hv=>by cases hv) (fun v hv=>?_)
  rcases hv with c|c|c|c
  ·exact absurd c.1 k1
  ·exact absurd c.1 g
  ·exact absurd c.1 d
  ·exact absurd c.1 k5
theorem e7.done (h:e7 T wt is s [])(e:s.td=[])(hl:Mx is=Mx T)(g:∀k,cx is k->cx s.A k):oh T wt is s.A:=by
 refine⟨h.len.trans hl.symm,g,fun i _ j v hv d=>?_,h.lt⟩
 have hd:=h.dq i j (by rw[e];simp)
 by_cases f:(X T i t0).1=4
 ·rcases hv with c|c|c|c
  ·exact absurd c.1 aa
  ·exact absurd c.1 aa
  ·rcases hd.2 f with⟨a,b,_⟩|a
   ·rcases b with b|b
    ·exact absurd (c.2.1 a) b
    ·rw[e] at b;simp at b
   ·rw[c.2.2] at d⊢;exact a d
  ·exact absurd c.1 aa
 ·exact hd.1 f v (hv.mono (fun _ _=>trivial)) d
theorem e7.base (h:e7 T wt is s []){b:List Bool}(c:∀k,cx s.A k->cx b k):e7 T wt b s []:=⟨h.len,h.al,fun _ _ hb k hk=>hb k (c k hk),h.td,h.hd,h.dq⟩
theorem e7.start (T:List cJ)(wt:List cf)(is:List Bool):e7 T wt is ⟨MQ (Mx T) K,[],fun _=>[],0⟩ []:=by
 have hn:∀k,¬cx (MQ (Mx T) K) k:=fun k hk=>by unfold cx at hk;rw[aL,List.getElem?_replicate] at hk;split at hk<;>cases hk
 exact⟨ac,fun k hk=>absurd hk (hn k),fun _ _ _ k hk=>absurd hk (hn k),fun x b=>absurd b ac,fun x v hv=>absurd hv ac,fun i hi=>absurd hi (hn i)⟩
end
def hld (v:bj):Option (DataW bj×List MemPlace):=Z (.held v,[])
theorem p8:Maps.Keyed MO 2:=Maps.int_keyed underlying2
theorem uV {a:Int}(h0:0<=a)(b:a<1152921504606846976):keyOf MO 2 (.int MC a)=Z (.int MC a):=Maps.keyOf_int_mk underlying2 (WalkArith.wf_i64 aa)
def p9 (D:DataW bj)(f:Int->Option bj):Prop:=∀x:Int,Maps.has D (.int MC x)=(f x).isSome/\∀v,f x=Z v->∀z,D.atKey (.int MC x) z=.held v
def eM (w:az)(b n:Nat)(f:Int->Option bj):Prop:=∃D,w.ownsMap MO 2 hld b n D/\p9 D f
def jX (f:Int->Option bj)(x:Int)(v:bj):Int->Option Value:=fun y=>if y=x then Z v else f y
def gL (w:az)(b r n:Nat)(f:Int->Option bj)(left:Int->Bool)(c:Nat):Prop:=∃D L,w.ranges MO 2 hld b r n D L c/\p9 D f/\∀x:Int,L (.int MC x)=left x
section
variable {w w':az}{b r n c:Nat}{f:Int->Option bj}{t e:TypeId}{left:Int->Bool}
theorem eM.made (w:az):eM (w.alloc (.map #[] 0)) (I (G w)) 0 (fun _=>Y):=⟨_,World.ownsMap_made w MO 2 hld,fun _=>⟨rfl,fun _ h=>by grind⟩⟩
theorem eM.lt (h:eM w b n f):b<I (G w):=let⟨_,h,_⟩:=h;h.lt
theorem eM.same (h:eM w b n f)(e:w'.heap[b]?=w.heap[b]?):eM w' b n f:=by obtain⟨D,⟨c,d,hb,r⟩,g⟩:=h;exact⟨D,⟨c,d,e.trans hb,r⟩,g⟩
theorem eM.blk (h:eM w b n f):∃c k,w.heap[b]?=Z (.map c k):=let⟨_,⟨c,k,hb,_⟩,_⟩:=h;(by grind)
theorem eM.put (h:eM w b n f)(ht:prog.underlying t=Z (.map 2 e))(hn:n<100000){x:Int}(h0:0<=x)(i:x<1152921504606846976)(v:bj):
 ∃w',(Instr.mapUpdate t (.map (Z b)) (ak x) v).run MO w=.ok () w'/\eM w' b (n+1) (jX f x v)/\w.grownBy w' (Z b):=by
 obtain⟨D,h,d⟩:=h;obtain⟨w',r1,j,r3⟩:=h.update p8 ht (by unfold maxLen;omega) (uV h0 i) rfl;refine⟨w',r1,⟨_,j,fun y=>?_⟩,r3⟩
 unfold jX;by_cases g:y=x
 ·subst g;rw[aJ rfl];exact⟨Maps.has_put_same (k:=.int MC y) h.isMap trivial _,fun u c z=>by cases c;exact Maps.atKey_put_same (k:=.int MC y) h.isMap trivial _ _⟩
 ·rw[aI g,Maps.has_put_other (by grind)];exact⟨(d y).1,fun u c z=>by rw[Maps.atKey_put_other (by grind)];exact(d y).2 u c z⟩
theorem p9.val {D:DataW bj}(b:p9 D f){x:Int}{z v:bj}{ps:List MemPlace}(h:hld v=Z (D.atKey (.int MC x) (.held z),ps)):v=(f x).getD z:=by
 have c:=(Prod.mk.inj (p4 h)).1;cases hf:f x with
 |none=>
  rw[Maps.atKey_of_not_has (by rw[(b x).1,hf];rfl)] at c
  grind
 |some u=>
  rw[(b x).2 u hf] at c
  grind
theorem eM.look (h:eM w b n f)(ht:prog.underlying t=Z (.map 2 e)){z:bj}(hz:(zeroValue e).run MO w=.ok z w){x:Int}(h0:0<=x)(c:x<1152921504606846976):
 (Instr.lookup t (.map (Z b)) (ak x) K).run MO w=.ok ((f x).getD z) w:=by
 obtain⟨D,h,d⟩:=h;obtain⟨v,ps,r1,g⟩:=h.lookup p8 ht hz rfl (uV h0 c)
 grind [p9.val]
theorem eM.look_ok (h:eM w b n f)(ht:prog.underlying t=Z (.map 2 e)){z:bj}(hz:(zeroValue e).run MO w=.ok z w){x:Int}(h0:0<=x)(d:x<1152921504606846976):
 (Instr.lookup t (.map (Z b)) (ak x) ML).run MO w=.ok (a6 #[(f x).getD z,.bool (f x).isSome]) w:=by
 obtain⟨D,h,c⟩:=h;obtain⟨v,ps,r1,g⟩:=h.look_ok p8 ht hz rfl (uV h0 d)
 rw[r1,c.val g,(c x).1]
theorem gL.nQ (h:gL w b r n f left c):eM w b n f:=let⟨D,_,h,d,_⟩:=h;⟨D,h.owns,d⟩
theorem gL.left_eq (h:gL w b r n f left c):w.rangeLeft b r=c:=let⟨_,_,h,_⟩:=h;h.left_eq
theorem gL.lt (h:gL w b r n f left c):r<I (G w):=let⟨_,_,h,_⟩:=h;h.lt
theorem gL.same (h:gL w b r n f left c)(hb:w'.heap[b]?=w.heap[b]?)(hr:w'.heap[r]?=w.heap[r]?):gL w' b r n f left c:=by obtain⟨D,L,⟨d,e,g,seen,c0,i,j,k,l,m,o⟩,q⟩:=h;exact⟨D,L,⟨d,e,g,seen,c0,hb.trans i,j,k,l,hr.trans m,o⟩,q⟩
theorem eM.range (h:eM w b n f)(ht:prog.underlying t=Z (.map 2 e)):
 ∃w' c,(Instr.range t (.map (Z b))).run MO w=.ok (aq (I (G w))) w'/\gL w' b (I (G w)) n f (fun x=>(f x).isSome) c/\w.grownBy w' Y/\I (G w')=I (G w)+1:=by
 obtain⟨D,h,d⟩:=h;obtain⟨w',r1,g,r3,i⟩:=h.range p8 ht;exact⟨w',_,r1,⟨D,_,g,d,fun x=>(d x).1⟩,r3,i⟩
theorem gL.next (h:gL w b r n f left c)(ty:TypeId):(c=0/\(∀x,left x=K)/\(Instr.next (aq r) K ty).run MO w=.ok (a6 #[.bool K]) w)\/
 ∃x v w' d,left x=ML/\f x=Z v/\(Instr.next (aq r) K ty).run MO w=.ok (a6 #[.bool ML,ak x,v]) w'/\
  gL w' b r n f (fun y=>left y&&!(y==x)) d/\d<c/\w.grownBy w' (Z r)/\I (G w')=I (G w)/\(Instr.entry (aq r)).run MO w'=.ok (a6 #[ak x,v]) w':=by
 obtain⟨D,L,h,e,i⟩:=h;rcases h.next p8 ty with⟨h0,hl,j⟩|⟨key,v,F,y,w',d,l,m,hv,k,j,o,p,q,s,t⟩
 ·grind
 ·obtain⟨x,rfl,rfl,N⟩:=Maps.keyOf_int_inv underlying2 l;have hy:y.1=.held v:=by cases hv;rfl
  have B:f x=Z v:=by
   cases hf:f x with
   |none=>
    have g:=k (.lit (.int MC 0))
    rw[Maps.atKey_of_not_has (by rw[(e x).1,hf];rfl),hy] at g
    grind
   |some u=>
    have g:=k (.lit (.int MC 0))
    rw[(e x).2 u hf,hy] at g
    grind
  refine aK ⟨x,v,w',d,(i x).symm.trans m,B,j,⟨D,_,o,e,fun z=>?_⟩,p,q,s,t⟩
  rw[i z,show(Lit.int MC z).sameKey (.int MC x)=(z==x) from(by show decide _=_;grind)]
end
end Go.Proofs.YtpkjkjhanlbcoaaGreat
