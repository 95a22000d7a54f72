import Derived.Test.YtjckpdepffejnaaGreatDoorJ07
open Array renaming size->OU
open Bool renaming false->O4,true->C
open Classical renaming byContradiction->fo
open False renaming elim->ve
open Go renaming Calls->O2,Value->a7,info_parts->bM,maxLen->bL,wpList_append_own_at->bO
open Go.Ending renaming returned->Q
open Go.IntKind renaming i64->OW
open Go.Obj renaming cells->OX
open Go.Proofs.Tryz renaming prog->J
open Go.RowKit renaming Below->O7
open Go.Value renaming agg->bz,bool->bA,int->OY,ownBlock->O9,pointer->bq,slice->Z,tuple->ay
open Go.World renaming alloc->bu,cell?->V,frozen?->bF,heap->G,ownsRow->aC,setCell->O8
open Iff renaming rfl->gp
open Int renaming toNat->K
open List renaming contains->bJ,getD->X,length->L,replicate->aZ
open Nat renaming succ_pos->jw
open Ne renaming symm->F3
open Option renaming none->O0,some->H
namespace Go.Proofs.YtjckpdepffejnaaGreatDoor
set_option maxRecDepth 100000
set_option maxHeartbeats 2000000
open Tryz
open Go.RowKit W
theorem vB {P:Prop}(h:P:=by
 have P0:∀w,Calls prog 163 #[ak R] w λe w'=>e=.returned (.bool false)/\w'=w:=λw=>by have h:=kW R w;rw[hR] at h;exact h
 have hb0:=aw w (.cells #[.int .i64 k,.int .i64 R,.int .i64 A,.int .i64 B,.int .i64 I,.int .i64 n] 105)
 clear hu;go_enter func125,ntmps125;go_wp2_with fail;refine(U _).mono ?_;rintro e w1 ⟨rfl,rfl⟩
 go_wp2_with fail;refine(P0 _).mono ?_;rintro e w1 ⟨rfl,rfl⟩
 go_wp2_with fail;go_ret;exact⟨rfl,hb0⟩):P:=h
theorem z3 {P:Prop}(h:P:=by
 have P0:∀w,Calls prog 163 #[ak R] w λe w'=>e=.returned (.bool true)/\w'=w:=λw=>by have h:=kW R w;rw[hR] at h;exact h
 have P1:∀w,Calls prog 163 #[ak A] w λe w'=>e=.returned (.bool false)/\w'=w:=λw=>by have h:=kW A w;rw[hA] at h;exact h
 have hb0:=aw w (.cells #[.int .i64 k,.int .i64 R,.int .i64 A,.int .i64 B,.int .i64 I,.int .i64 n] 105)
 clear hu;go_enter func125,ntmps125;go_wp2_with fail;refine(U _).mono ?_;rintro e w1 ⟨rfl,rfl⟩
 go_wp2_with fail;refine(P0 _).mono ?_;rintro e w1 ⟨rfl,rfl⟩
 go_wp2_with fail;refine(P1 _).mono ?_;rintro e w1 ⟨rfl,rfl⟩
 go_wp2_with fail;go_ret;exact⟨rfl,hb0⟩):P:=h
theorem qC {P:Prop}(h:P:=by
 rintro e w1 ⟨rfl,rfl⟩
 go_wp2_with fail;refine(GU k R A B I n _).mono ?_;rintro e w2 ⟨rfl,hb2⟩
 go_wp2_with fail;go_ret;exact⟨rfl,hb0.trans (hb2.mono hb0.size)⟩):P:=h
theorem j9 {P:Prop}(h:P:=by have h:=z4 k w;rw[hu] at h;exact h):P:=h
theorem sr {P:Prop}(h:P:=by
 rintro e w1 ⟨rfl,rfl⟩
 go_wp2_with fail;go_ret;exact⟨rfl,hb0⟩):P:=h
theorem vC {P:Prop}(h:P:=by rw[hW0];exact hB1.trans ((((Fr.refl (λk=>k=w.heap.size) w1).set w.heap.size 0 _ rfl).set w.heap.size 1 _ rfl).below (Nat.le_of_lt l1) (λx e=>by have e:x=w.heap.size:=e;omega))):P:=h
theorem vD {P:Prop}(h:P:=by rw[hW0];exact a6 _ _ _ ((aY w1 ⟨w.heap.size,0,none⟩ ⟨w.heap.size,1,none⟩ _ ac).trans y1)):P:=h
theorem pz {P:Prop}(h:P:=by have h:=kW A w;rw[hA] at h;exact h):P:=h
theorem vE {P:Prop}(h:P:=by rw[hW1,aY _ _ _ _ ac];exact a6 _ _ _ y0):P:=h
theorem z5 {P:Prop}(h:P:=by simp only [World.setCell,Array.getElem?_modify,if_true,((hb1 _ (cj h.cb) (by grind [dX.k1])).trans h.cb),Option.map_some];simp):P:=h
theorem z6 {P:Prop}(h:P:=by rw[hW1];exact a6 _ _ _ ((aY w1 ⟨fb,0,none⟩ ⟨fb,1,none⟩ _ ac).trans y1)):P:=h
theorem GV (n o:Int)(w:az)(h:n<16\/256<n\/o<0\/1024<o):
 O2 J 114 #[ak n,ak o] w λe w'=>e=Q (ay #[bq O0,bz #[ak 1,ak (-1)]])/\O7 (OU (G w)) w w':=by
 have g:=aw w (OX #[OY OW 0,OY OW 0] 33)
 have i:=aO w (OX #[OY OW 0,OY OW 0] 33)
 have P:=EB n o (bu w (OX #[OY OW 0,OY OW 0] 33)) h;go_enter func114,ntmps114;go_wp2_with fail;refine P.mono ?_;rintro e w1 ⟨rfl,d⟩
 have c:=(d.block (OU (G w)) ac).trans i;have hB1:=g.trans (d.mono ac)
 have j:=d.size;simp at j;have y0:V w1 (av (OU (G w)) 0)=H (ak 0):=aD c
 have y1:V w1 (av (OU (G w)) 1)=H (ak 0):=aD c
 have q:bF w1 (av (OU (G w)) 0)=O4:=aE c
 have s:bF w1 (av (OU (G w)) 1)=O4:=aE c
 have l1:OU (G w)<OU (G w1):=aa;clear d i g c;go_wp2_with fail
 go_region_law (fail)
 all_goals
  obtain⟨b,hW0⟩:∃b,b=O8 (O8 w1 ⟨OU (G w),0,O0⟩ (OY OW 1)) ⟨OU (G w),1,O0⟩ (OY OW (-1)):=⟨_,rfl⟩
  rw[<-hW0];have t:OU (G b)=OU (G w1):=by rw[hW0];simp[World.setCell]
  have g0:V b (av (OU (G w)) 0)=H (ak 1):=by exact py
  have g1:V b (av (OU (G w)) 1)=H (ak (-1)):=by exact vD
  have l:O7 (OU (G w)) w b:=by exact vC
  have f:=(aw b (OX #[OY OW 1,OY OW (-1)] 33)).drew;have r0:=(f.cell (p:=av (OU (G w)) 0) (by show OU (G w)<_;omega)).trans g0;have r1:=(f.cell (p:=av (OU (G w)) 1) (by show OU (G w)<_;omega)).trans g1;have m:=l.trans (f.mono aa)
  generalize (bu b (OX #[OY OW 1,OY OW (-1)] 33)).drew=u at*;go_wp2_with fail;refine a3 (v:=ay #[bq O0,bz #[OY OW 1,OY OW (-1)]]) (by simp[results,results114,go_sem,r0,r1]) rfl ⟨rfl,m⟩
open Go.RowKit W Kp ch
structure Wf (w:az)(pw p q pc cW sd nb N O y g:Nat)(ws:List Int)(c:Int)(M rs:List Int):Prop where
 i2:iY w pw p q pc cW N O y g ws c M (aq sd) (Z (au nb) 12 12)
 GW:w.heap[sd]?=H (OX #[Z O0 0 0,Z O0 0 0] 197 (0,0))
 rts:w.heap[nb]?=H (OX (rs.map (Value.int OW)).toArray 2 (0,0))
 rl:L rs=12
 nq:nb≠q
section
variable {w:az}{pw p q pc cW sd nb N O y g:Nat}{ws:List Int}{c:Int}{M rs:List Int}
theorem Wf.apart (h:Wf w pw p q pc cW sd nb N O y g ws c M rs):(sd≠p/\sd≠q/\sd≠pc/\sd≠cW)/\(nb≠p/\nb≠q/\nb≠pc/\nb≠cW)/\nb≠pw/\nb≠sd:=by
 obtain⟨D,⟨es,f,hb,_⟩,_⟩:=h.i2.cd.hq;have i:=h.i2.ar.hp;have j:=h.i2.cd.hp;have b:=h.GW;have d:=h.rts;refine⟨⟨λe=>?_,λe=>?_,λe=>?_,λe=>?_⟩,⟨λe=>?_,h.nq,λe=>?_,λe=>?_⟩,λe=>?_,λe=>?_⟩
 ·grind
 ·rw[e,h.i2.ar.hq] at b;grind
 ·grind
 ·grind
 ·grind
 ·grind
 ·grind
 ·rw[e,h.i2.cY] at d;grind
 grind
end
def vF:List Int:=gs (aZ 24 0) 0 (hw 1 2) 2
def ss:List Int:=hI 16 3 0 vF (ew 3 0) 1 20
def z7:List Int:=(tw 2 12).set 0 (ew 3 0)
theorem b1:eV 16 3 0 vF (ew 3 0) 1=0:=by decide+kernel
theorem b2:stM 16 3 0 vF (ew 3 0) 1 20 (dT 8) []=[]:=by decide+kernel
theorem b3:eV 16 3 0 ss (ew 3 0) 1=0:=by decide+kernel
theorem b4:ld 16 3 0 ss (cq (ew 3 0)+1+1)=20:=by decide+kernel
theorem b5:(gN 16 3 0 ss [] z7).1=[(3,0),(0,0),(0,0),(0,0),(0,0),(0,0),(0,0),(0,0),(0,0),(0,0),(0,0),(0,0)]:=af
theorem b6:(gN 16 3 0 ss [] z7).2.2=[(1,[(0,0),(1,5)])]:=by decide+kernel
theorem GX {w w':az}{pw p q pc cW s nb n o:Nat}(b:iY w' pw p q pc cW n o 0 0 (aZ (n+o) 0) (dT o) [] (aq s) (Z (au nb) 12 12))(hs:w'.heap[s]?=H (OX #[Z O0 0 0,Z O0 0 0] 197 (0,0)))(hr:w'.heap[nb]?=H (OX ((tw 2 12).map (Value.int OW)).toArray 2 (0,0)))(_:O7 (OU (G w)) w w')(h0:16<=n):
 Wf w' pw p q pc cW s nb n o 0 0 (aZ (n+o) 0) (dT o) [] (tw 2 12):=by
 refine⟨b,hs,hr,ae,λe=>?_⟩
 have:=b.ar.hq;rw[<-e,hr] at this
 simp only [Option.some.injEq,Obj.cells.injEq,and_true] at this
 have c:=congrArg (λa:Array a7=>a[0]?) this
 rw[show n+o=(n+o-1)+1 by omega] at c;simp[tw,List.replicate_succ] at c
theorem GY {w:az}{pw p q pc cW sd nb N O y g:Nat}{ws M rs:List Int}(h:Wf w pw p q pc cW sd nb N O y g ws (dT O) M rs)(hr:L rs=12)(k:w.heap[nb]?=H (OX (rs.map (Value.int OW)).toArray 2 (0,0)))(hs:w.heap[sd]?=H (OX #[Z O0 0 0,Z O0 0 0] 197 (0,0))):
 ∃F,(gC ⟨pw,p,q,pc,sd,nb,N,O⟩).J F ⟨⟨y,g,ws,M,rs⟩,[],[]⟩ w/\∀b,F b->b=pw\/b=p\/b=q\/b=pc\/b=cW\/b=sd\/b=nb:=by
 obtain⟨a1,a2,m,n,o,s,t,u⟩:=h.i2.apart;obtain⟨⟨s1,s2,v,s4⟩,⟨n1,x,B,n4⟩,S,W⟩:=h.apart;have s5:sd≠pw:=λe=>by have l:=h.i2.cY;rw[<-e,hs] at l;simp at l
 have ab:=h.i2.cd.fz;refine⟨λb=>b=pw\/b=p\/b=q\/b=pc\/b=cW\/b=sd\/b=nb,⟨λb=>b=pw\/b=p\/b=q\/b=pc\/b=cW\/b=sd\/b=nb,O0,0,⟨λb=>b=pw\/b=p\/b=q\/b=pc\/b=cW\/b=nb,O0,0,⟨λb=>if b=p\/b=q then 1 else if b=pc\/b=cW then 2 else if b=pw then 3 else if b=nb then 4 else 0,cW,?_,λb=>?_⟩,hs,a9 _ _ _ _,λb d=>?_,aI (aI (aI (aI (aI (aK rfl))))),λd=>?_,λb e=>by simp[Value.ownBlock] at e,λb d=>?_⟩,a9 _ _ _ _,λb e=>by simp[Value.ownBlock] at e,λb=>?_⟩,λb d=>d⟩
 ·exact {
   ar:=h.i2.ar,cd:=h.i2.cd,wd:=h.i2.cY,rt:=k,rl:=hr
   a1:=ac
   a2:=ac
   c1:=by simp[F3 o,F3 t]
   c2:=by simp[F3 s,F3 u]
   w1:=by simp[a1,a2,m,n]
   r1:=by simp[n1,x,B,n4,S]
   le:=λb=>by
    split
    ·decide
    ·split
     ·decide
     ·split
      ·decide
      ·split<;>decide
   lt:=λb d=>by
    have k1:=h.i2.ar.fw;have k2:=h.i2.ar.fz;have k3:=h.i2.cd.fw;have k4:=cj h.i2.cY;have k5:=cj k;by_cases c:b=p\/b=q
    ·rcases c with e|e<;>(rw[e];assumption)
    ·rw[aJ c] at d;by_cases f:b=pc\/b=cW
     ·rcases f with e|e<;>(rw[e];assumption)
     ·rw[aJ f] at d;by_cases i:b=pw
      ·rw[i];assumption
      ·rw[aJ i] at d;by_cases j:b=nb
       ·rw[j];assumption
       ·rw[aJ j] at d;exact absurd rfl d}
 ·dsimp only;by_cases c:b=p\/b=q
  ·rw[aN c];rcases c with e|e<;>simp[e]
  ·rw[aJ c];by_cases f:b=pc\/b=cW
   ·rw[aN f];rcases f with e|e<;>simp[e]
   ·rw[aJ f];by_cases i:b=pw
    ·rw[aN i];simp[i]
    ·rw[aJ i];by_cases j:b=nb
     ·rw[aN j];simp[j]
     ·rw[aJ j];simp only [not_or] at c f;simp[c,f,i,j]
 ·rcases d with d|d|d|d|d|d
  ·exact aK d
  ·exact aI (aK d)
  ·exact aI (aI (aK d))
  ·exact aI (aI (aI (aK d)))
  ·exact aI (aI (aI (aI (aK d))))
  ·exact aI (aI (aI (aI (aI (aI d)))))
 ·rcases d with d|d|d|d|d|d
  ·exact s5 d
  ·exact s1 d
  ·exact s2 d
  ·exact v d
  ·exact s4 d
  ·exact W d.symm
 ·rcases d with d|d|d|d|d|d|d
  ·rw[d];exact cj h.i2.cY
  ·rw[d];exact h.i2.ar.fw
  ·rw[d];exact h.i2.ar.fz
  ·rw[d];exact h.i2.cd.fw
  ·rw[d];exact ab
  ·rw[d];exact cj hs
  ·rw[d];exact cj k
 ·exact⟨aK,λd=>d.elim id (λe=>by simp[Value.ownBlock] at e)⟩
def jv (n o:Nat):cv×ck:=(⟨⟨0,0,aZ (n+o) 0,[],tw 2 12⟩,[],[]⟩,⟨[],aZ 12 (0,0),[],[]⟩)
def cS (k:Int):Int:=
 if k=1\/k=2\/k=8 then 1 else if k=3\/k=5\/k=10\/k=11\/k=13 then 3 else if k=4\/k=6\/k=7\/k=14 then 7
 else if k=9\/k=12 then 6 else if k=15\/k=16 then 0 else-1
def iS (k n:Int):Int:=if k=1 then vc 1 n else if k=5 then hc 2 n else 0
def eE (r:Int):Bool:=decide (0<=r)&&decide (r<12)
def dY (k R A B n:Int):Int:=
 if cS k=-1 then 2 else if(decide (cS k=1\/cS k=3\/cS k=7)&&!eE R)||(decide (cS k=3\/cS k=6\/cS k=7)&&!eE A)||(decide (cS k=6\/cS k=7)&&!eE B) then 1 else iS k n
theorem qD (k:Int):k=1\/k=2\/k=3\/k=4\/k=5\/k=6\/k=7\/k=8\/k=9\/k=10\/k=11\/k=12\/k=13\/k=14\/k=15\/k=16\/(k<1\/16<k):=aa
theorem qE {k:Int}(h:k<1\/16<k):cS k=-1:=by unfold cS;rw[aJ aa,aJ aa,aJ aa,aJ aa,aJ aa]
theorem z4 (k:Int)(w:az):O2 J 119 #[ak k] w λe w'=>e=Q (ak (cS k))/\w'=w:=by
 rcases qD k with rfl|rfl|rfl|rfl|rfl|rfl|rfl|rfl|rfl|rfl|rfl|rfl|rfl|rfl|rfl|rfl|h
 case' inr.inr.inr.inr.inr.inr.inr.inr.inr.inr.inr.inr.inr.inr.inr.inr=>
  rw[qE h];have b:¬k=1:=aa;have c:¬k=2:=aa;have d:¬k=3:=aa;have f:¬k=4:=aa;have g:¬k=5:=aa;have i:¬k=6:=aa;have j:¬k=7:=aa;have l:¬k=8:=aa;have m:¬k=9:=aa;have n:¬k=10:=aa;have o:¬k=11:=aa;have p:¬k=12:=aa;have q:¬k=13:=aa;have s:¬k=14:=aa;have t:¬k=15:=aa;have u:¬k=16:=aa;clear h
 all_goals
  go_enter func119,ntmps119;go_wp2_with fail;go_ret;exact⟨rfl,rfl⟩
theorem kW (r:Int)(w:az):O2 J 163 #[ak r] w λe w'=>e=Q (bA (eE r))/\w'=w:=by
 by_cases h0:0<=r
 ·by_cases b:r<12
  ·have e:eE r=C:=by unfold eE;rw[bm h0,bm b];rfl
   rw[e];go_enter func163,ntmps163;go_wp2;go_ret;exact⟨rfl,rfl⟩
  ·have e:eE r=O4:=by unfold eE;rw[bk b,Bool.and_false]
   rw[e];go_enter func163,ntmps163;go_wp2;go_ret;exact⟨rfl,rfl⟩
 ·have e:eE r=O4:=by unfold eE;rw[bk h0,Bool.false_and]
  go_wp2;go_ret;exact⟨rfl,rfl⟩
theorem qF (n:Int)(w:az):O2 J 195 #[ak n] w λe w'=>e=Q (ay #[ak (ew 1 n),ak (vc 1 n)])/\O7 (OU (G w)) w w':=by
 go_enter func195,ntmps195;go_wp2_with fail;refine(x_ 1 n _).mono ?_;rintro e w1 ⟨rfl,hb⟩
 go_wp2_with fail;go_ret2;exact⟨rfl,hb⟩
theorem GU (k R A B I n:Int)(w:az):O2 J 164 #[bz #[ak k,ak R,ak A,ak B,ak I,ak n]] w λe w'=>e=Q (ak (iS k n))/\O7 (OU (G w)) w w':=by
 have hb0:=aw w (OX #[OY OW k,OY OW R,OY OW A,OY OW B,OY OW I,OY OW n] 105)
 by_cases b:k=1
 ·subst b;have e:iS 1 n=vc 1 n:=by unfold iS;rw[aN rfl]
  rw[e];go_enter func164,ntmps164;go_wp2_with fail;refine(qF n _).mono ?_;rintro e w1 ⟨rfl,hb⟩
  go_wp2_with fail;go_ret;exact⟨rfl,hb0.trans (hb.mono hb0.size)⟩
 ·by_cases c:k=5
  ·subst c;have e:iS 5 n=hc 2 n:=by unfold iS;rw[aJ aa,aN rfl]
   rw[e];go_enter func164,ntmps164;go_wp2_with fail;refine(qj 2 n _).mono ?_;exact sr
  ·have e:iS k n=0:=by unfold iS;rw[aJ b,aJ c]
   rw[e];go_enter func164,ntmps164;go_wp2_with fail;go_ret;exact⟨rfl,hb0⟩
theorem GZ (k:Int):cS k=1\/cS k=3\/cS k=7\/cS k=6\/cS k=0\/cS k=-1:=by
 unfold cS
 repeat' split
 all_goals simp
section
variable {k R A B I n:Int}{w:az}
theorem G0 (hu:cS k=1)(hR:eE R=O4):O2 J 125 #[bz #[ak k,ak R,ak A,ak B,ak I,ak n]] w λe w'=>e=Q (ak (1))/\O7 (OU (G w)) w w':=by
 have U:∀w,O2 J 119 #[ak k] w λe w'=>e=Q (ak (1))/\w'=w:=λw=>by exact j9
 exact vB
theorem G1 (hu:cS k=1)(b:eE R=C):O2 J 125 #[bz #[ak k,ak R,ak A,ak B,ak I,ak n]] w λe w'=>e=Q (ak (iS k n))/\O7 (OU (G w)) w w':=by
 have c:∀w,O2 J 119 #[ak k] w λe w'=>e=Q (ak (1))/\w'=w:=λw=>by exact j9
 have d:∀w,O2 J 163 #[ak R] w λe w'=>e=Q (bA C)/\w'=w:=λw=>by have h:=kW R w;rw[b] at h;exact h
 have hb0:=aw w (OX #[OY OW k,OY OW R,OY OW A,OY OW B,OY OW I,OY OW n] 105)
 clear hu;go_enter func125,ntmps125;go_wp2_with fail;refine(c _).mono ?_;rintro e w1 ⟨rfl,rfl⟩
 go_wp2_with fail;refine(d _).mono ?_;exact qC
theorem G5 (hu:cS k=3)(hR:eE R=O4):O2 J 125 #[bz #[ak k,ak R,ak A,ak B,ak I,ak n]] w λe w'=>e=Q (ak (1))/\O7 (OU (G w)) w w':=by
 have U:∀w,O2 J 119 #[ak k] w λe w'=>e=Q (ak (3))/\w'=w:=λw=>by exact j9
 exact vB
theorem G6 (hu:cS k=3)(hR:eE R=C)(hA:eE A=O4):O2 J 125 #[bz #[ak k,ak R,ak A,ak B,ak I,ak n]] w λe w'=>e=Q (ak (1))/\O7 (OU (G w)) w w':=by
 have U:∀w,O2 J 119 #[ak k] w λe w'=>e=Q (ak (3))/\w'=w:=λw=>by exact j9
 exact z3
theorem G7 (hu:cS k=3)(b:eE R=C)(hA:eE A=C):O2 J 125 #[bz #[ak k,ak R,ak A,ak B,ak I,ak n]] w λe w'=>e=Q (ak (iS k n))/\O7 (OU (G w)) w w':=by
 have c:∀w,O2 J 119 #[ak k] w λe w'=>e=Q (ak (3))/\w'=w:=λw=>by exact j9
 have d:∀w,O2 J 163 #[ak R] w λe w'=>e=Q (bA C)/\w'=w:=λw=>by have h:=kW R w;rw[b] at h;exact h
 have f:∀w,O2 J 163 #[ak A] w λe w'=>e=Q (bA C)/\w'=w:=λw=>by exact pz
 have hb0:=aw w (OX #[OY OW k,OY OW R,OY OW A,OY OW B,OY OW I,OY OW n] 105)
 clear hu;go_enter func125,ntmps125;go_wp2_with fail;refine(c _).mono ?_;rintro e w1 ⟨rfl,rfl⟩
 go_wp2_with fail;refine(d _).mono ?_;rintro e w1 ⟨rfl,rfl⟩
 go_wp2_with fail;refine(f _).mono ?_;exact qC
theorem G8 (hu:cS k=7)(hR:eE R=O4):O2 J 125 #[bz #[ak k,ak R,ak A,ak B,ak I,ak n]] w λe w'=>e=Q (ak (1))/\O7 (OU (G w)) w w':=by
 have U:∀w,O2 J 119 #[ak k] w λe w'=>e=Q (ak (7))/\w'=w:=λw=>by exact j9
 exact vB
theorem G9 (hu:cS k=7)(hR:eE R=C)(hA:eE A=O4):O2 J 125 #[bz #[ak k,ak R,ak A,ak B,ak I,ak n]] w λe w'=>e=Q (ak (1))/\O7 (OU (G w)) w w':=by
 have U:∀w,O2 J 119 #[ak k] w λe w'=>e=Q (ak (7))/\w'=w:=λw=>by exact j9
 exact z3
theorem G_ (hu:cS k=7)(b:eE R=C)(hA:eE A=C)(hB:eE B=O4):O2 J 125 #[bz #[ak k,ak R,ak A,ak B,ak I,ak n]] w λe w'=>e=Q (ak (1))/\O7 (OU (G w)) w w':=by
 have c:∀w,O2 J 119 #[ak k] w λe w'=>e=Q (ak (7))/\w'=w:=λw=>by exact j9
 have d:∀w,O2 J 163 #[ak R] w λe w'=>e=Q (bA C)/\w'=w:=λw=>by have h:=kW R w;rw[b] at h;exact h
 have f:∀w,O2 J 163 #[ak A] w λe w'=>e=Q (bA C)/\w'=w:=λw=>by exact pz
 have g:∀w,O2 J 163 #[ak B] w λe w'=>e=Q (bA O4)/\w'=w:=λw=>by have h:=kW B w;rw[hB] at h;exact h
 have hb0:=aw w (OX #[OY OW k,OY OW R,OY OW A,OY OW B,OY OW I,OY OW n] 105)
 clear hu;go_enter func125,ntmps125;go_wp2_with fail;refine(c _).mono ?_;rintro e w1 ⟨rfl,rfl⟩
 go_wp2_with fail;refine(d _).mono ?_;rintro e w1 ⟨rfl,rfl⟩
 go_wp2_with fail;refine(f _).mono ?_;rintro e w1 ⟨rfl,rfl⟩
 go_wp2_with fail;refine(g _).mono ?_;exact sr
theorem Ha (hu:cS k=7)(b:eE R=C)(hA:eE A=C)(hB:eE B=C):O2 J 125 #[bz #[ak k,ak R,ak A,ak B,ak I,ak n]] w λe w'=>e=Q (ak (iS k n))/\O7 (OU (G w)) w w':=by
 have c:∀w,O2 J 119 #[ak k] w λe w'=>e=Q (ak (7))/\w'=w:=λw=>by exact j9
 have d:∀w,O2 J 163 #[ak R] w λe w'=>e=Q (bA C)/\w'=w:=λw=>by have h:=kW R w;rw[b] at h;exact h
 have f:∀w,O2 J 163 #[ak A] w λe w'=>e=Q (bA C)/\w'=w:=λw=>by exact pz
 have g:∀w,O2 J 163 #[ak B] w λe w'=>e=Q (bA C)/\w'=w:=λw=>by have h:=kW B w;rw[hB] at h;exact h
 have hb0:=aw w (OX #[OY OW k,OY OW R,OY OW A,OY OW B,OY OW I,OY OW n] 105)
 clear hu;go_enter func125,ntmps125;go_wp2_with fail;refine(c _).mono ?_;rintro e w1 ⟨rfl,rfl⟩
 go_wp2_with fail;refine(d _).mono ?_;rintro e w1 ⟨rfl,rfl⟩
 go_wp2_with fail;refine(f _).mono ?_;rintro e w1 ⟨rfl,rfl⟩
 go_wp2_with fail;refine(g _).mono ?_;exact qC
theorem Hb (hu:cS k=6)(hA:eE A=O4):O2 J 125 #[bz #[ak k,ak R,ak A,ak B,ak I,ak n]] w λe w'=>e=Q (ak (1))/\O7 (OU (G w)) w w':=by
 have b:∀w,O2 J 119 #[ak k] w λe w'=>e=Q (ak (6))/\w'=w:=λw=>by exact j9
 have c:∀w,O2 J 163 #[ak A] w λe w'=>e=Q (bA O4)/\w'=w:=λw=>by exact pz
 have hb0:=aw w (OX #[OY OW k,OY OW R,OY OW A,OY OW B,OY OW I,OY OW n] 105)
 clear hu;go_enter func125,ntmps125;go_wp2_with fail;refine(b _).mono ?_;rintro e w1 ⟨rfl,rfl⟩
 go_wp2_with fail;refine(c _).mono ?_;exact sr
theorem Hc (hu:cS k=6)(hA:eE A=C)(hB:eE B=O4):O2 J 125 #[bz #[ak k,ak R,ak A,ak B,ak I,ak n]] w λe w'=>e=Q (ak (1))/\O7 (OU (G w)) w w':=by
 have b:∀w,O2 J 119 #[ak k] w λe w'=>e=Q (ak (6))/\w'=w:=λw=>by exact j9
 have c:∀w,O2 J 163 #[ak A] w λe w'=>e=Q (bA C)/\w'=w:=λw=>by exact pz
 have d:∀w,O2 J 163 #[ak B] w λe w'=>e=Q (bA O4)/\w'=w:=λw=>by have h:=kW B w;rw[hB] at h;exact h
 have hb0:=aw w (OX #[OY OW k,OY OW R,OY OW A,OY OW B,OY OW I,OY OW n] 105)
 clear hu;go_enter func125,ntmps125;go_wp2_with fail;refine(b _).mono ?_;rintro e w1 ⟨rfl,rfl⟩
 go_wp2_with fail;refine(c _).mono ?_;rintro e w1 ⟨rfl,rfl⟩
 go_wp2_with fail;refine(d _).mono ?_;exact sr
theorem Hd (hu:cS k=6)(hA:eE A=C)(hB:eE B=C):O2 J 125 #[bz #[ak k,ak R,ak A,ak B,ak I,ak n]] w λe w'=>e=Q (ak (iS k n))/\O7 (OU (G w)) w w':=by
 have b:∀w,O2 J 119 #[ak k] w λe w'=>e=Q (ak (6))/\w'=w:=λw=>by exact j9
 have c:∀w,O2 J 163 #[ak A] w λe w'=>e=Q (bA C)/\w'=w:=λw=>by exact pz
 have d:∀w,O2 J 163 #[ak B] w λe w'=>e=Q (bA C)/\w'=w:=λw=>by have h:=kW B w;rw[hB] at h;exact h
 have hb0:=aw w (OX #[OY OW k,OY OW R,OY OW A,OY OW B,OY OW I,OY OW n] 105)
 clear hu;go_enter func125,ntmps125;go_wp2_with fail;refine(b _).mono ?_;rintro e w1 ⟨rfl,rfl⟩
 go_wp2_with fail;refine(c _).mono ?_;rintro e w1 ⟨rfl,rfl⟩
 go_wp2_with fail;refine(d _).mono ?_;exact qC
theorem He (hu:cS k=0):O2 J 125 #[bz #[ak k,ak R,ak A,ak B,ak I,ak n]] w λe w'=>e=Q (ak (iS k n))/\O7 (OU (G w)) w w':=by
 have b:∀w,O2 J 119 #[ak k] w λe w'=>e=Q (ak (0))/\w'=w:=λw=>by exact j9
 have hb0:=aw w (OX #[OY OW k,OY OW R,OY OW A,OY OW B,OY OW I,OY OW n] 105)
 clear hu;go_enter func125,ntmps125;go_wp2_with fail;refine(b _).mono ?_;exact qC
theorem Hf (hu:cS k=-1):O2 J 125 #[bz #[ak k,ak R,ak A,ak B,ak I,ak n]] w λe w'=>e=Q (ak (2))/\O7 (OU (G w)) w w':=by
 have b:∀w,O2 J 119 #[ak k] w λe w'=>e=Q (ak (-1))/\w'=w:=λw=>by exact j9
 go_enter func125,ntmps125;go_wp2_with fail;refine(b _).mono ?_;rintro e w1 ⟨rfl,rfl⟩
 go_wp2;go_ret;exact⟨rfl,(aw w _)⟩
end
theorem ky (k R A B I n:Int)(w:az):O2 J 125 #[bz #[ak k,ak R,ak A,ak B,ak I,ak n]] w λe w'=>e=Q (ak (dY k R A B n))/\O7 (OU (G w)) w w':=by
 unfold dY;rcases GZ k with b|b|b|b|b|b
 ·rw[b,aJ ae];cases hR:eE R
  ·rw[aN ac];exact G0 b hR
  ·rw[aJ ac];exact G1 b hR
 ·rw[b,aJ ae];cases hR:eE R
  ·rw[aN ac];exact G5 b hR
  ·cases hA:eE A
   ·rw[aN ac];exact G6 b hR hA
   ·rw[aJ ac];exact G7 b hR hA
 ·rw[b,aJ ae];cases hR:eE R
  ·rw[aN ac];exact G8 b hR
  ·cases hA:eE A
   ·rw[aN ac];exact G9 b hR hA
   ·cases hB:eE B
    ·rw[aN ac];exact G_ b hR hA hB
    ·rw[aJ ac];exact Ha b hR hA hB
 ·rw[b,aJ ae];cases hA:eE A
  ·rw[aN ac];exact Hb b hA
  ·cases hB:eE B
   ·rw[aN ac];exact Hc b hA hB
   ·rw[aJ ac];exact Hd b hA hB
 ·rw[b,aJ ae];rw[aJ ac];exact He b
 ·rw[aN b];exact Hf b
abbrev dJ (k R A B I n:Int):Value:=bz #[ak k,ak R,ak A,ak B,ak I,ak n]
abbrev cA (k R A B I n:Int):Obj:=OX #[ak k,ak R,ak A,ak B,ak I,ak n] 105 (0,0)
theorem dZ {w:az}{b:Nat}{k R A B I n:Int}(h:w.heap[b]?=H (cA k R A B I n)):V w (av b 0)=H (ak k)/\V w (av b 1)=H (ak R)/\V w (av b 2)=H (ak A)/\V w (av b 3)=H (ak B)/\V w (av b 4)=H (ak I)/\V w (av b 5)=H (ak n):=by refine⟨?_,?_,?_,?_,?_,?_⟩<;>simp[World.cell?,h]
theorem vI {k R A B n:Int}(h:dY k R A B n=0):¬((decide (cS k=1\/cS k=3\/cS k=7)&&!eE R)||(decide (cS k=3\/cS k=6\/cS k=7)&&!eE A)||(decide (cS k=6\/cS k=7)&&!eE B))=C:=λc=>by grind [dY]
theorem vJ {r:Int}(h:eE r=C):0<=r/\r<12:=by grind [eE]
theorem z8 {k R A B n:Int}(h:dY k R A B n=0)(b:cS k=1\/cS k=3\/cS k=7):0<=R/\R<12:=by
 refine vJ ?_;cases c:eE R
 ·exact absurd (by grind) (vI h)
 ·rfl
theorem mS {k R A B n:Int}(h:dY k R A B n=0)(b:cS k=3\/cS k=6\/cS k=7):0<=A/\A<12:=by
 refine vJ ?_;cases c:eE A
 ·exact absurd (by grind) (vI h)
 ·rfl
theorem nt {k R A B n:Int}(h:dY k R A B n=0)(b:cS k=6\/cS k=7):0<=B/\B<12:=by
 refine vJ ?_;cases c:eE B
 ·exact absurd (by grind) (vI h)
 ·rfl
def cD (a:Wc)(hp:Nat):dr cv where
 J F S w:=∃c,(gC a).J c S w/\w.heap[hp]?=H (OX #[aq a.pw] 119 (0,0))/\¬c hp/\∀b,F b↔(c b\/b=hp)
 lt:=by
  rintro F S w ⟨c,f,g,i,e⟩ b hb;rcases(e b).1 hb with d|d
  ·exact(gC a).lt f b d
  ·rw[d];exact cj g
 keep:=by rintro F S w w' ⟨c,f,g,i,e⟩ hs hk;exact⟨c,(gC a).keep f hs (λb d=>hk b ((e b).2 (aK d))),(hk _ ((e _).2 (aI rfl))).trans g,i,e⟩
section
variable {a:Wc}{hp:Nat}{F:Nat->Prop}{S:cv}{w:az}
theorem lB (h:(cD a hp).J F S w):∃c,(gC a).J c S w/\(∀b,c b->F b)/\∀e s1 w',(gC a).J e s1 w'->b9 c w e w'->∃i,(cD a hp).J i s1 w'/\b9 F w i w':=by
 obtain⟨c,l,j,k,f⟩:=h;refine⟨c,l,λb d=>(f b).2 (aK d),λe s1 w' m g=>?_⟩
 have lp:=cj j;refine⟨λb=>e b\/b=hp,⟨e,m,(g.fr.block _ lp k).trans j,λd=>?_,λb=>gp⟩,⟨g.fr.mono (λb d=>(f b).2 (aK d)),λb d=>?_⟩⟩
 ·rcases g.sub _ d with d|d
  ·exact k d
  ·omega
 ·rcases d with d|d
  ·exact(g.sub b d).imp (λd=>(f b).2 (aK d)) id
  ·exact aK ((f b).2 (aI d))
structure Hg (a:Wc)(hp:Nat)(s:eL)(w:az):Prop where
 h0:V w (av hp 0)=H (aq a.pw)
 c0:V w (av a.pw 0)=H (aq a.p)
 c3:V w (av a.pw 3)=H (Z (au a.nb) 12 12)
 rt:∀i,i<12->V w (av a.nb i)=H (ak (X s.rs i 0))/\bF w (av a.nb i)=O4
 rl:L s.rs=12
 lp:hp<OU (G w)
 lw:a.pw<OU (G w)
 ln:a.nb<OU (G w)
theorem ft (h:(cD a hp).J F S w):Hg a hp S.s w:=by
 have b:w.heap[hp]?=H (OX #[aq a.pw] 119 (0,0)):=by obtain⟨c,_,b,_⟩:=h;exact b
 obtain⟨c,d,_⟩:=lB h;obtain⟨e,g1,_⟩:=ou d;obtain⟨c0,_,_,c3,lw,rl,ln,rt⟩:=kU g1;exact⟨by simp[World.cell?,b],c0,c3,rt,rl,cj b,lw,ln⟩
theorem mT (h:(cD a hp).J F S w):At w a.p a.q a.N a.O S.s.y S.s.g S.s.ws/\∀w' y g ws,At w' a.p a.q a.N a.O y g ws->dl a.p a.q w w'->∃b,(cD a hp).J b ⟨{S.s with y:=y,g:=g,ws:=ws},S.r,S.q⟩ w'/\b9 F w b w':=by
 obtain⟨j,c,_,d⟩:=lB h;obtain⟨k,g1,g2⟩:=ou c;obtain⟨k1,k2⟩:=l_ g1;refine⟨k1,λw' y g ws ha e=>?_⟩
 obtain⟨m1,f⟩:=k2 w' y g ws ha e;obtain⟨l,n1,i⟩:=g2 _ _ _ m1 f;exact d _ _ _ n1 i
theorem Hh (h:(cD a hp).J F S w)(i:Nat)(x:Int):∃b,(cD a hp).J b ⟨{S.s with rs:=S.s.rs.set i x},S.r,S.q⟩ (O8 w ⟨a.nb,i,O0⟩ (OY OW x))/\b9 F w b (O8 w ⟨a.nb,i,O0⟩ (OY OW x)):=by obtain⟨g,c,_,d⟩:=lB h;obtain⟨j,g1,g2⟩:=ou c;obtain⟨m1,e⟩:=zL g1 i x;obtain⟨k,n1,f⟩:=g2 _ _ _ m1 e;exact d _ _ _ n1 f
end
theorem Hi {a:Wc}{hp:Nat}{F:Nat->Prop}{S:cv}{w:az}(h:(cD a hp).J F S w):a.nb≠hp/\a.nb≠a.pw:=by obtain⟨g,b,i,c,_⟩:=h;obtain⟨j,ar,k,⟨l,ad,cap,⟨own,cW,hM,hO⟩,m,n,d,_⟩,r0,r1,f⟩:=b;exact⟨λe=>c (by rw[<-e];exact(f _).2 (aK (d _ ((hO _).2 (by rw[hM.r1];decide))))),λe=>by have b:=hM.r1;rw[e,hM.w1] at b;omega⟩
theorem Hj (n o:Nat)(w:az)(h0:16<=n)(t:n<=256)(ab:o<=1024):
 O2 prog 87 #[ak n,ak o] w λe w'=>∃a hp F,e=Q (ay #[aq hp,bz #[ak 0,ak 0]])/\(cD a hp).J F (jv n o).1 w'/\(a.N=n/\a.O=o)/\(∀b,F b->OU (G w)<=b)/\O7 (OU (G w)) w w':=by
 have u:=aw w (OX #[OY OW 0,OY OW 0] 33)
 have P:=zZ n o (bu w (OX #[OY OW 0,OY OW 0] 33)) h0 t ab;have x:=aO w (OX #[OY OW 0,OY OW 0] 33)
 have ad:OU (G w)<OU (G (bu w (OX #[OY OW 0,OY OW 0] 33))):=ac;have B:=cg u;clear u;go_enter func87,ntmps87;go_wp2_with fail;generalize bu w (OX #[OY OW 0,OY OW 0] 33)=w0 at*;generalize ag:OU (G w)=fb at*;refine P.mono ?_;clear P;rintro e w1 ⟨pw,p,q,pc,cW,s,nb,rfl,N,hs,hr,hg,i⟩
 obtain⟨l,S,g1⟩:=GY (GX N hs hr i aa) ae hr hs;have f:=(i.block fb ad).trans x;have y0:V w1 (av fb 0)=H (ak 0):=aD f
 have y1:V w1 (av fb 1)=H (ak 0):=aD f
 have z0:bF w1 (av fb 0)=O4:=aE f
 have ao:bF w1 (av fb 1)=O4:=aE f
 have ai:=cj f;have g:aA (_/\(∀b,l b->fb<b)/\_):=⟨S,λb d=>by obtain⟨ap,g2,g3,g4,g5,ar,aB⟩:=hg;rcases g1 b d with e|e|e|e|e|e|e<;>(rw[e];omega),B.o.trans (i.mono aa)⟩
 clear N hs hr hg i S g1 x B f;go_wp2_with fail;obtain⟨c,hW1⟩:∃c,c=O8 (O8 w1 ⟨fb,0,O0⟩ (OY OW 0)) ⟨fb,1,O0⟩ (OY OW 0):=⟨_,rfl⟩
 rw[<-hW1];have v0:V c (av fb 0)=H (ak 0):=by exact vE
 have v1:V c (av fb 1)=H (ak 0):=by exact z6
 have m:Fr (λk=>k=fb) w1 c:=by rw[hW1];exact((Fr.refl (λk=>k=fb) w1).set fb 0 _ rfl).set fb 1 _ rfl
 have al:OU (G c)=OU (G w1):=by rw[hW1];simp
 clear hW1;have j2:=(gC ⟨pw,p,q,pc,s,nb,n,o⟩).keep g.o.1 m.size (λb d=>m.block b ((gC ⟨pw,p,q,pc,s,nb,n,o⟩).lt g.o.1 b d) (λe=>by have t:=g.o.2.1 b d;have e:=e;omega))
 have j:=(aw c (OX #[OY OW 0,OY OW 0] 33)).alloc ac (OX #[bq (H ⟨pw,0,O0⟩)] 119)
 have W:=aO (bu c (OX #[OY OW 0,OY OW 0] 33)) (OX #[bq (H ⟨pw,0,O0⟩)] 119)
 have am:OU (G (bu c (OX #[OY OW 0,OY OW 0] 33)))=OU (G w1)+1:=by simp[al]
 rw[am] at W;have an:=g.o.2.2.trans (m.below (Nat.le_of_lt ai) (λk e=>Nat.le_of_eq (Eq.symm e)))
 refine a3 (v:=ay #[aq (OU (G w1)+1),bz #[ak 0,ak 0]]) (by simp only [results,results87];simp[go_sem,((j.cell (p:=av fb 0) (by show fb<_;omega)).trans v0),((j.cell (p:=av fb 1) (by show fb<_;omega)).trans v1)]) rfl ⟨⟨pw,p,q,pc,s,nb,n,o⟩,OU (G w1)+1,λb=>l b\/b=OU (G w1)+1,rfl,⟨l,((gC ⟨pw,p,q,pc,s,nb,n,o⟩).below j2 j),W,λd=>?_,λb=>gp⟩,⟨rfl,rfl⟩,λb d=>?_,by rw[ag];exact an.trans (j.mono aa)⟩
 ·have:=(gC ⟨pw,p,q,pc,s,nb,n,o⟩).lt j2 _ d;omega
 ·rcases d with d|d
  ·have:=g.o.2.1 b d;omega
  ·omega
section
variable {a:Wc}{hp:Nat}{F:Nat->Prop}{S:cv}{w:az}
theorem Hk (R A B I n:Int)(w:az)(hp:Nat):O2 J 130 #[aq hp,dJ 1 R A B I n] w λe w'=>e=Q (ay #[ak (ew 1 n),ak (vc 1 n)])/\O7 (OU (G w)) w w':=by
 have b:=aw w (cA 1 R A B I n)
 go_enter func130,ntmps130;go_wp2_with fail;refine(qF n _).mono ?_;rintro e w1 ⟨rfl,hb⟩
 go_wp2_with fail;go_ret2;exact⟨rfl,b.trans (hb.mono b.size)⟩
theorem Hl (h:(cD a hp).J F S w)(m:Int)(hm:m<=(a.N:Int)-S.s.y):
 O2 prog 278 #[aq hp,ak m] w λe w'=>e=Q (ak 0)/\O7 (OU (G w)) w w':=by
 obtain⟨h0,c0,_⟩:=ft h;have P:=qs w (mT h).1;go_enter func278,ntmps278;go_wp2_with fail;refine P.mono ?_;exact qt
def jP (rs:List Int)(y:Nat)(ws:List Int)(rl:List Nat):Nat->List Int
 |0=>ws
 |j+1=>(jP rs y ws rl j).set (y+1+j) (X rs (X rl j 0) 0)
end
theorem z9 {w:az}{base n m:Nat}{e:TypeId}{ad:Option Addr}{cap:Nat}{b:List a7}(h:aC w base e m (Z ad n cap) n b):ad=O0->n=0/\cap=0:=λd=>by
 subst d;rcases h.2 with⟨hv,hn⟩|⟨g,c,f,hv,_⟩
 all_goals grind
structure b_ where
 a:Wc
 s:eL
 Y:List Int
 G:List Int
structure cy where
 f:Int->Int
 td:List Int
 ep:List Int
def b_.T (k:b_):List Int:=k.G++k.Y
def b_.ld (k:b_)(x:Int):Int:=Proofs.YtjckpdepffejnaaGreatDoor.ld k.a.N k.s.y k.s.g k.s.ws x
def b_.jt (k:b_)(x:Int):Bool:=di x&&bJ k.T (cq x)
def b_.dd (k:b_)(s:cy)(x:Int):Bool:=k.jt x&&(s.f (cq x)==-1)
def b_.nw (k:b_)(s:cy)(x:Int):Int:=if(k.jt x&&!(s.f (cq x)==-1))=C then ew 3 (s.f (cq x)) else x
def b_.ma (k:b_)(s:cy)(x:Int):cy:=if k.dd s x=C then {s with f:=ic s.f (cq x) (cq x),td:=s.td++[cq x]} else s
def b_.fQ (k:b_)(s:cy)(a:Int):Nat->cy
 |0=>s
 |n+1=>k.ma (k.fQ s a n) (k.ld (a+1+n))
def b_.lk (k:b_)(s:cy)(a:Int):cy:=
 if pk (k.ld a)=1\/pk (k.ld a)=2 then k.fQ s a (K (pf (k.ld a)))
 else if pk (k.ld a)=3 then k.ma s (k.ld (a+2))
 else if pk (k.ld a)=4 then {s with ep:=s.ep++[a]} else s
def b_.l1 (k:b_)(s:cy):cy:=k.lk {s with td:=s.td.take (L s.td-1)} (X s.td (L s.td-1) 0)
def b_.lm (k:b_):Nat->cy->cy
 |0,s=>s
 |n+1,s=>if 0<L s.td then k.lm n (k.l1 s) else s
def b_.cX (k:b_)(t:List Int×cy)(a:Int):List Int×cy:=if k.dd t.2 (k.ld (a+1))=C then(t.1++[a],t.2) else(t.1,k.ma t.2 (k.ld (a+2)))
def b_.em (k:b_)(s:cy)(l:List Int):List Int×cy:=l.foldl k.cX ([],s)
def b_.kv (k:b_)(s:cy):Bool×cy:=(decide (L (k.em s s.ep).1<L s.ep),{(k.em s s.ep).2 with ep:=(k.em s s.ep).1})
def b_.al (k:b_)(s:cy)(x:Int):Bool:=!k.dd s x
def b_.lost (k:b_)(s:cy):Nat:=L (k.T.filter (λa=>s.f a==-1))
structure c8 (k:b_)(s:cy):Prop where
 nd:k.T.Nodup
 ps:∀a∈k.T,0<=a/\a<=2000
 td:∀a∈s.td,a∈k.T
 ep:∀a∈s.ep,a∈k.T
 tl:L k.T<=4000
 sum:k.lost s+L s.td+L s.ep<=L k.T
section
variable {k:b_}{s:cy}
theorem b_.su {x:Int}(h:k.dd s x=C):di x=C/\cq x∈k.T/\s.f (cq x)=-1:=by grind [dd,jt]
theorem b_.z_ (hn:k.T.Nodup){x:Int}(h:k.dd s x=C)(h0:∀a∈k.T,0<=a):k.lost (k.ma s x)+1=k.lost s:=by
 obtain⟨_,b,c⟩:=b_.su h;have e:(k.ma s x).f=ic s.f (cq x) (cq x):=by grind [ma]
 have hp:=h0 _ b;unfold b_.lost;rw[e,zd _ _ _ _ aa];exact FE _ _ (by grind) (by grind)
theorem c8.ma (h:c8 k s)(x:Int):c8 k (k.ma s x)/\k.lost (k.ma s x)+L (k.ma s x).td=k.lost s+L s.td/\(k.ma s x).ep=s.ep:=by
 by_cases c:k.dd s x=C
 ·have d:=b_.z_ h.nd c (λa ha=>(h.ps a ha).1)
  obtain⟨_,e,_⟩:=b_.su c;have f:(k.ma s x).td=s.td++[cq x]:=by grind [b_.ma]
  have b:(k.ma s x).ep=s.ep:=by grind [b_.ma]
  have hs:=h.sum;have g:L (k.ma s x).td=L s.td+1:=by grind
  refine⟨⟨h.nd,h.ps,λa ha=>?_,(b▸h.ep),h.tl,by grind⟩,aa,b⟩
  grind [td]
 grind [b_.ma]
theorem c8.fQ (h:c8 k s)(a:Int):∀n,c8 k (k.fQ s a n)/\k.lost (k.fQ s a n)+L (k.fQ s a n).td=k.lost s+L s.td/\(k.fQ s a n).ep=s.ep
 |0=>⟨h,rfl,rfl⟩
 |n+1=>by obtain⟨b,c,d⟩:=c8.fQ h a n;obtain⟨e,j2,cI⟩:=b.ma _;exact⟨e,j2.trans c,cI.trans d⟩
theorem c8.lk (h:c8 k s){a:Int}(ha:a∈k.T)(hr:k.lost s+L s.td+L s.ep+1<=L k.T):c8 k (k.lk s a)/\k.lost (k.lk s a)+L (k.lk s a).td=k.lost s+L s.td/\L (k.lk s a).ep<=L s.ep+1:=by
 unfold b_.lk;split
 ·grind [fQ]
 ·split
  ·grind [ma]
  ·split
   ·refine⟨⟨h.nd,h.ps,h.td,λb hb=>?_,h.tl,?_⟩,rfl,ac⟩
    ·grind [ep]
    ·show k.lost s+L s.td+L (s.ep++[a])<=_
     grind
   grind
theorem c8.l1 (h:c8 k s)(hl:0<L s.td):c8 k (k.l1 s)/\k.lost (k.l1 s)+L (k.l1 s).td+1=k.lost s+L s.td:=by
 have hm:X s.td (L s.td-1) 0∈s.td:=by grind
 have hs:=h.sum;have e:L (s.td.take (L s.td-1))=L s.td-1:=by simp_all
 have h0:c8 k {s with td:=s.td.take (L s.td-1)}:=⟨h.nd,h.ps,λa ha=>h.td a (by grind),h.ep,h.tl,by show k.lost s+L (s.td.take _)+L s.ep<=_;omega⟩
 have b:k.lost {s with td:=s.td.take (L s.td-1)}=k.lost s:=rfl
 grind [lk,td,b_.l1]
theorem c8.lm:∀(n:Nat){s:cy},c8 k s->c8 k (k.lm n s)/\(k.lost s+L s.td<n->(k.lm n s).td=[])/\k.lost (k.lm n s)+L (k.lm n s).td<=k.lost s+L s.td
 |0,s,h=>⟨h,λe=>aa,aG _⟩
 |n+1,s,h=>by
  unfold b_.lm;by_cases c:0<L s.td
  ·rw[aN c];obtain⟨b,d⟩:=h.l1 c;obtain⟨f,j2,cI⟩:=c8.lm n b
   grind
  grind
theorem c8.cX {t:List Int×cy}(h:c8 k t.2){a:Int}(ha:a∈k.T)(ht:∀b∈t.1,b∈k.T):c8 k (k.cX t a).2/\L (k.cX t a).1<=L t.1+1/\(∀b∈(k.cX t a).1,b∈k.T)/\k.lost (k.cX t a).2+L (k.cX t a).2.td=k.lost t.2+L t.2.td/\(k.cX t a).2.ep=t.2.ep:=by
 unfold b_.cX;split
 ·grind
 grind [ma]
theorem c8.jd:∀(l:List Int){t:List Int×cy},c8 k t.2->(∀a∈l,a∈k.T)->(∀b∈t.1,b∈k.T)->c8 k (l.foldl k.cX t).2/\L (l.foldl k.cX t).1<=L t.1+L l/\(∀b∈(l.foldl k.cX t).1,b∈k.T)/\k.lost (l.foldl k.cX t).2+L (l.foldl k.cX t).2.td=k.lost t.2+L t.2.td/\(l.foldl k.cX t).2.ep=t.2.ep
 |[],t,h,_,ht=>(by grind)
 |a::l,t,h,hl,ht=>by
  obtain⟨c,e,d,f,g⟩:=h.cX (hl a ac) ht;obtain⟨i,j2,cI,cM,d_⟩:=c8.jd l c (by grind) d
  grind
theorem c8.kv (h:c8 k s):c8 k (k.kv s).2/\k.lost (k.kv s).2+L (k.kv s).2.td=k.lost s+L s.td/\L (k.kv s).2.ep<=L s.ep/\((k.kv s).1=C->L (k.kv s).2.ep<L s.ep):=by
 obtain⟨d,b,f,c,g⟩:=c8.jd s.ep (t:=([],s)) h h.ep (by grind)
 have i:k.lost (k.kv s).2=k.lost (k.em s s.ep).2:=rfl;have j:(k.kv s).2.td=(k.em s s.ep).2.td:=rfl;have l:(k.kv s).2.ep=(k.em s s.ep).1:=rfl;have b:L (k.em s s.ep).1<=0+L s.ep:=b;have c:k.lost (k.em s s.ep).2+L (k.em s s.ep).2.td=k.lost s+L s.td:=c;have hs:=h.sum;refine⟨⟨h.nd,h.ps,d.td,f,h.tl,?_⟩,by simp_all,by grind,λe=>?_⟩
 ·grind
 ·exact of_decide_eq_true e
end
structure fR where
 pk:Nat
 ct:Nat
 bs:Nat
 yv:a7
 ov:a7
structure dX (c:fR)(k:b_)(qG:Nat->Prop)(own:Nat->Nat)(s:cy)(vt cw:a7)(w:az):Prop where
 wd:(eH k.a).J qG k.s w
 w1:∀b,qG b↔own b=1
 cb:w.heap[c.pk]?=H (OX #[aq k.a.pw,c.yv,c.ov,.map (H c.ct),aq c.bs,vt,cw] 263 (0,0))
 k1:own c.pk=5
 mp:Mp w c.ct k.T s.f
 m1:own c.ct=6
 tr:aC w 0 3 1 vt (L s.td) (s.td.map (Value.int OW))
 iG:∀b,H b=O9 vt->own b=7
 er:aC w 0 3 1 cw (L s.ep) (s.ep.map (Value.int OW))
 eo:∀b,H b=O9 cw->own b=8
 yr:aC w 0 3 1 c.yv (L k.Y) (k.Y.map (Value.int OW))
 i3:∀b,H b=O9 c.yv->own b=9
 gr:aC w 0 3 1 c.ov (L k.G) (k.G.map (Value.int OW))
 go:∀b,H b=O9 c.ov->own b=10
 lt:∀b,own b≠0->b<w.heap.size
section
variable {c:fR}{k:b_}{qG:Nat->Prop}{own:Nat->Nat}{s:cy}{vt cw:a7}{w w':az}
theorem dX.but (h:dX c k qG own s vt cw w)(L:Nat->Prop)(hs:OU (G w)<=OU (G w'))(hk:∀b,b<OU (G w)->own b≠0->¬L (own b)->w'.heap[b]?=w.heap[b]?)
 (f:L 5->w'.heap[c.pk]?=H (OX #[aq k.a.pw,c.yv,c.ov,.map (H c.ct),aq c.bs,vt,cw] 263 (0,0)))
 (hM:L 6->Mp w' c.ct k.T s.f)(g:L 7->aC w' 0 3 1 vt s.td.length (s.td.map (Value.int OW)))(i:L 8->aC w' 0 3 1 cw s.ep.length (s.ep.map (Value.int OW)))(j:¬L 1)(m:¬L 9)(n:¬L 10):dX c k qG own s vt cw w' where
 wd:=(eH k.a).keep h.wd hs (λb d=>hk b ((eH k.a).lt h.wd b d) (by rw[(h.w1 b).1 d];decide) (by rw[(h.w1 b).1 d];omega))
 w1:=h.w1
 cb:=by grind [cb,k1]
 k1:=h.k1
 mp:=by
  by_cases l:L 6
  ·grind
  ·exact h.mp.same (hk _ h.mp.lt (by grind [m1]) (by grind [m1]))
 m1:=h.m1
 tr:=by
  by_cases l:L 7
  ·grind
  ·exact cK h.tr (λb e=>hk b (cu h.tr b e).2 (by grind [iG]) (by grind [iG]))
 iG:=h.iG
 er:=by
  by_cases l:L 8
  ·grind
  ·exact cK h.er (λb e=>hk b (cu h.er b e).2 (by grind [eo]) (by grind [eo]))
 eo:=h.eo
 yr:=cK h.yr (λb e=>hk b (cu h.yr b e).2 (by grind [i3]) (by grind [i3]))
 i3:=h.i3
 gr:=cK h.gr (λb e=>hk b (cu h.gr b e).2 (by grind [go]) (by grind [go]))
 go:=h.go
 lt:=λb hb=>aL (h.lt b hb) hs
end
def c9 (c:fR)(k:b_)(vt f:a7):dr cy where
 J F s w:=∃d own,dX c k d own s vt f w/\∀b,F b↔own b≠0
 lt:=by rintro F s w ⟨d,own,h,e⟩ b hb;exact h.lt b ((e b).1 hb)
 keep:=by rintro F s w w' ⟨d,own,h,e⟩ hs hk;exact⟨d,own,h.but (λ_=>False) hs (λb _ h0 _=>hk b ((e b).2 h0)) ve ve ve ve id id id,e⟩
def e_ (c:fR)(k:b_):dr cy where
 J F s w:=∃vt b,(c9 c k vt b).J F s w
 lt:=by
  rintro F s w ⟨vt,b,h⟩
  exact(c9 c k vt b).lt h
 keep:=by rintro F s w w' ⟨vt,b,h⟩ hs hk;exact⟨vt,b,(c9 c k vt b).keep h hs hk⟩
section
variable {c:fR}{k:b_}{F:Nat->Prop}{s:cy}{vt cw:a7}{w:az}
theorem e3 (h:(c9 c k vt cw).J F s w):V w (av c.pk 0)=H (aq k.a.pw)/\V w (av c.pk 1)=H c.yv/\V w (av c.pk 2)=H c.ov/\V w (av c.pk 3)=H (.map (H c.ct))/\V w (av c.pk 4)=H (aq c.bs)/\V w (av c.pk 5)=H vt/\V w (av c.pk 6)=H cw/\(∀i,bF w (av c.pk i)=O4)/\c.pk<OU (G w):=by
 obtain⟨d,own,h,_⟩:=h;have b:=h.cb;refine⟨?_,?_,?_,?_,?_,?_,?_,λi=>?_,cj b⟩
 all_goals first|simp[World.cell?,b]|simp[World.frozen?,b]
theorem ig (h:(c9 c k vt cw).J F s w):At w k.a.p k.a.q k.a.N k.a.O k.s.y k.s.g k.s.ws/\V w (av k.a.pw 0)=H (aq k.a.p)/\V w (av k.a.pw 3)=H (Z (au k.a.nb) 12 12)/\∀i,i<12->V w (av k.a.nb i)=H (ak (X k.s.rs i 0)):=by obtain⟨b,own,h,_⟩:=h;obtain⟨c0,_,_,c3,_,_,_,rt⟩:=kU h.wd;exact⟨(l_ h.wd).1,c0,c3,λi hi=>(by grind)⟩
theorem qH (h:(c9 c k vt cw).J F s w):Mp w c.ct k.T s.f/\∀w' f,Mp w' c.ct k.T f->Fr (λb=>b=c.ct) w w'->(c9 c k vt cw).J F {s with f:=f} w'/\b9 F w F w':=by
 obtain⟨i,own,h,j⟩:=h;refine⟨h.mp,λw' f hm fr=>⟨⟨i,own,?_,j⟩,⟨(by grind [Fr.mono,dX.m1]),λ_ d=>aK d⟩⟩⟩
 have g:dX c k i own {s with f:=f} vt cw w':=by
  have hk:∀b,b<OU (G w)->own b≠6->_=_:=λb hb hn=>fr.block b hb (λe=>hn (by rw[e];exact h.m1))
  exact {
   wd:=(eH k.a).keep h.wd fr.size (λb d=>hk b ((eH k.a).lt h.wd b d) (by rw[(h.w1 b).1 d];decide)),w1:=h.w1
   cb:=(by grind [dX.cb,dX.k1]),k1:=h.k1,mp:=hm,m1:=h.m1
   tr:=cK h.tr (λb e=>hk b (cu h.tr b e).2 (by grind [dX.iG])),iG:=h.iG
   er:=cK h.er (λb e=>hk b (cu h.er b e).2 (by grind [dX.eo])),eo:=h.eo
   yr:=cK h.yr (λb e=>hk b (cu h.yr b e).2 (by grind [dX.i3])),i3:=h.i3
   gr:=cK h.gr (λb e=>hk b (cu h.gr b e).2 (by grind [dX.go])),go:=h.go
   lt:=λb hb=>aL (h.lt b hb) fr.size}
 omega
theorem Hm {v0:a7}(h:(c9 c k v0 cw).J F s w){v1:a7}{l:List Int}{w1:az}(g:Fr (λb=>H b=O9 v0) w w1)(ho:aC w1 0 3 1 v1 (L l) (l.map (Value.int OW)))(hn:∀b,H b=O9 v1->H b=O9 v0\/¬F b):
 (c9 c k v1 cw).J (λb=>F b\/H b=O9 v1) {s with td:=l} (O8 w1 ⟨c.pk,5,O0⟩ v1)/\Fr F w (O8 w1 ⟨c.pk,5,O0⟩ v1):=by
 obtain⟨i,own,h,m⟩:=h;have sz:OU (G (O8 w1 ⟨c.pk,5,O0⟩ v1))=OU (G w1):=by simp_all
 have hb1:∀b,b<OU (G w)->own b≠7->_=_:=λb hb hn=>g.block b hb (λe=>hn (h.iG b e))
 have hb:∀b,b<OU (G w)->own b≠7->own b≠5->(O8 w1 ⟨c.pk,5,O0⟩ v1).heap[b]?=w.heap[b]?:=λb hb n p=>(by grind [dX.k1,aW])
 have o:∀b,H b=O9 v1->_:=λb e=>(hn b e).elim (λe=>aK (h.iG b e)) (λhl=>aI (fo (λc=>hl ((m b).2 c))))
 have f:∀b j,own b=j->j≠7->j≠0->(if H b=O9 v1 then 7 else own b)=j:=λb j e n h0=>(aJ (λc=>by rcases o b c with c|c<;>omega)▸e)
 have q:=λb e=>(cu ho b e).2;refine⟨⟨i,λb=>if H b=O9 v1 then 7 else own b,?_,λb=>?_⟩,?_⟩
 ·exact {
   wd:=(eH k.a).keep h.wd ((sz▸g.size)) (λb d=>hb b ((eH k.a).lt h.wd b d) (by rw[(h.w1 b).1 d];decide) (by rw[(h.w1 b).1 d];decide))
   w1:=λb=>⟨λd=>f _ _ ((h.w1 b).1 d) ae ae,λd=>by
    by_cases e:H b=O9 v1
    ·simp_all
    ·rw[aJ e] at d;exact(h.w1 b).2 d⟩
   k1:=f _ _ h.k1 ae ae,m1:=f _ _ h.m1 ae ae
   cb:=by exact z5
   mp:=h.mp.same (hb _ h.mp.lt (by grind [dX.m1]) (by grind [dX.m1]))
   tr:=(by grind [cK,dX.k1,aW])
   iG:=λb e=>by grind
   er:=cK h.er (λb e=>hb b (cu h.er b e).2 (by grind [dX.eo]) (by grind [dX.eo]))
   eo:=λb e=>(by grind [dX.eo])
   yr:=cK h.yr (λb e=>hb b (cu h.yr b e).2 (by grind [dX.i3]) (by grind [dX.i3]))
   i3:=λb e=>(by grind [dX.i3])
   gr:=cK h.gr (λb e=>hb b (cu h.gr b e).2 (by grind [dX.go]) (by grind [dX.go]))
   go:=λb e=>(by grind [dX.go])
   lt:=λb hb=>by grind [dX.lt,Fr.size,aL]}
 ·grind
 grind [Fr.mono,dX.iG,Fr.set,dX.k1]
theorem Aa {v0:a7}(h:(c9 c k v0 cw).J F s w){v1:a7}{l:List Int}{w1:az}(g:Fr (λb=>H b=O9 v0) w w1)(ho:aC w1 0 3 1 v1 (L l) (l.map (Value.int OW)))(hn:∀b,H b=O9 v1->H b=O9 v0\/OU (G w)<=b):
 ∃f,(c9 c k v1 cw).J f {s with td:=l} (O8 w1 ⟨c.pk,5,O0⟩ v1)/\b9 F w f (O8 w1 ⟨c.pk,5,O0⟩ v1):=by
 obtain⟨i,j⟩:=Hm h g ho (λb e=>(hn b e).imp id (λd hb=>by have:=(c9 c k v0 cw).lt h b hb;omega))
 obtain⟨m,own,hm,n⟩:=h;exact⟨_,i,j,λb hb=>(by grind [dX.iG])⟩
theorem Ab {v0:a7}(h:(c9 c k vt v0).J F s w){v1:a7}{l:List Int}{w1:az}(g:Fr (λb=>H b=O9 v0) w w1)(ho:aC w1 0 3 1 v1 (L l) (l.map (Value.int OW)))(hn:∀b,H b=O9 v1->H b=O9 v0\/¬F b):
 (c9 c k vt v1).J (λb=>F b\/H b=O9 v1) {s with ep:=l} (O8 w1 ⟨c.pk,6,O0⟩ v1)/\Fr F w (O8 w1 ⟨c.pk,6,O0⟩ v1):=by
 obtain⟨i,own,h,m⟩:=h;have sz:OU (G (O8 w1 ⟨c.pk,6,O0⟩ v1))=OU (G w1):=by simp_all
 have hb1:∀b,b<OU (G w)->own b≠8->_=_:=λb hb hn=>g.block b hb (λe=>hn (h.eo b e))
 have hb:∀b,b<OU (G w)->own b≠8->own b≠5->(O8 w1 ⟨c.pk,6,O0⟩ v1).heap[b]?=w.heap[b]?:=λb hb n p=>(by grind [dX.k1,aW])
 have o:∀b,H b=O9 v1->_:=λb e=>(hn b e).elim (λe=>aK (h.eo b e)) (λhl=>aI (fo (λc=>hl ((m b).2 c))))
 have f:∀b j,own b=j->j≠8->j≠0->(if H b=O9 v1 then 8 else own b)=j:=λb j e n h0=>(aJ (λc=>by rcases o b c with c|c<;>omega)▸e)
 have q:=λb e=>(cu ho b e).2;refine⟨⟨i,λb=>if H b=O9 v1 then 8 else own b,?_,λb=>?_⟩,?_⟩
 ·exact {
   wd:=(eH k.a).keep h.wd ((sz▸g.size)) (λb d=>hb b ((eH k.a).lt h.wd b d) (by rw[(h.w1 b).1 d];decide) (by rw[(h.w1 b).1 d];decide))
   w1:=λb=>⟨λd=>f _ _ ((h.w1 b).1 d) ae ae,λd=>by
    by_cases e:H b=O9 v1
    ·simp_all
    ·rw[aJ e] at d;exact(h.w1 b).2 d⟩
   k1:=f _ _ h.k1 ae ae,m1:=f _ _ h.m1 ae ae
   cb:=by exact z5
   mp:=h.mp.same (hb _ h.mp.lt (by grind [dX.m1]) (by grind [dX.m1]))
   er:=(by grind [cK,dX.k1,aW])
   eo:=λb e=>by grind
   tr:=cK h.tr (λb e=>hb b (cu h.tr b e).2 (by grind [dX.iG]) (by grind [dX.iG]))
   iG:=λb e=>(by grind [dX.iG])
   yr:=cK h.yr (λb e=>hb b (cu h.yr b e).2 (by grind [dX.i3]) (by grind [dX.i3]))
   i3:=λb e=>(by grind [dX.i3])
   gr:=cK h.gr (λb e=>hb b (cu h.gr b e).2 (by grind [dX.go]) (by grind [dX.go]))
   go:=λb e=>(by grind [dX.go])
   lt:=λb hb=>by grind [dX.lt,Fr.size,aL]}
 ·grind
 grind [Fr.mono,dX.eo,Fr.set,dX.k1]
theorem Hn {v0:a7}(h:(c9 c k vt v0).J F s w){v1:a7}{l:List Int}{w1:az}(g:Fr (λb=>H b=O9 v0) w w1)(ho:aC w1 0 3 1 v1 (L l) (l.map (Value.int OW)))(hn:∀b,H b=O9 v1->H b=O9 v0\/OU (G w)<=b):
 ∃f,(c9 c k vt v1).J f {s with ep:=l} (O8 w1 ⟨c.pk,6,O0⟩ v1)/\b9 F w f (O8 w1 ⟨c.pk,6,O0⟩ v1):=by
 obtain⟨i,j⟩:=Ab h g ho (λb e=>(hn b e).imp id (λd hb=>by have:=(c9 c k vt v0).lt h b hb;omega))
 obtain⟨m,own,hm,n⟩:=h;exact⟨_,i,j,λb hb=>(by grind [dX.eo])⟩
theorem ow (h:(c9 c k vt cw).J F s w):aC w 0 3 1 vt (L s.td) (s.td.map (Value.int OW))/\aC w 0 3 1 cw (L s.ep) (s.ep.map (Value.int OW))/\H c.pk≠O9 vt/\H c.pk≠O9 cw/\c.pk≠c.ct:=by
 obtain⟨b,own,h,_⟩:=h
 grind [dX.tr,dX.er,dX.iG,dX.k1,dX.eo,dX.m1]
end
section
variable {c:fR}{k:b_}{vt cw:a7}{F:Nat->Prop}{s:cy}{w:az}
theorem Ac (h:(c9 c k vt cw).J F s w)(x:Int):
 O2 prog 306 #[aq c.pk,ak x] w λe w'=>∃v,e=Q (ay #[ak v,bA (k.jt x)])/\(k.jt x=C->v=s.f (cq x))/\O7 (OU (G w)) w w':=by
 have HJ:=cg h;have P:=o8 x w;cases ha:di x
 ·rw[ha] at P;have b:k.jt x=O4:=by unfold b_.jt;rw[ha];rfl
  rw[b];go_enter func306,ntmps306;exact zn
 ·have b:k.jt x=bJ k.T (cq x):=by unfold b_.jt;rw[ha];rfl
  have d:=vf ha;rw[b];rw[ha] at P;generalize cq x=a at P d⊢;have zj:=j7 d.1 d.2;obtain⟨bt,hbt⟩:∃bt,bt=bJ k.T a:=⟨_,rfl⟩
  rw[<-hbt];go_enter func306,ntmps306;go_wp2_with fail;refine P.mono ?_;clear P;rintro e w1 ⟨rfl,hb1⟩
  have pr:=(c9 c k vt cw).below HJ.o hb1;obtain⟨_,_,_,c1,_⟩:=e3 pr;obtain⟨⟨D,o1,o2,o3⟩,_⟩:=qH pr;exact zi
theorem qI (h:(c9 c k vt cw).J F s w)(x:Int):
 O2 prog 265 #[aq c.pk,ak x] w λe w'=>e=Q (bA (k.dd s x))/\O7 (OU (G w)) w w':=by
 have P:=Ac h x;cases hy:k.jt x
 ·have b:k.dd s x=O4:=by unfold b_.dd;rw[hy];rfl
  rw[b];rw[hy] at P;go_enter func265,ntmps265;go_wp2_with fail;refine P.mono ?_;rintro e w1 ⟨v,rfl,_,hb1⟩
  go_wp2;go_ret;exact⟨rfl,hb1⟩
 ·have b:k.dd s x=(s.f (cq x)==-1):=by unfold b_.dd;rw[hy];rfl
  rw[b];rw[hy] at P;go_enter func265,ntmps265;exact r5
theorem Ad (h:(c9 c k vt cw).J F s w)(x:Int):
 O2 prog 267 #[aq c.pk,ak x] w λe w'=>e=Q (ak (k.nw s x))/\O7 (OU (G w)) w w':=by
 have P:=Ac h x;cases hy:k.jt x
 ·have b:k.nw s x=x:=by unfold b_.nw;rw[hy];simp
  rw[b];rw[hy] at P;go_enter func267,ntmps267;go_wp2_with fail;refine P.mono ?_;rintro e w1 ⟨v,rfl,_,hb1⟩
  go_wp2_with fail;go_ret;exact⟨rfl,hb1⟩
 ·rw[hy] at P;by_cases d:s.f (cq x)=-1
  ·have b:k.nw s x=x:=by unfold b_.nw;rw[hy,d];simp
   rw[b];rw[d] at P;go_enter func267,ntmps267;exact r5
  ·have b:k.nw s x=ew 3 (s.f (cq x)):=by unfold b_.nw;rw[hy,aN (by simp[d])]
   rw[b];generalize s.f (cq x)=a at P d⊢;go_enter func267,ntmps267;exact zl
end
def j_ (c:fR)(k:b_)(b:a7):dr cy where
 J F s w:=∃vt,(c9 c k vt b).J F s w
 lt:=by
  rintro F s w ⟨vt,h⟩
  exact(c9 c k vt b).lt h
 keep:=by rintro F s w w' ⟨vt,h⟩ hs hk;exact⟨vt,(c9 c k vt b).keep h hs hk⟩
section
variable {c:fR}{k:b_}{cw:a7}{F:Nat->Prop}{s:cy}{w:az}
theorem Ae (h:(j_ c k cw).J F s w)(m:c8 k s)(x:Int):
 O2 prog 261 #[aq c.pk,ak x] w λe w'=>∃g,e=Q (ay #[])/\(j_ c k cw).J g (k.ma s x) w'/\b9 F w g w':=by
 obtain⟨vt,h⟩:=h;have P:=qI h x;have v:=cg h;clear h;cases hl:k.dd s x
 ·have an:k.ma s x=s:=by unfold b_.ma;rw[hl];rfl
  rw[an];rw[hl] at P;go_enter func261,ntmps261;go_wp2_with fail;refine P.mono ?_;rintro e w1 ⟨rfl,d⟩
  have B:aA ((j_ c k cw).J F s w1/\b9 F w F w1):=⟨⟨vt,(c9 c k vt cw).below v.o d⟩,b9.of d⟩
  go_wp2_with fail;go_end0;exact⟨F,rfl,B.o.1,B.o.2⟩
 ·obtain⟨ao,hi,ap,ar,aB⟩:=bM l6;obtain⟨l1,l2,N⟩:=b_.su hl;have E:aA (k.ma s x={s with f:=ic s.f (cq x) (cq x),td:=s.td++[cq x]}):=by show _=_;unfold b_.ma;rw[aN hl]
  have n:=o8 x;rw[l1] at n;have S:=m.ps _ l2;have b0:=m.tl;have b1:=m.sum;rw[hl] at P;generalize k.ma s x=s2 at E⊢;generalize cq x=a at E n l2 N S⊢;clear hl l1 N;go_enter func261,ntmps261;go_wp2_with fail;refine P.mono ?_;rintro e w1 ⟨rfl,d⟩
  go_wp2_with fail;refine(n w1).mono ?_;rintro e aF ⟨rfl,aR⟩
  have hb:=d.trans (aR.mono d.size)
  have W:=(c9 c k vt cw).below v.o hb;obtain⟨_,_,_,c3,_,b2,_,b3,lk⟩:=e3 W;obtain⟨⟨D,o1,a0,a1⟩,hM⟩:=qH W;obtain⟨o,b5,a2,bb⟩:=o1.update (t:=158) (e:=3) js underlying158 (by unfold bL;omega) (j7 S.1 aa) (om a (WalkArith.wf_i64 ⟨aa,aa⟩))
  obtain⟨p,bd⟩:=hM o _ (Mp.put o1 a0 a1 l2 a2) ((Fr.refl _ aF).grown bb (λb e=>aK (by cases e;rfl)))
  obtain⟨_,_,_,_,_,be,_,bg,bi⟩:=e3 p;obtain⟨q,_,bl,_⟩:=ow p;dsimp only at q;obtain⟨ad,cap,bn⟩:=e7 q;subst bn;have bo:=bg 5;have ab:=cU p ((b9.of hb).trans bd)
  go_wp2_with (at_builtin;refine bO _ rfl _ _ 136 rfl 0 3 ao (ak 0) 1 8 underlying136 hi ap ar aB rfl ae (Z ad (L s.td) cap) (L s.td) (s.td.map (Value.int OW)) rfl (gq q _) ⟨OU (G o),0,O0⟩ 1 1 [ak a] rfl rfl ?_ ?_ ?_ ?_ ?_ ?_;(intro j u i;match j,i with|0,i=>(simp at i;subst i;simp[Addr.add]));(intro u ag;simp at ag;subst ag;rfl);(unfold bL;omega);(first|omega|simp);(first|omega|(simp;done)|(simp;omega));intro b6 b7 ai al _ bp;obtain⟨b4,br,bs⟩:=fi ai (jw _);subst bs;have am:=(al.block c.pk (by simp;omega) bl).trans (aU _ _ _ bi);have g4:=(aS (a:=⟨c.pk,5,O0⟩) am).trans be;have b8:=(World.frozen?_of_block (a:=⟨c.pk,5,O0⟩) am).trans bo)
  go_end0;obtain⟨g,bt,bx⟩:=Aa ab.o.1 (((Fr.refl _ o).alloc _).grown al (λb e=>aK e.symm)) (v1:=Z (au b4) (L s.td+1) br) (l:=s.td++[a]) (by simpa using ai) (λb e=>by simp[Value.ownBlock] at e;subst e;exact(bp.imp id (λe=>by simpa[Value.ownBlock] using e)).imp id (λe=>by omega))
  exact⟨g,rfl,⟨_,by rw[E.o];exact bt⟩,ab.o.2.trans bx⟩
theorem qJ (h:(e_ c k).J F s w)(d:c8 k s)(x:Int):
 O2 prog 261 #[aq c.pk,ak x] w λe w'=>∃b,e=Q (ay #[])/\(e_ c k).J b (k.ma s x) w'/\b9 F w b w':=by
 obtain⟨vt,cw,h⟩:=h;refine(Ae ⟨vt,h⟩ d x).mono ?_;rintro e w' ⟨b,rfl,⟨cV,j⟩,t⟩
 exact⟨b,rfl,⟨cV,cw,j⟩,t⟩
end
section
variable {c:fR}{k:b_}{F:Nat->Prop}{s:cy}{w:az}
theorem Ho (h:(e_ c k).J F s w)(p:c8 k s)(a:Int)(a0:0<=a)(a1:a<=2000)(hk:pk (k.ld a)=1\/pk (k.ld a)=2):
 O2 prog 305 #[aq c.pk,ak a] w λe w'=>∃b,e=Q (ay #[])/\(e_ c k).J b (k.lk s a) w'/\b9 F w b w':=by
 have t:k.lk s a=k.fQ s a (K (pf (k.ld a))):=by unfold b_.lk;rw[aN hk]
 rw[t];have u:=cg h;obtain⟨vt,v,h⟩:=h;obtain⟨f,c0,_⟩:=ig h;obtain⟨B,_⟩:=e3 h;have L:=hC a w f;have N:ld k.a.N k.s.y k.s.g k.s.ws a=k.ld a:=rfl;rw[N] at L;have hp:=du (k.ld a)
 obtain⟨n,hn⟩:∃n:Nat,pf (k.ld a)=n:=⟨K (pf (k.ld a)),aa⟩
 rw[hn] at L hp⊢;have en:K (n:Int)=n:=Int.toNat_natCast n;rw[en];have S:aA (c8 k s):=p;generalize pc (k.ld a)=q at L;have key:∀kd:Int,(kd=1\/kd=2)->pk (k.ld a)=kd->O2 prog 305 #[aq c.pk,ak a] w λe w'=>∃b,e=Q (ay #[])/\(e_ c k).J b (k.fQ s a n) w'/\b9 F w b w':=by
  intro kd W ab;rw[ab] at L;rcases W with rfl|rfl
  all_goals
   go_enter func305,ntmps305;go_wp2_with fail;refine L.mono ?_;rintro e w1 ⟨rfl,g⟩
   have ad:aA ((e_ c k).J F (k.fQ s a 0) w1/\b9 F w F w1):=⟨(e_ c k).below u.o g,b9.of g⟩
   go_wp2_with fail
   go_loopw [26] (λiv wr=>∃(i:Nat)(b:Nat->Prop),i<=n/\iv=ak i/\aA ((e_ c k).J b (k.fQ s a i) wr/\b9 F w b wr)) (λiv _=>n-K (intOf iv))
   exact⟨0,F,a4 _,rfl,ad⟩
   ·
     obtain⟨i,b,hi,rfl,d⟩:=hrel;by_cases ao:i<n
     ·obtain⟨vt,v,j⟩:=d.o.1;obtain⟨f,c0,_⟩:=ig j;obtain⟨B,_⟩:=e3 j;have P:=kN (a+1+i) wr f;have ex:ld k.a.N k.s.y k.s.g k.s.ws (a+1+i)=k.ld (a+1+i):=rfl;rw[ex] at P;have l:aA (k.fQ s a (i+1)=k.ma (k.fQ s a i) (k.ld (a+1+i))):=rfl;have ag:=(S.o.fQ a i).1;generalize k.ld (a+1+i)=x at P l;go_wp2_with fail;refine P.mono ?_;rintro e ap ⟨rfl,m⟩
      have o:=qJ ((e_ c k).below d.o.1 m) ag x;rw[<-l.o] at o;have ai:=cg (d.o.2.below m)
      go_wp2_with fail;refine o.mono ?_;rintro e ar ⟨al,rfl,cM,am⟩
      have an:=cU cM (ai.o.trans am)
      go_wp2_with fail;go_roundw;exact⟨i+1,al,aa,aj,an⟩
      simp[intOf];omega
     ·obtain rfl:i=n:=aa;go_wp2_with fail;go_end0;exact⟨b,rfl,d.o.1,d.o.2⟩
 exact key _ hk rfl
theorem Hp (h:(e_ c k).J F s w)(p:c8 k s)(a:Int)(a0:0<=a)(a1:a<=2000)(hk:pk (k.ld a)=3):
 O2 prog 305 #[aq c.pk,ak a] w λe w'=>∃d,e=Q (ay #[])/\(e_ c k).J d (k.lk s a) w'/\b9 F w d w':=by
 have t:k.lk s a=k.ma s (k.ld (a+2)):=by unfold b_.lk;rw[aJ aa,aN hk]
 rw[t];obtain⟨x,f⟩:∃x,k.ld (a+2)=x:=⟨_,rfl⟩
 rw[f];have u:aA (k.ld (a+2)=x):=f;have v:aA ((e_ c k).J F s w):=h;obtain⟨vt,B,h⟩:=h;obtain⟨b,c0,_⟩:=ig h;obtain⟨N,_⟩:=e3 h;have L:=hC a w b;have S:ld k.a.N k.s.y k.s.g k.s.ws a=k.ld a:=rfl;rw[S,hk] at L;generalize pf (k.ld a)=n at L;generalize pc (k.ld a)=q at L;go_enter func305,ntmps305;go_wp2_with fail;refine L.mono ?_;rintro e w1 ⟨rfl,g⟩
 have i:=(e_ c k).below v.o g;have j:aA ((e_ c k).J F s w1/\b9 F w F w1):=⟨i,b9.of g⟩
 obtain⟨vt,B,l⟩:=i;obtain⟨b,c0,_⟩:=ig l;obtain⟨N,_⟩:=e3 l;have P:=kN (a+2) w1 b;have ex:ld k.a.N k.s.y k.s.g k.s.ws (a+2)=k.ld (a+2):=rfl;rw[ex,u.o] at P;go_wp2_with fail;refine P.mono ?_;rintro e ai ⟨rfl,m⟩
 have W:=qJ ((e_ c k).below j.o.1 m) p x;have ab:=cg (j.o.2.below m)
 go_wp2_with fail;refine W.mono ?_;rintro e al ⟨ad,rfl,cM,ag⟩
 have o:=cU cM (ab.o.trans ag)
 go_wp2_with fail;go_end0;exact⟨ad,rfl,o.o.1,o.o.2⟩
theorem Hq (h:(e_ c k).J F s w)(a:Int)(a2:s.ep.length<=10000)(hk:pk (k.ld a)=4):
 O2 prog 305 #[aq c.pk,ak a] w λe w'=>∃d,e=Q (ay #[])/\(e_ c k).J d (k.lk s a) w'/\b9 F w d w':=by
 have x:k.lk s a={s with ep:=s.ep++[a]}:=by unfold b_.lk;rw[aJ aa,aJ aa,aN hk]
 rw[x];obtain⟨B,hi,N,S,W⟩:=bM l6;have ab:aA ((e_ c k).J F s w):=h;obtain⟨vt,ag,h⟩:=h;obtain⟨ai,c0,_⟩:=ig h;obtain⟨bb,_⟩:=e3 h;have L:=hC a w ai;have al:ld k.a.N k.s.y k.s.g k.s.ws a=k.ld a:=rfl;rw[al,hk] at L;generalize pf (k.ld a)=n at L;generalize pc (k.ld a)=q at L;go_enter func305,ntmps305;go_wp2_with fail;refine L.mono ?_;rintro e w1 ⟨rfl,i⟩
 obtain⟨vt,ag,g⟩:=(e_ c k).below ab.o i;obtain⟨_,_,_,_,_,_,am,an,lk⟩:=e3 g;obtain⟨_,er,_,ao,_⟩:=ow g;obtain⟨ad,cap,ap⟩:=e7 er;subst ap;have ar:=an 6;have m:aA ((c9 c k vt (Z ad s.ep.length cap)).J F s w1/\b9 F w F w1):=⟨g,b9.of i⟩
 go_wp2_with (at_builtin;refine bO _ rfl _ _ 136 rfl 0 3 B (ak 0) 1 8 underlying136 hi N S W rfl ae (Z ad s.ep.length cap) s.ep.length (s.ep.map (Value.int OW)) rfl (gq er _) ⟨OU (G w1),0,O0⟩ 1 1 [ak a] rfl rfl ?_ ?_ ?_ ?_ ?_ ?_;(intro j u f;match j,f with|0,f=>(simp at f;subst f;simp[Addr.add]));(intro u o;simp at o;subst o;rfl);(unfold bL;omega);(first|omega|simp);(first|omega|(simp;done)|(simp;omega));intro bd be p t _ aB;obtain⟨b4,aF,aR⟩:=fi p (jw _);subst aR;have v:=(t.block c.pk (by simp;omega) ao).trans (aU _ _ _ lk);have g4:=(aS (a:=⟨c.pk,6,O0⟩) v).trans am;have bg:=(World.frozen?_of_block (a:=⟨c.pk,6,O0⟩) v).trans ar)
 go_end0;obtain⟨d,aV,a0⟩:=Hn m.o.1 (((Fr.refl _ w1).alloc _).grown t (λb e=>aK e.symm)) (v1:=Z (au b4) (s.ep.length+1) aF) (l:=s.ep++[a]) (by simpa using p) (λb e=>by
  have a1:=aB.imp id (λe=>by simpa[Value.ownBlock] using e)
  simp[Value.ownBlock] at e;subst e;exact a1.imp id (λe=>by omega))
 exact⟨d,rfl,⟨_,_,aV⟩,m.o.2.trans a0⟩
theorem Hr (h:(e_ c k).J F s w)(a:Int)(k1:pk (k.ld a)≠1)(k2:pk (k.ld a)≠2)(k3:pk (k.ld a)≠3)(k4:pk (k.ld a)≠4):
 O2 prog 305 #[aq c.pk,ak a] w λe w'=>∃b,e=Q (ay #[])/\(e_ c k).J b (k.lk s a) w'/\b9 F w b w':=by
 have g:k.lk s a=s:=by unfold b_.lk;rw[aJ aa,aJ k3,aJ k4]
 rw[g];have i:aA ((e_ c k).J F s w):=h;obtain⟨vt,l,h⟩:=h;obtain⟨j,c0,_⟩:=ig h;obtain⟨m,_⟩:=e3 h;have L:=hC a w j;have n:ld k.a.N k.s.y k.s.g k.s.ws a=k.ld a:=rfl;go_enter func305,ntmps305;go_wp2_with fail;refine L.mono ?_;rintro e w1 ⟨rfl,d⟩
 have f:aA ((e_ c k).J F s w1/\b9 F w F w1):=⟨(e_ c k).below i.o d,b9.of d⟩
 go_wp2_with fail;go_end0;exact⟨F,rfl,f.o.1,f.o.2⟩
theorem Hs (h:(e_ c k).J F s w)(b:c8 k s)(a:Int)(a0:0<=a)(a1:a<=2000)(f:L s.ep<=10000):
 O2 prog 305 #[aq c.pk,ak a] w λe w'=>∃d,e=Q (ay #[])/\(e_ c k).J d (k.lk s a) w'/\b9 F w d w':=by
 by_cases k1:pk (k.ld a)=1\/pk (k.ld a)=2
 ·exact Ho h b a a0 a1 k1
 by_cases k3:pk (k.ld a)=3
 ·exact Hp h b a a0 a1 k3
 by_cases k4:pk (k.ld a)=4
 ·exact Hq h a f k4
 exact Hr h a (λe=>k1 (aK e)) (λe=>k1 (aI e)) k3 k4
end
end Go.Proofs.YtjckpdepffejnaaGreatDoor
