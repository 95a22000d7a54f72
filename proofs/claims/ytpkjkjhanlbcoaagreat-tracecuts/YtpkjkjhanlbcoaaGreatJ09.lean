import Derived.Test.YtpkjkjhanlbcoaaGreatJ08
import Derived.Deep.LoopGhost
open Array renaming size->M3
open Bool renaming false->K,true->Nc
open Classical renaming byContradiction->mg
open False renaming elim->rq
open Go renaming Calls->J,Value->bD,info_parts->bV,maxLen->bW,wpList_append_own_at->bX,wpList_lookup_own_ok_int->wb
open Go.Ending renaming returned->M6
open Go.IntKind renaming i64->M4,i64->Q
open Go.Obj renaming cells->M5
open Go.Proofs.Tryz renaming prog->O
open Go.RowKit renaming Below->C
open Go.Value renaming agg->bF,bool->bK,int->M7,ownBlock->P,slice->H,tuple->a8
open Go.World renaming cell?->V,frozen?->bO,heap->G,ownsRow->aC,setCell->ay
open Iff renaming rfl->iy
open Int renaming toNat->M
open List renaming contains->bR,getD->X,length->L,length->MZ,replicate->Ni
open Nat renaming succ_pos->j3
open Ne renaming symm->Eo
open Option renaming none->M9,some->Z
namespace Go.Proofs.YtpkjkjhanlbcoaaGreat
set_option maxRecDepth 100000
set_option maxHeartbeats 4000000
open Tryz
open Go.RowKit W Kp cq
theorem ul {P:Prop}(h:P:=by
 have P0:∀w,J O 119 #[ak R] w fun e w'=>e=M6 (bK K)/\w'=w:=fun w=>by have h:=kh R w;rw[hR] at h;exact h
 have hb0:=aw w (M5 #[M7 Q k,M7 Q R,M7 Q A,M7 Q B,M7 Q I,M7 Q n] 44)
 clear hu;go_enter func55,ntmps55;go_wp2_with fail;refine(U _).mono ?_;rintro e w1 ⟨rfl,rfl⟩
 go_wp2_with fail;refine(P0 _).mono ?_;rintro e w1 ⟨rfl,rfl⟩
 go_wp2_with fail;go_ret;exact⟨rfl,hb0⟩):P:=h
theorem zu {P:Prop}(h:P:=by
 have P0:∀w,J O 119 #[ak R] w fun e w'=>e=M6 (bK Nc)/\w'=w:=fun w=>by have h:=kh R w;rw[hR] at h;exact h
 have P1:∀w,J O 119 #[ak A] w fun e w'=>e=M6 (bK K)/\w'=w:=fun w=>by have h:=kh A w;rw[hA] at h;exact h
 have hb0:=aw w (M5 #[M7 Q k,M7 Q R,M7 Q A,M7 Q B,M7 Q I,M7 Q n] 44)
 clear hu;go_enter func55,ntmps55;go_wp2_with fail;refine(U _).mono ?_;rintro e w1 ⟨rfl,rfl⟩
 go_wp2_with fail;refine(P0 _).mono ?_;rintro e w1 ⟨rfl,rfl⟩
 go_wp2_with fail;refine(P1 _).mono ?_;rintro e w1 ⟨rfl,rfl⟩
 go_wp2_with fail;go_ret;exact⟨rfl,hb0⟩):P:=h
theorem pM {P:Prop}(h:P:=by
 rintro e w1 ⟨rfl,rfl⟩
 go_wp2_with fail;refine(Gg k R A B I n _).mono ?_;rintro e w2 ⟨rfl,hb2⟩
 go_wp2_with fail;go_ret;exact⟨rfl,hb0.trans (hb2.mono hb0.size)⟩):P:=h
theorem jN {P:Prop}(h:P:=by have h:=DJ k w;rw[hu] at h;exact h):P:=h
theorem rz {P:Prop}(h:P:=by
 rintro e w1 ⟨rfl,rfl⟩
 go_wp2_with fail;go_ret;exact⟨rfl,hb0⟩):P:=h
theorem oL {P:Prop}(h:P:=by have h:=kh A w;rw[hA] at h;exact h):P:=h
theorem um {P:Prop}(h:P:=by
 go_wp2_with fail;refine P.mono ?_;rintro e w1 ⟨rfl,hb1⟩
 go_wp2_with fail;go_ret;exact⟨rfl,hb1⟩):P:=h
theorem un {P:Prop}(h:P:=by rw[hW1,aY _ _ _ _ ac];exact bc _ _ _ y0):P:=h
theorem zv {P:Prop}(h:P:=by simp only [World.setCell,Array.getElem?_modify,if_true,((hb1 _ (lt_of_some h.cb) (by grind [dR.k1])).trans h.cb),Option.map_some];simp):P:=h
theorem zw {P:Prop}(h:P:=by rw[hW1];exact bc _ _ _ ((aY w1 ⟨fb,0,M9⟩ ⟨fb,1,M9⟩ _ ac).trans y1)):P:=h
theorem Gh {w:az}{pw p q pc cU sd nb N O y g:Nat}{ws M rs:List Int}(h:Wf w pw p q pc cU sd nb N O y g ws (dO O) M rs)(hr:L rs=12)(k:w.heap[nb]?=Z (M5 (rs.map (Value.int Q)).toArray 2 (0,0)))(hs:w.heap[sd]?=Z (M5 #[H M9 0 0,H M9 0 0] 153 (0,0))):
 ∃F,(gg ⟨pw,p,q,pc,sd,nb,N,O⟩).J F ⟨⟨y,g,ws,M,rs⟩,[],[]⟩ w/\∀b,F b->b=pw\/b=p\/b=q\/b=pc\/b=cU\/b=sd\/b=nb:=by
 obtain⟨a1,a2,m,n,o,s,t,u⟩:=h.iK.apart;obtain⟨⟨s1,s2,v,s4⟩,⟨n1,x,B,n4⟩,S,W⟩:=h.apart;have s5:sd≠pw:=fun e=>by have l:=h.iK.blk;rw[<-e,hs] at l;simp at l
 have ab:=h.iK.cd.fp;refine⟨fun b=>b=pw\/b=p\/b=q\/b=pc\/b=cU\/b=sd\/b=nb,⟨fun b=>b=pw\/b=p\/b=q\/b=pc\/b=cU\/b=sd\/b=nb,M9,0,⟨fun b=>b=pw\/b=p\/b=q\/b=pc\/b=cU\/b=nb,M9,0,⟨fun b=>if b=p\/b=q then 1 else if b=pc\/b=cU then 2 else if b=pw then 3 else if b=nb then 4 else 0,cU,?_,fun b=>?_⟩,hs,bf _ _ _ _,fun b c=>?_,aK (aK (aK (aK (aK (aM rfl))))),fun c=>?_,fun b e=>by simp[Value.ownBlock] at e,fun b c=>?_⟩,bf _ _ _ _,fun b e=>by simp[Value.ownBlock] at e,fun b=>?_⟩,fun b c=>c⟩
 ·exact {
   ar:=h.iK.ar,cd:=h.iK.cd,wd:=h.iK.blk,rt:=k,rl:=hr
   a1:=ac
   a2:=ac
   c1:=by simp[Eo o,Eo t]
   c2:=by simp[Eo s,Eo u]
   w1:=by simp[a1,a2,m,n]
   r1:=by simp[n1,x,B,n4,S]
   le:=fun b=>by
    split
    ·decide
    ·split
     ·decide
     ·split
      ·decide
      ·split<;>decide
   lt:=fun b c=>by
    have k1:=h.iK.ar.fj;have ad:=h.iK.ar.fp;have ag:=h.iK.cd.fj;have ai:=lt_of_some h.iK.blk;have k5:=lt_of_some k;by_cases d:b=p\/b=q
    ·rcases d with e|e<;>(rw[e];assumption)
    ·rw[aI d] at c;by_cases f:b=pc\/b=cU
     ·rcases f with e|e<;>(rw[e];assumption)
     ·rw[aI f] at c;by_cases i:b=pw
      ·rw[i];assumption
      ·rw[aI i] at c;by_cases j:b=nb
       ·rw[j];assumption
       ·rw[aI j] at c;exact absurd rfl c}
 ·dsimp only;by_cases d:b=p\/b=q
  ·rw[aJ d];rcases d with e|e<;>simp[e]
  ·rw[aI d];by_cases f:b=pc\/b=cU
   ·rw[aJ f];rcases f with e|e<;>simp[e]
   ·rw[aI f];by_cases i:b=pw
    ·rw[aJ i];simp[i]
    ·rw[aI i];by_cases j:b=nb
     ·rw[aJ j];simp[j]
     ·rw[aI j];simp only [not_or] at d f;simp[d,f,i,j]
 ·rcases c with c|c|c|c|c|c
  ·exact aM c
  ·exact aK (aM c)
  ·exact aK (aK (aM c))
  ·exact aK (aK (aK (aM c)))
  ·exact aK (aK (aK (aK (aM c))))
  ·exact aK (aK (aK (aK (aK (aK c)))))
 ·rcases c with c|c|c|c|c|c
  ·exact s5 c
  ·exact s1 c
  ·exact s2 c
  ·exact v c
  ·exact s4 c
  ·exact W c.symm
 ·rcases c with c|c|c|c|c|c|c
  ·rw[c];exact lt_of_some h.iK.blk
  ·rw[c];exact h.iK.ar.fj
  ·rw[c];exact h.iK.ar.fp
  ·rw[c];exact h.iK.cd.fj
  ·rw[c];exact ab
  ·rw[c];exact lt_of_some hs
  ·rw[c];exact lt_of_some k
 ·exact⟨aM,fun c=>c.elim id (fun e=>by simp[Value.ownBlock] at e)⟩
def fG (n o:Nat):cw×cn:=(⟨⟨0,0,Ni (n+o) 0,[],tw 2 12⟩,[],[]⟩,⟨[],Ni 12 (0,0),[],[]⟩)
theorem pN (n:Int)(w:az):J O 122 #[ak n] w fun e w'=>e=M6 (a8 #[ak (ew 1 n),ak (vc 1 n)])/\C (M3 (G w)) w w':=by
 go_enter func122,ntmps122;go_wp2_with fail;refine(w7 1 n _).mono ?_;rintro e w1 ⟨rfl,hb⟩
 go_wp2_with fail;go_ret2;exact⟨rfl,hb⟩
theorem Gg (k R A B I n:Int)(w:az):J O 120 #[bF #[ak k,ak R,ak A,ak B,ak I,ak n]] w fun e w'=>e=M6 (ak (iu k n))/\C (M3 (G w)) w w':=by
 have hb0:=aw w (M5 #[M7 Q k,M7 Q R,M7 Q A,M7 Q B,M7 Q I,M7 Q n] 44)
 by_cases b:k=1
 ·subst b;have e:iu 1 n=vc 1 n:=by unfold iu;rw[aJ rfl]
  rw[e];go_enter func120,ntmps120;go_wp2_with fail;refine(pN n _).mono ?_;rintro e w1 ⟨rfl,hb⟩
  go_wp2_with fail;go_ret;exact⟨rfl,hb0.trans (hb.mono hb0.size)⟩
 ·by_cases c:k=5
  ·subst c;have e:iu 5 n=hc 2 n:=by unfold iu;rw[aI aa,aJ rfl]
   rw[e];go_enter func120,ntmps120;go_wp2_with fail;refine(pt 2 n _).mono ?_;exact rz
  ·have e:iu k n=0:=by unfold iu;rw[aI b,aI c]
   rw[e];go_enter func120,ntmps120;go_wp2_with fail;go_ret;exact⟨rfl,hb0⟩
theorem Gj (k:Int):dl k=1\/dl k=3\/dl k=7\/dl k=6\/dl k=0\/dl k=-1:=by
 unfold dl
 repeat' split
 all_goals simp
section
variable {k R A B I n:Int}{w:az}
theorem Gk (hu:dl k=1)(hR:ef R=K):J O 55 #[bF #[ak k,ak R,ak A,ak B,ak I,ak n]] w fun e w'=>e=M6 (ak (1))/\C (M3 (G w)) w w':=by
 have U:∀w,J O 54 #[ak k] w fun e w'=>e=M6 (ak (1))/\w'=w:=fun w=>by exact jN
 exact ul
theorem Gm (hu:dl k=1)(b:ef R=Nc):J O 55 #[bF #[ak k,ak R,ak A,ak B,ak I,ak n]] w fun e w'=>e=M6 (ak (iu k n))/\C (M3 (G w)) w w':=by
 have c:∀w,J O 54 #[ak k] w fun e w'=>e=M6 (ak (1))/\w'=w:=fun w=>by exact jN
 have d:∀w,J O 119 #[ak R] w fun e w'=>e=M6 (bK Nc)/\w'=w:=fun w=>by have h:=kh R w;rw[b] at h;exact h
 have hb0:=aw w (M5 #[M7 Q k,M7 Q R,M7 Q A,M7 Q B,M7 Q I,M7 Q n] 44)
 clear hu;go_enter func55,ntmps55;go_wp2_with fail;refine(c _).mono ?_;rintro e w1 ⟨rfl,rfl⟩
 go_wp2_with fail;refine(d _).mono ?_;exact pM
theorem Gn (hu:dl k=3)(hR:ef R=K):J O 55 #[bF #[ak k,ak R,ak A,ak B,ak I,ak n]] w fun e w'=>e=M6 (ak (1))/\C (M3 (G w)) w w':=by
 have U:∀w,J O 54 #[ak k] w fun e w'=>e=M6 (ak (3))/\w'=w:=fun w=>by exact jN
 exact ul
theorem Gp (hu:dl k=3)(hR:ef R=Nc)(hA:ef A=K):J O 55 #[bF #[ak k,ak R,ak A,ak B,ak I,ak n]] w fun e w'=>e=M6 (ak (1))/\C (M3 (G w)) w w':=by
 have U:∀w,J O 54 #[ak k] w fun e w'=>e=M6 (ak (3))/\w'=w:=fun w=>by exact jN
 exact zu
theorem Gq (hu:dl k=3)(b:ef R=Nc)(hA:ef A=Nc):J O 55 #[bF #[ak k,ak R,ak A,ak B,ak I,ak n]] w fun e w'=>e=M6 (ak (iu k n))/\C (M3 (G w)) w w':=by
 have c:∀w,J O 54 #[ak k] w fun e w'=>e=M6 (ak (3))/\w'=w:=fun w=>by exact jN
 have d:∀w,J O 119 #[ak R] w fun e w'=>e=M6 (bK Nc)/\w'=w:=fun w=>by have h:=kh R w;rw[b] at h;exact h
 have f:∀w,J O 119 #[ak A] w fun e w'=>e=M6 (bK Nc)/\w'=w:=fun w=>by exact oL
 have hb0:=aw w (M5 #[M7 Q k,M7 Q R,M7 Q A,M7 Q B,M7 Q I,M7 Q n] 44)
 clear hu;go_enter func55,ntmps55;go_wp2_with fail;refine(c _).mono ?_;rintro e w1 ⟨rfl,rfl⟩
 go_wp2_with fail;refine(d _).mono ?_;rintro e w1 ⟨rfl,rfl⟩
 go_wp2_with fail;refine(f _).mono ?_;exact pM
theorem Gr (hu:dl k=7)(hR:ef R=K):J O 55 #[bF #[ak k,ak R,ak A,ak B,ak I,ak n]] w fun e w'=>e=M6 (ak (1))/\C (M3 (G w)) w w':=by
 have U:∀w,J O 54 #[ak k] w fun e w'=>e=M6 (ak (7))/\w'=w:=fun w=>by exact jN
 exact ul
theorem Gs (hu:dl k=7)(hR:ef R=Nc)(hA:ef A=K):J O 55 #[bF #[ak k,ak R,ak A,ak B,ak I,ak n]] w fun e w'=>e=M6 (ak (1))/\C (M3 (G w)) w w':=by
 have U:∀w,J O 54 #[ak k] w fun e w'=>e=M6 (ak (7))/\w'=w:=fun w=>by exact jN
 exact zu
theorem Gt (hu:dl k=7)(b:ef R=Nc)(hA:ef A=Nc)(hB:ef B=K):J O 55 #[bF #[ak k,ak R,ak A,ak B,ak I,ak n]] w fun e w'=>e=M6 (ak (1))/\C (M3 (G w)) w w':=by
 have c:∀w,J O 54 #[ak k] w fun e w'=>e=M6 (ak (7))/\w'=w:=fun w=>by exact jN
 have d:∀w,J O 119 #[ak R] w fun e w'=>e=M6 (bK Nc)/\w'=w:=fun w=>by have h:=kh R w;rw[b] at h;exact h
 have f:∀w,J O 119 #[ak A] w fun e w'=>e=M6 (bK Nc)/\w'=w:=fun w=>by exact oL
 have g:∀w,J O 119 #[ak B] w fun e w'=>e=M6 (bK K)/\w'=w:=fun w=>by have h:=kh B w;rw[hB] at h;exact h
 have hb0:=aw w (M5 #[M7 Q k,M7 Q R,M7 Q A,M7 Q B,M7 Q I,M7 Q n] 44)
 clear hu;go_enter func55,ntmps55;go_wp2_with fail;refine(c _).mono ?_;rintro e w1 ⟨rfl,rfl⟩
 go_wp2_with fail;refine(d _).mono ?_;rintro e w1 ⟨rfl,rfl⟩
 go_wp2_with fail;refine(f _).mono ?_;rintro e w1 ⟨rfl,rfl⟩
 go_wp2_with fail;refine(g _).mono ?_;exact rz
theorem Gu (hu:dl k=7)(b:ef R=Nc)(hA:ef A=Nc)(hB:ef B=Nc):J O 55 #[bF #[ak k,ak R,ak A,ak B,ak I,ak n]] w fun e w'=>e=M6 (ak (iu k n))/\C (M3 (G w)) w w':=by
 have c:∀w,J O 54 #[ak k] w fun e w'=>e=M6 (ak (7))/\w'=w:=fun w=>by exact jN
 have d:∀w,J O 119 #[ak R] w fun e w'=>e=M6 (bK Nc)/\w'=w:=fun w=>by have h:=kh R w;rw[b] at h;exact h
 have f:∀w,J O 119 #[ak A] w fun e w'=>e=M6 (bK Nc)/\w'=w:=fun w=>by exact oL
 have g:∀w,J O 119 #[ak B] w fun e w'=>e=M6 (bK Nc)/\w'=w:=fun w=>by have h:=kh B w;rw[hB] at h;exact h
 have hb0:=aw w (M5 #[M7 Q k,M7 Q R,M7 Q A,M7 Q B,M7 Q I,M7 Q n] 44)
 clear hu;go_enter func55,ntmps55;go_wp2_with fail;refine(c _).mono ?_;rintro e w1 ⟨rfl,rfl⟩
 go_wp2_with fail;refine(d _).mono ?_;rintro e w1 ⟨rfl,rfl⟩
 go_wp2_with fail;refine(f _).mono ?_;rintro e w1 ⟨rfl,rfl⟩
 go_wp2_with fail;refine(g _).mono ?_;exact pM
theorem Gv (hu:dl k=6)(hA:ef A=K):J O 55 #[bF #[ak k,ak R,ak A,ak B,ak I,ak n]] w fun e w'=>e=M6 (ak (1))/\C (M3 (G w)) w w':=by
 have b:∀w,J O 54 #[ak k] w fun e w'=>e=M6 (ak (6))/\w'=w:=fun w=>by exact jN
 have c:∀w,J O 119 #[ak A] w fun e w'=>e=M6 (bK K)/\w'=w:=fun w=>by exact oL
 have hb0:=aw w (M5 #[M7 Q k,M7 Q R,M7 Q A,M7 Q B,M7 Q I,M7 Q n] 44)
 clear hu;go_enter func55,ntmps55;go_wp2_with fail;refine(b _).mono ?_;rintro e w1 ⟨rfl,rfl⟩
 go_wp2_with fail;refine(c _).mono ?_;exact rz
theorem Gw (hu:dl k=6)(hA:ef A=Nc)(hB:ef B=K):J O 55 #[bF #[ak k,ak R,ak A,ak B,ak I,ak n]] w fun e w'=>e=M6 (ak (1))/\C (M3 (G w)) w w':=by
 have b:∀w,J O 54 #[ak k] w fun e w'=>e=M6 (ak (6))/\w'=w:=fun w=>by exact jN
 have c:∀w,J O 119 #[ak A] w fun e w'=>e=M6 (bK Nc)/\w'=w:=fun w=>by exact oL
 have d:∀w,J O 119 #[ak B] w fun e w'=>e=M6 (bK K)/\w'=w:=fun w=>by have h:=kh B w;rw[hB] at h;exact h
 have hb0:=aw w (M5 #[M7 Q k,M7 Q R,M7 Q A,M7 Q B,M7 Q I,M7 Q n] 44)
 clear hu;go_enter func55,ntmps55;go_wp2_with fail;refine(b _).mono ?_;rintro e w1 ⟨rfl,rfl⟩
 go_wp2_with fail;refine(c _).mono ?_;rintro e w1 ⟨rfl,rfl⟩
 go_wp2_with fail;refine(d _).mono ?_;exact rz
theorem Gx (hu:dl k=6)(hA:ef A=Nc)(hB:ef B=Nc):J O 55 #[bF #[ak k,ak R,ak A,ak B,ak I,ak n]] w fun e w'=>e=M6 (ak (iu k n))/\C (M3 (G w)) w w':=by
 have b:∀w,J O 54 #[ak k] w fun e w'=>e=M6 (ak (6))/\w'=w:=fun w=>by exact jN
 have c:∀w,J O 119 #[ak A] w fun e w'=>e=M6 (bK Nc)/\w'=w:=fun w=>by exact oL
 have d:∀w,J O 119 #[ak B] w fun e w'=>e=M6 (bK Nc)/\w'=w:=fun w=>by have h:=kh B w;rw[hB] at h;exact h
 have hb0:=aw w (M5 #[M7 Q k,M7 Q R,M7 Q A,M7 Q B,M7 Q I,M7 Q n] 44)
 clear hu;go_enter func55,ntmps55;go_wp2_with fail;refine(b _).mono ?_;rintro e w1 ⟨rfl,rfl⟩
 go_wp2_with fail;refine(c _).mono ?_;rintro e w1 ⟨rfl,rfl⟩
 go_wp2_with fail;refine(d _).mono ?_;exact pM
theorem Gy (hu:dl k=0):J O 55 #[bF #[ak k,ak R,ak A,ak B,ak I,ak n]] w fun e w'=>e=M6 (ak (iu k n))/\C (M3 (G w)) w w':=by
 have b:∀w,J O 54 #[ak k] w fun e w'=>e=M6 (ak (0))/\w'=w:=fun w=>by exact jN
 have hb0:=aw w (M5 #[M7 Q k,M7 Q R,M7 Q A,M7 Q B,M7 Q I,M7 Q n] 44)
 clear hu;go_enter func55,ntmps55;go_wp2_with fail;refine(b _).mono ?_;exact pM
theorem Gz (hu:dl k=-1):J O 55 #[bF #[ak k,ak R,ak A,ak B,ak I,ak n]] w fun e w'=>e=M6 (ak (2))/\C (M3 (G w)) w w':=by
 have b:∀w,J O 54 #[ak k] w fun e w'=>e=M6 (ak (-1))/\w'=w:=fun w=>by exact jN
 go_enter func55,ntmps55;go_wp2_with fail;refine(b _).mono ?_;rintro e w1 ⟨rfl,rfl⟩
 go_wp2;go_ret;exact⟨rfl,(aw w _)⟩
end
theorem jX (k R A B I n:Int)(w:az):J O 55 #[bF #[ak k,ak R,ak A,ak B,ak I,ak n]] w fun e w'=>e=M6 (ak (d7 k R A B n))/\C (M3 (G w)) w w':=by
 unfold d7;rcases Gj k with b|b|b|b|b|b
 ·rw[b,aI ae];cases hR:ef R
  ·rw[aJ ac];exact Gk b hR
  ·rw[aI ac];exact Gm b hR
 ·rw[b,aI ae];cases hR:ef R
  ·rw[aJ ac];exact Gn b hR
  ·cases hA:ef A
   ·rw[aJ ac];exact Gp b hR hA
   ·rw[aI ac];exact Gq b hR hA
 ·rw[b,aI ae];cases hR:ef R
  ·rw[aJ ac];exact Gr b hR
  ·cases hA:ef A
   ·rw[aJ ac];exact Gs b hR hA
   ·cases hB:ef B
    ·rw[aJ ac];exact Gt b hR hA hB
    ·rw[aI ac];exact Gu b hR hA hB
 ·rw[b,aI ae];cases hA:ef A
  ·rw[aJ ac];exact Gv b hA
  ·cases hB:ef B
   ·rw[aJ ac];exact Gw b hA hB
   ·rw[aI ac];exact Gx b hA hB
 ·rw[b,aI ae];rw[aI ac];exact Gy b
 ·rw[aJ b];exact Gz b
def cD (a:Wc)(hp:Nat):dC cw where
 J F S w:=∃c,(gg a).J c S w/\w.heap[hp]?=Z (M5 #[aq a.pw] 49 (0,0))/\¬c hp/\∀b,F b↔(c b\/b=hp)
 lt:=by
  rintro F S w ⟨c,f,g,i,d⟩ b hb;rcases(d b).1 hb with e|e
  ·exact(gg a).lt f b e
  ·rw[e];exact lt_of_some g
 keep:=by rintro F S w w' ⟨c,f,g,i,d⟩ hs hk;exact⟨c,(gg a).keep f hs (fun b e=>hk b ((d b).2 (aM e))),(hk _ ((d _).2 (aK rfl))).trans g,i,d⟩
section
variable {a:Wc}{hp:Nat}{F:Nat->Prop}{S:cw}{w:az}
theorem kQ (h:(cD a hp).J F S w):∃d,(gg a).J d S w/\(∀b,d b->F b)/\∀e s1 w',(gg a).J e s1 w'->ch d w e w'->∃i,(cD a hp).J i s1 w'/\ch F w i w':=by
 obtain⟨d,l,j,k,f⟩:=h;refine⟨d,l,fun b c=>(f b).2 (aM c),fun e s1 w' m g=>?_⟩
 have lp:=lt_of_some j;refine⟨fun b=>e b\/b=hp,⟨e,m,(g.fr.block _ lp k).trans j,fun c=>?_,fun b=>iy⟩,⟨g.fr.mono (fun b c=>(f b).2 (aM c)),fun b c=>?_⟩⟩
 ·rcases g.sub _ c with c|c
  ·exact k c
  ·omega
 ·rcases c with c|c
  ·exact(g.sub b c).imp (fun c=>(f b).2 (aM c)) id
  ·exact aM ((f b).2 (aK c))
structure GA (a:Wc)(hp:Nat)(s:eE)(w:az):Prop where
 h0:V w (av hp 0)=Z (aq a.pw)
 c0:V w (av a.pw 0)=Z (aq a.p)
 c3:V w (av a.pw 3)=Z (H (au a.nb) 12 12)
 rt:∀i,i<12->V w (av a.nb i)=Z (ak (X s.rs i 0))/\bO w (av a.nb i)=K
 rl:L s.rs=12
 lp:hp<M3 (G w)
 lw:a.pw<M3 (G w)
 ln:a.nb<M3 (G w)
theorem fw (h:(cD a hp).J F S w):GA a hp S.s w:=by
 have b:w.heap[hp]?=Z (M5 #[aq a.pw] 49 (0,0)):=by obtain⟨c,_,b,_⟩:=h;exact b
 obtain⟨c,d,_⟩:=kQ h;obtain⟨e,g1,_⟩:=nK d;obtain⟨c0,_,_,c3,lw,rl,ln,rt⟩:=kt g1;exact⟨by simp[World.cell?,b],c0,c3,rt,rl,lt_of_some b,lw,ln⟩
theorem l7 (h:(cD a hp).J F S w):At w a.p a.q a.N a.O S.s.y S.s.g S.s.ws/\∀w' y g ws,At w' a.p a.q a.N a.O y g ws->dj a.p a.q w w'->∃b,(cD a hp).J b ⟨{S.s with y:=y,g:=g,ws:=ws},S.r,S.q⟩ w'/\ch F w b w':=by
 obtain⟨k,c,_,d⟩:=kQ h;obtain⟨l,g1,g2⟩:=nK c;obtain⟨k1,e⟩:=lv g1;refine⟨k1,fun w' y g ws ha f=>?_⟩
 obtain⟨m1,i⟩:=e w' y g ws ha f;obtain⟨m,n1,j⟩:=g2 _ _ _ m1 i;exact d _ _ _ n1 j
theorem GB (h:(cD a hp).J F S w)(i:Nat)(x:Int):∃b,(cD a hp).J b ⟨{S.s with rs:=S.s.rs.set i x},S.r,S.q⟩ (ay w ⟨a.nb,i,M9⟩ (M7 Q x))/\ch F w b (ay w ⟨a.nb,i,M9⟩ (M7 Q x)):=by obtain⟨g,c,_,d⟩:=kQ h;obtain⟨j,g1,g2⟩:=nK c;obtain⟨m1,e⟩:=zd g1 i x;obtain⟨k,n1,f⟩:=g2 _ _ _ m1 e;exact d _ _ _ n1 f
end
theorem GC {a:Wc}{hp:Nat}{F:Nat->Prop}{S:cw}{w:az}(h:(cD a hp).J F S w):a.nb≠hp/\a.nb≠a.pw:=by obtain⟨g,b,i,c,_⟩:=h;obtain⟨j,ar,k,⟨l,ad,cap,⟨own,cU,hM,hO⟩,m,n,d,_⟩,r0,r1,f⟩:=b;exact⟨fun e=>c (by rw[<-e];exact(f _).2 (aM (d _ ((hO _).2 (by rw[hM.r1];decide))))),fun e=>by have b:=hM.r1;rw[e,hM.w1] at b;omega⟩
theorem GD (n o:Nat)(w:az)(h0:16<=n)(t:n<=256)(ab:o<=1024):
 Calls prog 18 #[ak n,ak o] w fun e w'=>∃a hp F,e=M6 (a8 #[aq hp,bF #[ak 0,ak 0]])/\(cD a hp).J F (fG n o).1 w'/\(a.N=n/\a.O=o)/\(∀b,F b->M3 (G w)<=b)/\C (M3 (G w)) w w':=by
 have u:=aw w (M5 #[M7 Q 0,M7 Q 0] 28)
 have P:=zs n o (w.alloc (M5 #[M7 Q 0,M7 Q 0] 28)) h0 t ab;have x:=aP w (M5 #[M7 Q 0,M7 Q 0] 28)
 have ad:M3 (G w)<M3 (G (w.alloc (M5 #[M7 Q 0,M7 Q 0] 28))):=ac;have B:=hide u;clear u;go_enter func18,ntmps18;go_wp2_with fail;generalize w.alloc (M5 #[M7 Q 0,M7 Q 0] 28)=w0 at*;generalize ag:M3 (G w)=fb at*;refine P.mono ?_;clear P;rintro e w1 ⟨pw,p,q,pc,cU,s,nb,rfl,N,hs,hr,hg,i⟩
 obtain⟨l,S,g1⟩:=Gh (Gf N hs hr i aa) ae hr hs;have f:=(i.block fb ad).trans x;have y0:V w1 (av fb 0)=Z (ak 0):=aD f
 have y1:V w1 (av fb 1)=Z (ak 0):=aD f
 have z0:bO w1 (av fb 0)=K:=aE f
 have ao:bO w1 (av fb 1)=K:=aE f
 have ai:=lt_of_some f;have g:aA (_/\(∀b,l b->fb<b)/\_):=⟨S,fun b c=>by obtain⟨ap,g2,g3,g4,g5,ar,aB⟩:=hg;rcases g1 b c with e|e|e|e|e|e|e<;>(rw[e];omega),B.o.trans (i.mono aa)⟩
 clear N hs hr hg i S g1 x B f;go_wp2_with fail;obtain⟨d,hW1⟩:∃d,d=ay (ay w1 ⟨fb,0,M9⟩ (M7 Q 0)) ⟨fb,1,M9⟩ (M7 Q 0):=⟨_,rfl⟩
 rw[<-hW1];have v0:V d (av fb 0)=Z (ak 0):=by exact un
 have v1:V d (av fb 1)=Z (ak 0):=by exact zw
 have m:Fr (fun k=>k=fb) w1 d:=by rw[hW1];exact((Fr.refl (fun k=>k=fb) w1).set fb 0 _ rfl).set fb 1 _ rfl
 have al:M3 (G d)=M3 (G w1):=by rw[hW1];simp
 clear hW1;have j2:=(gg ⟨pw,p,q,pc,s,nb,n,o⟩).keep g.o.1 m.size (fun b c=>m.block b ((gg ⟨pw,p,q,pc,s,nb,n,o⟩).lt g.o.1 b c) (fun e=>by have t:=g.o.2.1 b c;have e:=e;omega))
 have j:=(aw d (M5 #[M7 Q 0,M7 Q 0] 28)).alloc ac (M5 #[.pointer (Z ⟨pw,0,M9⟩)] 49)
 have W:=aP (d.alloc (M5 #[M7 Q 0,M7 Q 0] 28)) (M5 #[.pointer (Z ⟨pw,0,M9⟩)] 49)
 have am:M3 (G (d.alloc (M5 #[M7 Q 0,M7 Q 0] 28)))=M3 (G w1)+1:=by simp[al]
 rw[am] at W;have an:=g.o.2.2.trans (m.below (Nat.le_of_lt ai) (fun k e=>Nat.le_of_eq (Eq.symm e)))
 refine a6 (v:=a8 #[aq (M3 (G w1)+1),bF #[ak 0,ak 0]]) (by simp only [results,results18];simp[go_sem,((j.cell (p:=av fb 0) (by show fb<_;omega)).trans v0),((j.cell (p:=av fb 1) (by show fb<_;omega)).trans v1)]) rfl ⟨⟨pw,p,q,pc,s,nb,n,o⟩,M3 (G w1)+1,fun b=>l b\/b=M3 (G w1)+1,rfl,⟨l,((gg ⟨pw,p,q,pc,s,nb,n,o⟩).below j2 j),W,fun c=>?_,fun b=>iy⟩,⟨rfl,rfl⟩,fun b c=>?_,by rw[ag];exact an.trans (j.mono aa)⟩
 ·have:=(gg ⟨pw,p,q,pc,s,nb,n,o⟩).lt j2 _ c;omega
 ·rcases c with c|c
  ·have:=g.o.2.1 b c;omega
  ·omega
section
variable {a:Wc}{hp:Nat}{F:Nat->Prop}{S:cw}{w:az}
theorem GE (R A B I n:Int)(w:az)(hp:Nat):J O 57 #[aq hp,eb 1 R A B I n] w fun e w'=>e=M6 (a8 #[ak (ew 1 n),ak (vc 1 n)])/\C (M3 (G w)) w w':=by
 have b:=aw w (cH 1 R A B I n)
 go_enter func57,ntmps57;go_wp2_with fail;refine(pN n _).mono ?_;rintro e w1 ⟨rfl,hb⟩
 go_wp2_with fail;go_ret2;exact⟨rfl,b.trans (hb.mono b.size)⟩
theorem GF (h:(cD a hp).J F S w)(m:Int)(hm:m<=(a.N:Int)-S.s.y):
 Calls O 193 #[aq hp,ak m] w fun e w'=>e=M6 (ak 0)/\C (M3 (G w)) w w':=by
 obtain⟨h0,c0,_⟩:=fw h;have P:=pD w (l7 h).1;go_enter func193,ntmps193;exact um
def jr (rs:List Int)(y:Nat)(ws:List Int)(rl:List Nat):Nat->List Int
 |0=>ws
 |j+1=>(jr rs y ws rl j).set (y+1+j) (X rs (X rl j 0) 0)
end
theorem zx {w:az}{base n m:Nat}{e:TypeId}{ad:Option Addr}{cap:Nat}{b:List bD}(h:aC w base e m (H ad n cap) n b):ad=M9->n=0/\cap=0:=fun d=>by
 subst d;rcases h.2 with⟨hv,hn⟩|⟨g,c,f,hv,_⟩
 ·simp at hv;exact⟨hn,hv.2⟩
 ·simp at hv
structure cg where
 a:Wc
 s:eE
 Y:List Int
 G:List Int
structure cz where
 f:Int->Int
 td:List Int
 ep:List Int
def cg.T (k:cg):List Int:=k.G++k.Y
def cg.ld (k:cg)(x:Int):Int:=Proofs.YtpkjkjhanlbcoaaGreat.ld k.a.N k.s.y k.s.g k.s.ws x
def cg.jt (k:cg)(x:Int):Bool:=de x&&bR k.T (cr x)
def cg.cY (k:cg)(s:cz)(x:Int):Bool:=k.jt x&&(s.f (cr x)==-1)
def cg.nw (k:cg)(s:cz)(x:Int):Int:=if(k.jt x&&!(s.f (cr x)==-1))=Nc then ew 3 (s.f (cr x)) else x
def cg.ma (k:cg)(s:cz)(x:Int):cz:=if k.cY s x=Nc then {s with f:=hG s.f (cr x) (cr x),td:=s.td++[cr x]} else s
def cg.fH (k:cg)(s:cz)(a:Int):Nat->cz
 |0=>s
 |n+1=>k.ma (k.fH s a n) (k.ld (a+1+n))
def cg.lk (k:cg)(s:cz)(a:Int):cz:=
 if pk (k.ld a)=1\/pk (k.ld a)=2 then k.fH s a (M (pf (k.ld a)))
 else if pk (k.ld a)=3 then k.ma s (k.ld (a+2))
 else if pk (k.ld a)=4 then {s with ep:=s.ep++[a]} else s
def cg.l1 (k:cg)(s:cz):cz:=k.lk {s with td:=s.td.take (L s.td-1)} (X s.td (L s.td-1) 0)
def cg.lm (k:cg):Nat->cz->cz
 |0,s=>s
 |n+1,s=>if 0<L s.td then k.lm n (k.l1 s) else s
def cg.cV (k:cg)(t:List Int×cz)(a:Int):List Int×cz:=if k.cY t.2 (k.ld (a+1))=Nc then(t.1++[a],t.2) else(t.1,k.ma t.2 (k.ld (a+2)))
def cg.d8 (k:cg)(s:cz)(l:List Int):List Int×cz:=l.foldl k.cV ([],s)
def cg.kv (k:cg)(s:cz):Bool×cz:=(decide (L (k.d8 s s.ep).1<L s.ep),{(k.d8 s s.ep).2 with ep:=(k.d8 s s.ep).1})
def cg.al (k:cg)(s:cz)(x:Int):Bool:=!k.cY s x
def cg.lost (k:cg)(s:cz):Nat:=L (k.T.filter (fun a=>s.f a==-1))
structure c9 (k:cg)(s:cz):Prop where
 nd:k.T.Nodup
 ps:∀a∈k.T,0<=a/\a<=2000
 td:∀a∈s.td,a∈k.T
 ep:∀a∈s.ep,a∈k.T
 tl:L k.T<=4000
 sum:k.lost s+L s.td+L s.ep<=L k.T
section
variable {k:cg}{s:cz}
theorem cg.rA {x:Int}(h:k.cY s x=Nc):de x=Nc/\cr x∈k.T/\s.f (cr x)=-1:=by grind [cY,jt]
theorem cg.zy (hn:k.T.Nodup){x:Int}(h:k.cY s x=Nc)(h0:∀a∈k.T,0<=a):k.lost (k.ma s x)+1=k.lost s:=by
 obtain⟨_,b,c⟩:=cg.rA h;have e:(k.ma s x).f=hG s.f (cr x) (cr x):=by grind [ma]
 have hp:=h0 _ b;unfold cg.lost;rw[e,yF _ _ _ _ aa];exact ER _ _ (by grind) (by grind)
theorem c9.ma (h:c9 k s)(x:Int):c9 k (k.ma s x)/\k.lost (k.ma s x)+L (k.ma s x).td=k.lost s+L s.td/\(k.ma s x).ep=s.ep:=by
 by_cases c:k.cY s x=Nc
 ·have d:=cg.zy h.nd c (fun a ha=>(h.ps a ha).1)
  obtain⟨_,e,_⟩:=cg.rA c;have f:(k.ma s x).td=s.td++[cr x]:=by grind [cg.ma]
  have b:(k.ma s x).ep=s.ep:=by grind [cg.ma]
  have hs:=h.sum;have g:L (k.ma s x).td=L s.td+1:=by grind
  refine⟨⟨h.nd,h.ps,fun a ha=>?_,(b▸h.ep),h.tl,by grind⟩,aa,b⟩
  grind [td]
 grind [cg.ma]
theorem c9.fH (h:c9 k s)(a:Int):∀n,c9 k (k.fH s a n)/\k.lost (k.fH s a n)+L (k.fH s a n).td=k.lost s+L s.td/\(k.fH s a n).ep=s.ep
 |0=>⟨h,rfl,rfl⟩
 |n+1=>by obtain⟨b,c,d⟩:=c9.fH h a n;obtain⟨e,j2,cI⟩:=b.ma _;exact⟨e,j2.trans c,cI.trans d⟩
theorem c9.lk (h:c9 k s){a:Int}(ha:a∈k.T)(hr:k.lost s+L s.td+L s.ep+1<=L k.T):c9 k (k.lk s a)/\k.lost (k.lk s a)+L (k.lk s a).td=k.lost s+L s.td/\L (k.lk s a).ep<=L s.ep+1:=by
 unfold cg.lk;split
 ·grind [fH]
 ·split
  ·grind [ma]
  ·split
   ·refine⟨⟨h.nd,h.ps,h.td,fun b hb=>?_,h.tl,?_⟩,rfl,ac⟩
    ·grind [ep]
    ·show k.lost s+L s.td+L (s.ep++[a])<=_
     grind
   grind
theorem c9.l1 (h:c9 k s)(hl:0<L s.td):c9 k (k.l1 s)/\k.lost (k.l1 s)+L (k.l1 s).td+1=k.lost s+L s.td:=by
 have hm:X s.td (L s.td-1) 0∈s.td:=by grind
 have hs:=h.sum;have e:L (s.td.take (L s.td-1))=L s.td-1:=by simp_all
 have h0:c9 k {s with td:=s.td.take (L s.td-1)}:=⟨h.nd,h.ps,fun a ha=>h.td a (by grind),h.ep,h.tl,by show k.lost s+L (s.td.take _)+L s.ep<=_;omega⟩
 have b:k.lost {s with td:=s.td.take (L s.td-1)}=k.lost s:=rfl
 grind [lk,td,cg.l1]
theorem c9.lm:∀(n:Nat){s:cz},c9 k s->c9 k (k.lm n s)/\(k.lost s+L s.td<n->(k.lm n s).td=[])/\k.lost (k.lm n s)+L (k.lm n s).td<=k.lost s+L s.td
 |0,s,h=>⟨h,fun e=>aa,aG _⟩
 |n+1,s,h=>by
  unfold cg.lm;by_cases c:0<L s.td
  ·rw[aJ c];obtain⟨b,d⟩:=h.l1 c;obtain⟨f,j2,cI⟩:=c9.lm n b
   grind
  grind
theorem c9.cV {t:List Int×cz}(h:c9 k t.2){a:Int}(ha:a∈k.T)(ht:∀b∈t.1,b∈k.T):c9 k (k.cV t a).2/\L (k.cV t a).1<=L t.1+1/\(∀b∈(k.cV t a).1,b∈k.T)/\k.lost (k.cV t a).2+L (k.cV t a).2.td=k.lost t.2+L t.2.td/\(k.cV t a).2.ep=t.2.ep:=by
 unfold cg.cV;split
 ·grind
 grind [ma]
theorem c9.i3:∀(l:List Int){t:List Int×cz},c9 k t.2->(∀a∈l,a∈k.T)->(∀b∈t.1,b∈k.T)->c9 k (l.foldl k.cV t).2/\L (l.foldl k.cV t).1<=L t.1+L l/\(∀b∈(l.foldl k.cV t).1,b∈k.T)/\k.lost (l.foldl k.cV t).2+L (l.foldl k.cV t).2.td=k.lost t.2+L t.2.td/\(l.foldl k.cV t).2.ep=t.2.ep
 |[],t,h,_,ht=>(by grind)
 |a::l,t,h,hl,ht=>by
  obtain⟨c,e,d,f,g⟩:=h.cV (hl a ac) ht;obtain⟨i,j2,cI,cK,dN⟩:=c9.i3 l c (by grind) d
  grind
theorem c9.kv (h:c9 k s):c9 k (k.kv s).2/\k.lost (k.kv s).2+L (k.kv s).2.td=k.lost s+L s.td/\L (k.kv s).2.ep<=L s.ep/\((k.kv s).1=Nc->L (k.kv s).2.ep<L s.ep):=by
 obtain⟨d,b,f,c,g⟩:=c9.i3 s.ep (t:=([],s)) h h.ep (by grind)
 have i:k.lost (k.kv s).2=k.lost (k.d8 s s.ep).2:=rfl;have j:(k.kv s).2.td=(k.d8 s s.ep).2.td:=rfl;have l:(k.kv s).2.ep=(k.d8 s s.ep).1:=rfl;have b:L (k.d8 s s.ep).1<=0+L s.ep:=b;have c:k.lost (k.d8 s s.ep).2+L (k.d8 s s.ep).2.td=k.lost s+L s.td:=c;have hs:=h.sum;refine⟨⟨h.nd,h.ps,d.td,f,h.tl,?_⟩,by simp_all,by grind,fun e=>?_⟩
 ·grind
 ·exact of_decide_eq_true e
end
structure fI where
 pk:Nat
 cu:Nat
 bs:Nat
 yv:bD
 ov:bD
structure dR (c:fI)(k:cg)(pO:Nat->Prop)(own:Nat->Nat)(s:cz)(vt cy:bD)(w:az):Prop where
 wd:(es k.a).J pO k.s w
 w1:∀b,pO b↔own b=1
 cb:w.heap[c.pk]?=Z (M5 #[aq k.a.pw,c.yv,c.ov,.map (Z c.cu),aq c.bs,vt,cy] 140 (0,0))
 k1:own c.pk=5
 mp:Mp w c.cu k.T s.f
 m1:own c.cu=6
 tr:aC w 0 3 1 vt (L s.td) (s.td.map (Value.int Q))
 ij:∀b,Z b=P vt->own b=7
 er:aC w 0 3 1 cy (L s.ep) (s.ep.map (Value.int Q))
 eo:∀b,Z b=P cy->own b=8
 yr:aC w 0 3 1 c.yv (L k.Y) (k.Y.map (Value.int Q))
 iL:∀b,Z b=P c.yv->own b=9
 gr:aC w 0 3 1 c.ov (L k.G) (k.G.map (Value.int Q))
 go:∀b,Z b=P c.ov->own b=10
 lt:∀b,own b≠0->b<w.heap.size
section
variable {c:fI}{k:cg}{pO:Nat->Prop}{own:Nat->Nat}{s:cz}{vt cy:bD}{w w':az}
theorem dR.but (h:dR c k pO own s vt cy w)(L:Nat->Prop)(hs:M3 (G w)<=M3 (G w'))(hk:∀b,b<M3 (G w)->own b≠0->¬L (own b)->w'.heap[b]?=w.heap[b]?)
 (f:L 5->w'.heap[c.pk]?=Z (M5 #[aq k.a.pw,c.yv,c.ov,.map (Z c.cu),aq c.bs,vt,cy] 140 (0,0)))
 (hM:L 6->Mp w' c.cu k.T s.f)(g:L 7->aC w' 0 3 1 vt s.td.length (s.td.map (Value.int Q)))(i:L 8->aC w' 0 3 1 cy s.ep.length (s.ep.map (Value.int Q)))(j:¬L 1)(m:¬L 9)(n:¬L 10):dR c k pO own s vt cy w' where
 wd:=(es k.a).keep h.wd hs (fun b d=>hk b ((es k.a).lt h.wd b d) (by rw[(h.w1 b).1 d];decide) (by rw[(h.w1 b).1 d];omega))
 w1:=h.w1
 cb:=by grind [cb,k1]
 k1:=h.k1
 mp:=by
  by_cases l:L 6
  ·grind
  ·exact h.mp.same (hk _ h.mp.lt (by grind [m1]) (by grind [m1]))
 m1:=h.m1
 tr:=by
  by_cases l:L 7
  ·grind
  ·exact cM h.tr (fun b e=>hk b (cv h.tr b e).2 (by grind [ij]) (by grind [ij]))
 ij:=h.ij
 er:=by
  by_cases l:L 8
  ·grind
  ·exact cM h.er (fun b e=>hk b (cv h.er b e).2 (by grind [eo]) (by grind [eo]))
 eo:=h.eo
 yr:=cM h.yr (fun b e=>hk b (cv h.yr b e).2 (by grind [iL]) (by grind [iL]))
 iL:=h.iL
 gr:=cM h.gr (fun b e=>hk b (cv h.gr b e).2 (by grind [go]) (by grind [go]))
 go:=h.go
 lt:=fun b hb=>aO (h.lt b hb) hs
end
def c7 (c:fI)(k:cg)(vt f:bD):dC cz where
 J F s w:=∃d own,dR c k d own s vt f w/\∀b,F b↔own b≠0
 lt:=by rintro F s w ⟨d,own,h,e⟩ b hb;exact h.lt b ((e b).1 hb)
 keep:=by rintro F s w w' ⟨d,own,h,e⟩ hs hk;exact⟨d,own,h.but (fun _=>False) hs (fun b _ h0 _=>hk b ((e b).2 h0)) rq rq rq rq id id id,e⟩
def e4 (c:fI)(k:cg):dC cz where
 J F s w:=∃vt b,(c7 c k vt b).J F s w
 lt:=by
  rintro F s w ⟨vt,b,h⟩
  exact(c7 c k vt b).lt h
 keep:=by rintro F s w w' ⟨vt,b,h⟩ hs hk;exact⟨vt,b,(c7 c k vt b).keep h hs hk⟩
section
variable {c:fI}{k:cg}{F:Nat->Prop}{s:cz}{vt cy:bD}{w:az}
theorem eS (h:(c7 c k vt cy).J F s w):V w (av c.pk 0)=Z (aq k.a.pw)/\V w (av c.pk 1)=Z c.yv/\V w (av c.pk 2)=Z c.ov/\V w (av c.pk 3)=Z (.map (Z c.cu))/\V w (av c.pk 4)=Z (aq c.bs)/\V w (av c.pk 5)=Z vt/\V w (av c.pk 6)=Z cy/\(∀i,bO w (av c.pk i)=K)/\c.pk<M3 (G w):=by
 obtain⟨d,own,h,_⟩:=h;have b:=h.cb;refine⟨?_,?_,?_,?_,?_,?_,?_,fun i=>?_,lt_of_some b⟩
 all_goals first|simp[World.cell?,b]|simp[World.frozen?,b]
theorem hJ (h:(c7 c k vt cy).J F s w):At w k.a.p k.a.q k.a.N k.a.O k.s.y k.s.g k.s.ws/\V w (av k.a.pw 0)=Z (aq k.a.p)/\V w (av k.a.pw 3)=Z (H (au k.a.nb) 12 12)/\∀i,i<12->V w (av k.a.nb i)=Z (ak (X k.s.rs i 0)):=by obtain⟨b,own,h,_⟩:=h;obtain⟨c0,_,_,c3,_,_,_,rt⟩:=kt h.wd;exact⟨(lv h.wd).1,c0,c3,fun i hi=>(by grind)⟩
theorem pP (h:(c7 c k vt cy).J F s w):Mp w c.cu k.T s.f/\∀w' f,Mp w' c.cu k.T f->Fr (fun b=>b=c.cu) w w'->(c7 c k vt cy).J F {s with f:=f} w'/\ch F w F w':=by
 obtain⟨i,own,h,j⟩:=h;refine⟨h.mp,fun w' f hm fr=>⟨⟨i,own,?_,j⟩,⟨(by grind [Fr.mono,dR.m1]),fun _ d=>aM d⟩⟩⟩
 have g:dR c k i own {s with f:=f} vt cy w':=by
  have hk:∀b,b<M3 (G w)->own b≠6->_=_:=fun b hb hn=>fr.block b hb (fun e=>hn (by rw[e];exact h.m1))
  exact {
   wd:=(es k.a).keep h.wd fr.size (fun b d=>hk b ((es k.a).lt h.wd b d) (by rw[(h.w1 b).1 d];decide)),w1:=h.w1
   cb:=(by grind [dR.cb,dR.k1]),k1:=h.k1,mp:=hm,m1:=h.m1
   tr:=cM h.tr (fun b e=>hk b (cv h.tr b e).2 (by grind [dR.ij])),ij:=h.ij
   er:=cM h.er (fun b e=>hk b (cv h.er b e).2 (by grind [dR.eo])),eo:=h.eo
   yr:=cM h.yr (fun b e=>hk b (cv h.yr b e).2 (by grind [dR.iL])),iL:=h.iL
   gr:=cM h.gr (fun b e=>hk b (cv h.gr b e).2 (by grind [dR.go])),go:=h.go
   lt:=fun b hb=>aO (h.lt b hb) fr.size}
 omega
theorem GG {v0:bD}(h:(c7 c k v0 cy).J F s w){v1:bD}{l:List Int}{w1:az}(g:Fr (fun b=>Z b=P v0) w w1)(ho:aC w1 0 3 1 v1 (L l) (l.map (Value.int Q)))(hn:∀b,Z b=P v1->Z b=P v0\/¬F b):
 (c7 c k v1 cy).J (fun b=>F b\/Z b=P v1) {s with td:=l} (ay w1 ⟨c.pk,5,M9⟩ v1)/\Fr F w (ay w1 ⟨c.pk,5,M9⟩ v1):=by
 obtain⟨i,own,h,m⟩:=h;have sz:M3 (G (ay w1 ⟨c.pk,5,M9⟩ v1))=M3 (G w1):=by simp_all
 have hb1:∀b,b<M3 (G w)->own b≠7->_=_:=fun b hb hn=>g.block b hb (fun e=>hn (h.ij b e))
 have hb:∀b,b<M3 (G w)->own b≠7->own b≠5->(ay w1 ⟨c.pk,5,M9⟩ v1).heap[b]?=w.heap[b]?:=fun b hb n p=>(by grind [dR.k1,aX])
 have o:∀b,Z b=P v1->_:=fun b e=>(hn b e).elim (fun e=>aM (h.ij b e)) (fun hl=>aK (mg (fun c=>hl ((m b).2 c))))
 have f:∀b j,own b=j->j≠7->j≠0->(if Z b=P v1 then 7 else own b)=j:=fun b j e n h0=>(aI (fun c=>by rcases o b c with c|c<;>omega)▸e)
 have q:=fun b e=>(cv ho b e).2;refine⟨⟨i,fun b=>if Z b=P v1 then 7 else own b,?_,fun b=>?_⟩,?_⟩
 ·exact {
   wd:=(es k.a).keep h.wd ((sz▸g.size)) (fun b d=>hb b ((es k.a).lt h.wd b d) (by rw[(h.w1 b).1 d];decide) (by rw[(h.w1 b).1 d];decide))
   w1:=fun b=>⟨fun d=>f _ _ ((h.w1 b).1 d) ae ae,fun d=>by
    by_cases e:Z b=P v1
    ·simp_all
    ·rw[aI e] at d;exact(h.w1 b).2 d⟩
   k1:=f _ _ h.k1 ae ae,m1:=f _ _ h.m1 ae ae
   cb:=by exact zv
   mp:=h.mp.same (hb _ h.mp.lt (by grind [dR.m1]) (by grind [dR.m1]))
   tr:=(by grind [cM,dR.k1,aX])
   ij:=fun b e=>by grind
   er:=cM h.er (fun b e=>hb b (cv h.er b e).2 (by grind [dR.eo]) (by grind [dR.eo]))
   eo:=fun b e=>(by grind [dR.eo])
   yr:=cM h.yr (fun b e=>hb b (cv h.yr b e).2 (by grind [dR.iL]) (by grind [dR.iL]))
   iL:=fun b e=>(by grind [dR.iL])
   gr:=cM h.gr (fun b e=>hb b (cv h.gr b e).2 (by grind [dR.go]) (by grind [dR.go]))
   go:=fun b e=>(by grind [dR.go])
   lt:=fun b hb=>by grind [dR.lt,Fr.size,aO]}
 ·grind
 grind [Fr.mono,dR.ij,Fr.set,dR.k1]
theorem zz {v0:bD}(h:(c7 c k v0 cy).J F s w){v1:bD}{l:List Int}{w1:az}(f:Fr (fun b=>Z b=P v0) w w1)(ho:aC w1 0 3 1 v1 (L l) (l.map (Value.int Q)))(hn:∀b,Z b=P v1->Z b=P v0\/M3 (G w)<=b):
 ∃d,(c7 c k v1 cy).J d {s with td:=l} (ay w1 ⟨c.pk,5,M9⟩ v1)/\ch F w d (ay w1 ⟨c.pk,5,M9⟩ v1):=by
 obtain⟨g,i⟩:=GG h f ho (fun b e=>(hn b e).imp id (fun j hb=>by have:=(c7 c k v0 cy).lt h b hb;omega))
 obtain⟨m,own,hm,n⟩:=h;exact⟨_,g,i,fun b hb=>(by grind [dR.ij])⟩
theorem zA {v0:bD}(h:(c7 c k vt v0).J F s w){v1:bD}{l:List Int}{w1:az}(g:Fr (fun b=>Z b=P v0) w w1)(ho:aC w1 0 3 1 v1 (L l) (l.map (Value.int Q)))(hn:∀b,Z b=P v1->Z b=P v0\/¬F b):
 (c7 c k vt v1).J (fun b=>F b\/Z b=P v1) {s with ep:=l} (ay w1 ⟨c.pk,6,M9⟩ v1)/\Fr F w (ay w1 ⟨c.pk,6,M9⟩ v1):=by
 obtain⟨i,own,h,m⟩:=h;have sz:M3 (G (ay w1 ⟨c.pk,6,M9⟩ v1))=M3 (G w1):=by simp_all
 have hb1:∀b,b<M3 (G w)->own b≠8->_=_:=fun b hb hn=>g.block b hb (fun e=>hn (h.eo b e))
 have hb:∀b,b<M3 (G w)->own b≠8->own b≠5->(ay w1 ⟨c.pk,6,M9⟩ v1).heap[b]?=w.heap[b]?:=fun b hb n p=>(by grind [dR.k1,aX])
 have o:∀b,Z b=P v1->_:=fun b e=>(hn b e).elim (fun e=>aM (h.eo b e)) (fun hl=>aK (mg (fun c=>hl ((m b).2 c))))
 have f:∀b j,own b=j->j≠8->j≠0->(if Z b=P v1 then 8 else own b)=j:=fun b j e n h0=>(aI (fun c=>by rcases o b c with c|c<;>omega)▸e)
 have q:=fun b e=>(cv ho b e).2;refine⟨⟨i,fun b=>if Z b=P v1 then 8 else own b,?_,fun b=>?_⟩,?_⟩
 ·exact {
   wd:=(es k.a).keep h.wd ((sz▸g.size)) (fun b d=>hb b ((es k.a).lt h.wd b d) (by rw[(h.w1 b).1 d];decide) (by rw[(h.w1 b).1 d];decide))
   w1:=fun b=>⟨fun d=>f _ _ ((h.w1 b).1 d) ae ae,fun d=>by
    by_cases e:Z b=P v1
    ·simp_all
    ·rw[aI e] at d;exact(h.w1 b).2 d⟩
   k1:=f _ _ h.k1 ae ae,m1:=f _ _ h.m1 ae ae
   cb:=by exact zv
   mp:=h.mp.same (hb _ h.mp.lt (by grind [dR.m1]) (by grind [dR.m1]))
   er:=(by grind [cM,dR.k1,aX])
   eo:=fun b e=>by grind
   tr:=cM h.tr (fun b e=>hb b (cv h.tr b e).2 (by grind [dR.ij]) (by grind [dR.ij]))
   ij:=fun b e=>(by grind [dR.ij])
   yr:=cM h.yr (fun b e=>hb b (cv h.yr b e).2 (by grind [dR.iL]) (by grind [dR.iL]))
   iL:=fun b e=>(by grind [dR.iL])
   gr:=cM h.gr (fun b e=>hb b (cv h.gr b e).2 (by grind [dR.go]) (by grind [dR.go]))
   go:=fun b e=>(by grind [dR.go])
   lt:=fun b hb=>by grind [dR.lt,Fr.size,aO]}
 ·grind
 grind [Fr.mono,dR.eo,Fr.set,dR.k1]
theorem GH {v0:bD}(h:(c7 c k vt v0).J F s w){v1:bD}{l:List Int}{w1:az}(f:Fr (fun b=>Z b=P v0) w w1)(ho:aC w1 0 3 1 v1 (L l) (l.map (Value.int Q)))(hn:∀b,Z b=P v1->Z b=P v0\/M3 (G w)<=b):
 ∃d,(c7 c k vt v1).J d {s with ep:=l} (ay w1 ⟨c.pk,6,M9⟩ v1)/\ch F w d (ay w1 ⟨c.pk,6,M9⟩ v1):=by
 obtain⟨g,i⟩:=zA h f ho (fun b e=>(hn b e).imp id (fun j hb=>by have:=(c7 c k vt v0).lt h b hb;omega))
 obtain⟨m,own,hm,n⟩:=h;exact⟨_,g,i,fun b hb=>(by grind [dR.eo])⟩
theorem nL (h:(c7 c k vt cy).J F s w):aC w 0 3 1 vt (L s.td) (s.td.map (Value.int Q))/\aC w 0 3 1 cy (L s.ep) (s.ep.map (Value.int Q))/\Z c.pk≠P vt/\Z c.pk≠P cy/\c.pk≠c.cu:=by
 obtain⟨b,own,h,_⟩:=h
 grind [dR.tr,dR.er,dR.ij,dR.k1,dR.eo,dR.m1]
end
section
variable {c:fI}{k:cg}{vt cy:bD}{F:Nat->Prop}{s:cz}{w:az}
theorem zB (h:(c7 c k vt cy).J F s w)(x:Int):
 Calls O 219 #[aq c.pk,ak x] w fun e w'=>∃v,e=M6 (a8 #[ak v,bK (k.jt x)])/\(k.jt x=Nc->v=s.f (cr x))/\C (M3 (G w)) w w':=by
 have HJ:=hide h;have P:=om x w;cases ha:de x
 ·rw[ha] at P;have b:k.jt x=K:=by unfold cg.jt;rw[ha];rfl
  rw[b];go_enter func219,ntmps219;exact yP
 ·have b:k.jt x=bR k.T (cr x):=by unfold cg.jt;rw[ha];rfl
  have d:=t8 ha;rw[b];rw[ha] at P;generalize cr x=a at P d⊢;have yJ:=jL d.1 d.2;obtain⟨bt,hbt⟩:∃bt,bt=bR k.T a:=⟨_,rfl⟩
  rw[<-hbt];go_enter func219,ntmps219;go_wp2_with fail;refine P.mono ?_;clear P;rintro e w1 ⟨rfl,hb1⟩
  have oH:=(c7 c k vt cy).below HJ.o hb1;obtain⟨_,_,_,c1,_⟩:=eS oH;obtain⟨⟨D,o1,o2,o3⟩,_⟩:=pP oH;exact yI
theorem pQ (h:(c7 c k vt cy).J F s w)(x:Int):
 Calls O 154 #[aq c.pk,ak x] w fun e w'=>e=M6 (bK (k.cY s x))/\C (M3 (G w)) w w':=by
 have P:=zB h x;cases hy:k.jt x
 ·have b:k.cY s x=K:=by unfold cg.cY;rw[hy];rfl
  rw[b];rw[hy] at P;go_enter func154,ntmps154;go_wp2_with fail;refine P.mono ?_;rintro e w1 ⟨v,rfl,_,hb1⟩
  go_wp2;go_ret;exact⟨rfl,hb1⟩
 ·have b:k.cY s x=(s.f (cr x)==-1):=by unfold cg.cY;rw[hy];rfl
  rw[b];rw[hy] at P;go_enter func154,ntmps154;exact qY
theorem zC (h:(c7 c k vt cy).J F s w)(x:Int):
 Calls O 156 #[aq c.pk,ak x] w fun e w'=>e=M6 (ak (k.nw s x))/\C (M3 (G w)) w w':=by
 have P:=zB h x;cases hy:k.jt x
 ·have b:k.nw s x=x:=by unfold cg.nw;rw[hy];simp
  rw[b];rw[hy] at P;go_enter func156,ntmps156;go_wp2_with fail;refine P.mono ?_;rintro e w1 ⟨v,rfl,_,hb1⟩
  go_wp2_with fail;go_ret;exact⟨rfl,hb1⟩
 ·rw[hy] at P;by_cases d:s.f (cr x)=-1
  ·have b:k.nw s x=x:=by unfold cg.nw;rw[hy,d];simp
   rw[b];rw[d] at P;go_enter func156,ntmps156;exact qY
  ·have b:k.nw s x=ew 3 (s.f (cr x)):=by unfold cg.nw;rw[hy,aJ (by simp[d])]
   rw[b];generalize s.f (cr x)=a at P d⊢;go_enter func156,ntmps156;exact yM
end
def jO (c:fI)(k:cg)(b:bD):dC cz where
 J F s w:=∃vt,(c7 c k vt b).J F s w
 lt:=by
  rintro F s w ⟨vt,h⟩
  exact(c7 c k vt b).lt h
 keep:=by rintro F s w w' ⟨vt,h⟩ hs hk;exact⟨vt,(c7 c k vt b).keep h hs hk⟩
section
variable {c:fI}{k:cg}{cy:bD}{F:Nat->Prop}{s:cz}{w:az}
theorem zD (h:(jO c k cy).J F s w)(m:c9 k s)(x:Int):
 Calls O 142 #[aq c.pk,ak x] w fun e w'=>∃g,e=M6 (a8 #[])/\(jO c k cy).J g (k.ma s x) w'/\ch F w g w':=by
 obtain⟨vt,h⟩:=h;have P:=pQ h x;have v:=hide h;clear h;cases hl:k.cY s x
 ·have an:k.ma s x=s:=by unfold cg.ma;rw[hl];rfl
  rw[an];rw[hl] at P;go_enter func142,ntmps142;go_wp2_with fail;refine P.mono ?_;rintro e w1 ⟨rfl,d⟩
  have B:aA ((jO c k cy).J F s w1/\ch F w F w1):=⟨⟨vt,(c7 c k vt cy).below v.o d⟩,ch.of d⟩
  go_wp2_with fail;go_end0;exact⟨F,rfl,B.o.1,B.o.2⟩
 ·obtain⟨ao,hi,ap,ar,aB⟩:=bV kk;obtain⟨l1,l2,N⟩:=cg.rA hl;have E:aA (k.ma s x={s with f:=hG s.f (cr x) (cr x),td:=s.td++[cr x]}):=by show _=_;unfold cg.ma;rw[aJ hl]
  have n:=om x;rw[l1] at n;have S:=m.ps _ l2;have bs:=m.tl;have bt:=m.sum;rw[hl] at P;generalize k.ma s x=s2 at E⊢;generalize cr x=a at E n l2 N S⊢;clear hl l1 N;go_enter func142,ntmps142;go_wp2_with fail;refine P.mono ?_;rintro e w1 ⟨rfl,d⟩
  go_wp2_with fail;refine(n w1).mono ?_;rintro e aF ⟨rfl,aR⟩
  have hb:=d.trans (aR.mono d.size)
  have W:=(c7 c k vt cy).below v.o hb;obtain⟨_,_,_,c3,_,c5,_,bx,lk⟩:=eS W;obtain⟨⟨D,o1,a0,a1⟩,hM⟩:=pP W;obtain⟨o,b0,a2,a3⟩:=o1.update (t:=127) (e:=3) jg underlying127 (by unfold bW;omega) (jL S.1 aa) (nG a (WalkArith.wf_i64 ⟨aa,aa⟩))
  obtain⟨p,a4⟩:=hM o _ (Mp.put o1 a0 a1 l2 a2) ((Fr.refl _ aF).grown a3 (fun b e=>aM (by cases e;rfl)))
  obtain⟨_,_,_,_,_,ba,_,bb,bd⟩:=eS p;obtain⟨q,_,be,_⟩:=nL p;dsimp only at q;obtain⟨ad,cap,bg⟩:=eZ q;subst bg;have bi:=bb 5;have ab:=c8 p ((ch.of hb).trans a4)
  go_wp2_with (at_builtin;refine bX _ rfl _ _ 74 rfl 0 3 ao (ak 0) 1 8 underlying74 hi ap ar aB rfl ae (H ad (L s.td) cap) (L s.td) (s.td.map (Value.int Q)) rfl (fC q _) ⟨M3 (G o),0,M9⟩ 1 1 [ak a] rfl rfl ?_ ?_ ?_ ?_ ?_ ?_;(intro j u i;match j,i with|0,i=>(simp at i;subst i;simp[Addr.add]));(intro u ag;simp at ag;subst ag;rfl);(unfold bW;omega);(first|omega|simp);(first|omega|(simp;done)|(simp;omega));intro b1 b2 ai al _ bl;obtain⟨b4,bn,bo⟩:=eW ai (j3 _);subst bo;have am:=(al.block c.pk (by simp;omega) be).trans (aS _ _ _ bd);have g4:=(aQ (a:=⟨c.pk,5,M9⟩) am).trans ba;have b3:=(World.frozen?_of_block (a:=⟨c.pk,5,M9⟩) am).trans bi)
  go_end0;obtain⟨g,bp,br⟩:=zz ab.o.1 (((Fr.refl _ o).alloc _).grown al (fun b e=>aM e.symm)) (v1:=H (au b4) (L s.td+1) bn) (l:=s.td++[a]) (by simpa using ai) (fun b e=>by simp[Value.ownBlock] at e;subst e;exact(bl.imp id (fun e=>by simpa[Value.ownBlock] using e)).imp id (fun e=>by omega))
  exact⟨g,rfl,⟨_,by rw[E.o];exact bp⟩,ab.o.2.trans br⟩
theorem pR (h:(e4 c k).J F s w)(d:c9 k s)(x:Int):
 Calls O 142 #[aq c.pk,ak x] w fun e w'=>∃b,e=M6 (a8 #[])/\(e4 c k).J b (k.ma s x) w'/\ch F w b w':=by
 obtain⟨vt,cy,h⟩:=h;refine(zD ⟨vt,h⟩ d x).mono ?_;rintro e w' ⟨b,rfl,⟨cT,j⟩,t⟩
 exact⟨b,rfl,⟨cT,cy,j⟩,t⟩
end
section
variable {c:fI}{k:cg}{F:Nat->Prop}{s:cz}{w:az}
theorem GI (h:(e4 c k).J F s w)(p:c9 k s)(a:Int)(a0:0<=a)(a1:a<=2000)(hk:pk (k.ld a)=1\/pk (k.ld a)=2):
 Calls O 216 #[aq c.pk,ak a] w fun e w'=>∃b,e=M6 (a8 #[])/\(e4 c k).J b (k.lk s a) w'/\ch F w b w':=by
 have t:k.lk s a=k.fH s a (M (pf (k.ld a))):=by unfold cg.lk;rw[aJ hk]
 rw[t];have u:=hide h;obtain⟨vt,v,h⟩:=h;obtain⟨f,c0,_⟩:=hJ h;obtain⟨B,_⟩:=eS h;have L:=gO a w f;have N:ld k.a.N k.s.y k.s.g k.s.ws a=k.ld a:=rfl;rw[N] at L;have hp:=dv (k.ld a)
 obtain⟨n,hn⟩:∃n:Nat,pf (k.ld a)=n:=⟨M (pf (k.ld a)),aa⟩
 rw[hn] at L hp⊢;have en:M (n:Int)=n:=Int.toNat_natCast n;rw[en];have S:aA (c9 k s):=p;generalize pc (k.ld a)=q at L;have key:∀kd:Int,(kd=1\/kd=2)->pk (k.ld a)=kd->Calls O 216 #[aq c.pk,ak a] w fun e w'=>∃b,e=M6 (a8 #[])/\(e4 c k).J b (k.fH s a n) w'/\ch F w b w':=by
  intro kd W ab;rw[ab] at L;rcases W with rfl|rfl
  all_goals
   go_enter func216,ntmps216;go_wp2_with fail;refine L.mono ?_;rintro e w1 ⟨rfl,g⟩
   have ad:aA ((e4 c k).J F (k.fH s a 0) w1/\ch F w F w1):=⟨(e4 c k).below u.o g,ch.of g⟩
   go_wp2_with fail
   go_loopw [26] (fun iv wr=>∃(i:Nat)(b:Nat->Prop),i<=n/\iv=ak i/\aA ((e4 c k).J b (k.fH s a i) wr/\ch F w b wr)) (fun iv _=>n-M (intOf iv))
   exact⟨0,F,a5 _,rfl,ad⟩
   ·
     obtain⟨i,b,hi,rfl,d⟩:=hrel;by_cases ao:i<n
     ·obtain⟨vt,v,j⟩:=d.o.1;obtain⟨f,c0,_⟩:=hJ j;obtain⟨B,_⟩:=eS j;have P:=ki (a+1+i) wr f;have ex:ld k.a.N k.s.y k.s.g k.s.ws (a+1+i)=k.ld (a+1+i):=rfl;rw[ex] at P;have l:aA (k.fH s a (i+1)=k.ma (k.fH s a i) (k.ld (a+1+i))):=rfl;have ag:=(S.o.fH a i).1;generalize k.ld (a+1+i)=x at P l;go_wp2_with fail;refine P.mono ?_;rintro e ap ⟨rfl,m⟩
      have o:=pR ((e4 c k).below d.o.1 m) ag x;rw[<-l.o] at o;have ai:=hide (d.o.2.below m)
      go_wp2_with fail;refine o.mono ?_;rintro e ar ⟨al,rfl,cK,am⟩
      have an:=c8 cK (ai.o.trans am)
      go_wp2_with fail;go_roundw;exact⟨i+1,al,aa,aj,an⟩
      simp[intOf];omega
     ·obtain rfl:i=n:=aa;go_wp2_with fail;go_end0;exact⟨b,rfl,d.o.1,d.o.2⟩
 exact key _ hk rfl
theorem GJ (h:(e4 c k).J F s w)(p:c9 k s)(a:Int)(a0:0<=a)(a1:a<=2000)(hk:pk (k.ld a)=3):
 Calls O 216 #[aq c.pk,ak a] w fun e w'=>∃d,e=M6 (a8 #[])/\(e4 c k).J d (k.lk s a) w'/\ch F w d w':=by
 have t:k.lk s a=k.ma s (k.ld (a+2)):=by unfold cg.lk;rw[aI aa,aJ hk]
 rw[t];obtain⟨x,f⟩:∃x,k.ld (a+2)=x:=⟨_,rfl⟩
 rw[f];have u:aA (k.ld (a+2)=x):=f;have v:aA ((e4 c k).J F s w):=h;obtain⟨vt,B,h⟩:=h;obtain⟨b,c0,_⟩:=hJ h;obtain⟨N,_⟩:=eS h;have L:=gO a w b;have S:ld k.a.N k.s.y k.s.g k.s.ws a=k.ld a:=rfl;rw[S,hk] at L;generalize pf (k.ld a)=n at L;generalize pc (k.ld a)=q at L;go_enter func216,ntmps216;go_wp2_with fail;refine L.mono ?_;rintro e w1 ⟨rfl,g⟩
 have i:=(e4 c k).below v.o g;have j:aA ((e4 c k).J F s w1/\ch F w F w1):=⟨i,ch.of g⟩
 obtain⟨vt,B,l⟩:=i;obtain⟨b,c0,_⟩:=hJ l;obtain⟨N,_⟩:=eS l;have P:=ki (a+2) w1 b;have ex:ld k.a.N k.s.y k.s.g k.s.ws (a+2)=k.ld (a+2):=rfl;rw[ex,u.o] at P;go_wp2_with fail;refine P.mono ?_;rintro e ai ⟨rfl,m⟩
 have W:=pR ((e4 c k).below j.o.1 m) p x;have ab:=hide (j.o.2.below m)
 go_wp2_with fail;refine W.mono ?_;rintro e al ⟨ad,rfl,cK,ag⟩
 have o:=c8 cK (ab.o.trans ag)
 go_wp2_with fail;go_end0;exact⟨ad,rfl,o.o.1,o.o.2⟩
theorem GK (h:(e4 c k).J F s w)(a:Int)(a2:s.ep.length<=10000)(hk:pk (k.ld a)=4):
 Calls O 216 #[aq c.pk,ak a] w fun e w'=>∃d,e=M6 (a8 #[])/\(e4 c k).J d (k.lk s a) w'/\ch F w d w':=by
 have x:k.lk s a={s with ep:=s.ep++[a]}:=by unfold cg.lk;rw[aI aa,aI aa,aJ hk]
 rw[x];obtain⟨B,hi,N,S,W⟩:=bV kk;have ab:aA ((e4 c k).J F s w):=h;obtain⟨vt,ag,h⟩:=h;obtain⟨ai,c0,_⟩:=hJ h;obtain⟨a3,_⟩:=eS h;have L:=gO a w ai;have al:ld k.a.N k.s.y k.s.g k.s.ws a=k.ld a:=rfl;rw[al,hk] at L;generalize pf (k.ld a)=n at L;generalize pc (k.ld a)=q at L;go_enter func216,ntmps216;go_wp2_with fail;refine L.mono ?_;rintro e w1 ⟨rfl,i⟩
 obtain⟨vt,ag,g⟩:=(e4 c k).below ab.o i;obtain⟨_,_,_,_,_,_,am,an,lk⟩:=eS g;obtain⟨_,er,_,ao,_⟩:=nL g;obtain⟨ad,cap,ap⟩:=eZ er;subst ap;have ar:=an 6;have m:aA ((c7 c k vt (H ad s.ep.length cap)).J F s w1/\ch F w F w1):=⟨g,ch.of i⟩
 go_wp2_with (at_builtin;refine bX _ rfl _ _ 74 rfl 0 3 B (ak 0) 1 8 underlying74 hi N S W rfl ae (H ad s.ep.length cap) s.ep.length (s.ep.map (Value.int Q)) rfl (fC er _) ⟨M3 (G w1),0,M9⟩ 1 1 [ak a] rfl rfl ?_ ?_ ?_ ?_ ?_ ?_;(intro j u f;match j,f with|0,f=>(simp at f;subst f;simp[Addr.add]));(intro u o;simp at o;subst o;rfl);(unfold bW;omega);(first|omega|simp);(first|omega|(simp;done)|(simp;omega));intro a4 ba p t _ aB;obtain⟨b4,aF,aR⟩:=eW p (j3 _);subst aR;have v:=(t.block c.pk (by simp;omega) ao).trans (aS _ _ _ lk);have g4:=(aQ (a:=⟨c.pk,6,M9⟩) v).trans am;have bb:=(World.frozen?_of_block (a:=⟨c.pk,6,M9⟩) v).trans ar)
 go_end0;obtain⟨d,aV,a0⟩:=GH m.o.1 (((Fr.refl _ w1).alloc _).grown t (fun b e=>aM e.symm)) (v1:=H (au b4) (s.ep.length+1) aF) (l:=s.ep++[a]) (by simpa using p) (fun b e=>by
  have a1:=aB.imp id (fun e=>by simpa[Value.ownBlock] using e)
  simp[Value.ownBlock] at e;subst e;exact a1.imp id (fun e=>by omega))
 exact⟨d,rfl,⟨_,_,aV⟩,m.o.2.trans a0⟩
theorem GL (h:(e4 c k).J F s w)(a:Int)(k1:pk (k.ld a)≠1)(n:pk (k.ld a)≠2)(g:pk (k.ld a)≠3)(i:pk (k.ld a)≠4):
 Calls O 216 #[aq c.pk,ak a] w fun e w'=>∃b,e=M6 (a8 #[])/\(e4 c k).J b (k.lk s a) w'/\ch F w b w':=by
 have j:k.lk s a=s:=by unfold cg.lk;rw[aI aa,aI g,aI i]
 rw[j];have l:aA ((e4 c k).J F s w):=h;obtain⟨vt,o,h⟩:=h;obtain⟨m,c0,_⟩:=hJ h;obtain⟨p,_⟩:=eS h;have L:=gO a w m;have q:ld k.a.N k.s.y k.s.g k.s.ws a=k.ld a:=rfl;go_enter func216,ntmps216;go_wp2_with fail;refine L.mono ?_;rintro e w1 ⟨rfl,d⟩
 have f:aA ((e4 c k).J F s w1/\ch F w F w1):=⟨(e4 c k).below l.o d,ch.of d⟩
 go_wp2_with fail;go_end0;exact⟨F,rfl,f.o.1,f.o.2⟩
theorem GM (h:(e4 c k).J F s w)(b:c9 k s)(a:Int)(a0:0<=a)(a1:a<=2000)(i:L s.ep<=10000):
 Calls O 216 #[aq c.pk,ak a] w fun e w'=>∃d,e=M6 (a8 #[])/\(e4 c k).J d (k.lk s a) w'/\ch F w d w':=by
 by_cases k1:pk (k.ld a)=1\/pk (k.ld a)=2
 ·exact GI h b a a0 a1 k1
 by_cases f:pk (k.ld a)=3
 ·exact GJ h b a a0 a1 f
 by_cases g:pk (k.ld a)=4
 ·exact GK h a i g
 exact GL h a (fun e=>k1 (aM e)) (fun e=>k1 (aK e)) f g
theorem GN (h:(e4 c k).J F s w)(ao:c9 k s):
 Calls O 143 #[aq c.pk] w fun e w'=>∃u,e=M6 (a8 #[])/\(e4 c k).J u (k.lm (k.lost s+L s.td+1) s) w'/\ch F w u w':=by
 have v:=c8 h ao;obtain⟨g,B⟩:∃g,k.lm (k.lost s+L s.td+1) s=g:=⟨_,rfl⟩
 rw[B];have ap:=hide B;obtain⟨vt,ar,h⟩:=h;obtain⟨_,_,_,_,_,N,_⟩:=eS h;obtain⟨tr,_⟩:=nL h;obtain⟨ad,cap,q⟩:=eZ tr;subst q;go_enter func143,ntmps143;go_wp2_with fail
 go_loopg [2] (k.lost s+L s.td) (fun m nv wr=>∃(s1:cz)(i:Nat->Prop),nv=ak (L s1.td)/\aA ((e4 c k).J i s1 wr/\c9 k s1/\ch F w i wr)/\aA (k.lost s1+L s1.td<=m/\k.lm (m+1) s1=g))
 exact⟨s,F,rfl,⟨v.o.1,v.o.2,ch.refl _ _⟩,⟨aG _,ap.o⟩⟩
 ·
   obtain⟨s1,i,rfl,d,j⟩:=hrel;by_cases f:0<L s1.td
   ·obtain⟨vt,ar,o⟩:=d.o.1;obtain⟨_,_,_,_,_,N,_,S,lk⟩:=eS o;obtain⟨tr,_,bi,_⟩:=nL o;obtain⟨b,cap,q⟩:=eW tr f;subst q;have aB:=tq tr;have bl:bW<=9223372036854775807:=by unfold bW;omega
    have aF:V wr (av b (L s1.td-1))=Z (ak (X s1.td (L s1.td-1) 0)):=by obtain⟨bn,o',e,_,hc⟩:=hZ tr f;cases e;have:=hc (L s1.td-1) aa;rwa [Nat.zero_add] at this
    have bo:=S 5;have hm:X s1.td (L s1.td-1) 0∈s1.td:=by rw[aL,aN aa];exact a9 _
    have W:=d.o.2.1.ps _ (d.o.2.1.td _ hm)
    have aR:=d.o.2.1.sum;have bp:=d.o.2.1.tl;obtain⟨br,ab,ag⟩:=zz o (Fr.refl _ wr) (v1:=H (au b) (L s1.td-1) cap) (l:=s1.td.take (L s1.td-1)) (by have:=ti tr (L s1.td-1) aa;rw[List.map_take,show L (s1.td.take (L s1.td-1))=L s1.td-1 by rw[bz];omega];exact this) (fun b e=>aM e)
    have ai:c9 k {s1 with td:=s1.td.take (L s1.td-1)}:=⟨d.o.2.1.nd,d.o.2.1.ps,fun x aV=>d.o.2.1.td x (List.mem_of_mem_take aV),d.o.2.1.ep,d.o.2.1.tl,by show k.lost s1+L (s1.td.take (L s1.td-1))+L s1.ep<=_;rw[bz];omega⟩
    have t:=GM ⟨_,_,ab⟩ ai (X s1.td (L s1.td-1) 0) W.1 W.2 (by show L s1.ep<=10000;omega)
    have a0:aA (k.lk {s1 with td:=s1.td.take (L s1.td-1)} (X s1.td (L s1.td-1) 0)=k.l1 s1):=rfl;rw[a0.o] at t;have al:=hide (d.o.2.1.l1 f)
    have a1:aA (k.lm (gk+1) s1=k.lm gk (k.l1 s1)):=by show _=_;rw[cg.lm,aJ f]
    have am:=hide (d.o.2.2.trans ag)
    obtain⟨n,hn⟩:∃n,L s1.td=n+1:=⟨L s1.td-1,aa⟩
    rw[hn] at N aB⊢;rw[hn,Nat.add_sub_cancel] at aF t am;generalize X s1.td n 0=x at*;generalize k.l1 s1=p at*;have bs:n<=4000:=aa;clear o ab ag ai tr hm aR S d;go_wp2_with fail;refine t.mono ?_;rintro e bt ⟨a2,rfl,cK,a3⟩
    have a4:=g_ cK al.o.1 (am.o.trans a3)
    obtain⟨bx,b0,an⟩:=cK;obtain⟨_,_,_,_,_,b1,_⟩:=eS an;obtain⟨ba,_⟩:=nL an;obtain⟨b2,b3,bb⟩:=eZ ba;subst bb;have hg:1<=gk:=by have:=j.o.1;omega
    have bd:aA (k.lost p+L p.td<=gk-1/\k.lm (gk-1+1) p=g):=⟨by have:=j.o.1;have:=al.o.2;omega,by rw[Nat.sub_add_cancel hg,<-a1.o];exact j.o.2⟩
    go_wp2_with fail
    go_roundg (gk-1)
    case measure=>omega
    exact⟨p,a2,rfl,a4,bd⟩
   ·have be:s1.td=[]:=by
     cases ht:s1.td with
     |nil=>rfl
     |cons x l=>rw[ht] at f;simp at f
    have bg:g=s1:=by rw[<-j.o.2];unfold cg.lm;rw[aI f]
    subst bg;rw[be];go_wp2_with fail;go_end0;exact⟨i,rfl,d.o.1,d.o.2.2⟩
end
end Go.Proofs.YtpkjkjhanlbcoaaGreat
