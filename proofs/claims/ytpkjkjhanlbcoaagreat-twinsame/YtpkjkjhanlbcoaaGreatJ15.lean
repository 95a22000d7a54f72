import Derived.Test.YtpkjkjhanlbcoaaGreatJ13
import Derived.Test.YtpkjkjhanlbcoaaGreatJ14
namespace Go.Proofs.YtpkjkjhanlbcoaaGreat
set_option maxRecDepth 100000
set_option maxHeartbeats 2000000
open Tryz
open Go.RowKit W Kp cf
theorem s8 {P:Prop}(h:P:=by
 have P0:∀w,Calls prog 119 #[ah R] w fun e w'=>e=.returned (.bool false)/\w'=w:=fun w=>by have h:=iQ R w;rw[hR] at h;exact h
 have hb0:=au w (.cells #[.int .i64 k,.int .i64 R,.int .i64 A,.int .i64 B,.int .i64 I,.int .i64 n] 44)
 clear hu;go_enter func55,ntmps55;go_wp2_with fail;refine(U _).mono ?_;rintro e w1 ⟨rfl,rfl⟩
 go_wp2_with fail;refine(P0 _).mono ?_;rintro e w1 ⟨rfl,rfl⟩
 go_wp2_with fail;go_ret;exact⟨rfl,hb0⟩):P:=h
theorem x2 {P:Prop}(h:P:=by
 have P0:∀w,Calls prog 119 #[ah R] w fun e w'=>e=.returned (.bool true)/\w'=w:=fun w=>by have h:=iQ R w;rw[hR] at h;exact h
 have P1:∀w,Calls prog 119 #[ah A] w fun e w'=>e=.returned (.bool false)/\w'=w:=fun w=>by have h:=iQ A w;rw[hA] at h;exact h
 have hb0:=au w (.cells #[.int .i64 k,.int .i64 R,.int .i64 A,.int .i64 B,.int .i64 I,.int .i64 n] 44)
 clear hu;go_enter func55,ntmps55;go_wp2_with fail;refine(U _).mono ?_;rintro e w1 ⟨rfl,rfl⟩
 go_wp2_with fail;refine(P0 _).mono ?_;rintro e w1 ⟨rfl,rfl⟩
 go_wp2_with fail;refine(P1 _).mono ?_;rintro e w1 ⟨rfl,rfl⟩
 go_wp2_with fail;go_ret;exact⟨rfl,hb0⟩):P:=h
theorem oY {P:Prop}(h:P:=by
 rintro e w1 ⟨rfl,rfl⟩
 go_wp2_with fail;refine(EB k R A B I n _).mono ?_;rintro e w2 ⟨rfl,hb2⟩
 go_wp2_with fail;go_ret;exact⟨rfl,hb0.trans (hb2.mono hb0.size)⟩):P:=h
theorem oZ {P:Prop}(h:P:=by
 rintro e w1 ⟨rfl,rfl⟩
 go_wp2_with fail;go_ret;exact⟨rfl,hb0⟩):P:=h
theorem s9 {P:Prop}(h:P:=by
 go_wp2_with fail;refine P.mono ?_;rintro e w1 ⟨rfl,hb1⟩
 go_wp2_with fail;go_ret;exact⟨rfl,hb1⟩):P:=h
theorem s_ {P:Prop}(h:P:=by rw[hW1,a5 _ _ _ _ Z];exact bf _ _ _ y0):P:=h
theorem x3 {P:Prop}(h:P:=by rw[hW1];exact bf _ _ _ ((a5 w1 ⟨fb,0,none⟩ ⟨fb,1,none⟩ _ Z).trans y1)):P:=h
theorem EC {w:ax}{pw p q pc cO sd nb N O y g:Nat}{ws M rs:List Int}(h:Wf w pw p q pc cO sd nb N O y g ws (dF O) M rs)(hr:rs.length=12)(k:w.heap[nb]?=some (.cells (rs.map (Value.int .i64)).toArray 2 (0,0)))(hs:w.heap[sd]?=some (.cells #[.slice none 0 0,.slice none 0 0] 153 (0,0))):
 ∃F,(fL ⟨pw,p,q,pc,sd,nb,N,O⟩).J F ⟨⟨y,g,ws,M,rs⟩,[],[]⟩ w/\∀b,F b->b=pw\/b=p\/b=q\/b=pc\/b=cO\/b=sd\/b=nb:=by
 obtain⟨a1,a2,m,n,o,s,t,u⟩:=h.h_.apart;obtain⟨⟨s1,s2,v,s4⟩,⟨n1,x,A,n4⟩,B,C⟩:=h.apart;have s5:sd≠pw:=fun e=>by have l:=h.h_.blk;rw[<-e,hs] at l;simp at l
 have D:=h.h_.cd.eM;refine⟨fun b=>b=pw\/b=p\/b=q\/b=pc\/b=cO\/b=sd\/b=nb,⟨fun b=>b=pw\/b=p\/b=q\/b=pc\/b=cO\/b=sd\/b=nb,none,0,⟨fun b=>b=pw\/b=p\/b=q\/b=pc\/b=cO\/b=nb,none,0,⟨fun b=>if b=p\/b=q then 1 else if b=pc\/b=cO then 2 else if b=pw then 3 else if b=nb then 4 else 0,cO,?_,fun b=>?_⟩,hs,bc _ _ _ _,fun b c=>?_,aJ (aJ (aJ (aJ (aJ (aK rfl))))),fun c=>?_,fun b e=>by simp[Value.ownBlock] at e,fun b c=>?_⟩,bc _ _ _ _,fun b e=>by simp[Value.ownBlock] at e,fun b=>?_⟩,fun b c=>c⟩
 ·exact {
   ar:=h.h_.ar,cd:=h.h_.cd,wd:=h.h_.blk,rt:=k,rl:=hr
   a1:=Z
   a2:=Z
   c1:=by simp[Ne.symm o,Ne.symm t]
   c2:=by simp[Ne.symm s,Ne.symm u]
   w1:=by simp[a1,a2,m,n]
   r1:=by simp[n1,x,A,n4,B]
   le:=fun b=>by
    split
    ·decide
    ·split
     ·decide
     ·split
      ·decide
      ·split<;>decide
   lt:=fun b c=>by
    have k1:=h.h_.ar.eL;have E:=h.h_.ar.eM;have G:=h.h_.cd.eL;have H:=lt_of_some h.h_.blk;have k5:=lt_of_some k;by_cases d:b=p\/b=q
    ·rcases d with e|e<;>(rw[e];assumption)
    ·rw[aG d] at c;by_cases f:b=pc\/b=cO
     ·rcases f with e|e<;>(rw[e];assumption)
     ·rw[aG f] at c;by_cases i:b=pw
      ·rw[i];assumption
      ·rw[aG i] at c;by_cases j:b=nb
       ·rw[j];assumption
       ·rw[aG j] at c;exact absurd rfl c}
 ·dsimp only;by_cases d:b=p\/b=q
  ·rw[aI d];rcases d with e|e<;>simp[e]
  ·rw[aG d];by_cases f:b=pc\/b=cO
   ·rw[aI f];rcases f with e|e<;>simp[e]
   ·rw[aG f];by_cases i:b=pw
    ·rw[aI i];simp[i]
    ·rw[aG i];by_cases j:b=nb
     ·rw[aI j];simp[j]
     ·rw[aG j];simp only [not_or] at d f;simp[d,f,i,j]
 ·rcases c with c|c|c|c|c|c
  ·exact aK c
  ·exact aJ (aK c)
  ·exact aJ (aJ (aK c))
  ·exact aJ (aJ (aJ (aK c)))
  ·exact aJ (aJ (aJ (aJ (aK c))))
  ·exact aJ (aJ (aJ (aJ (aJ (aJ c)))))
 ·rcases c with c|c|c|c|c|c
  ·exact s5 c
  ·exact s1 c
  ·exact s2 c
  ·exact v c
  ·exact s4 c
  ·exact C c.symm
 ·rcases c with c|c|c|c|c|c|c
  ·rw[c];exact lt_of_some h.h_.blk
  ·rw[c];exact h.h_.ar.eL
  ·rw[c];exact h.h_.ar.eM
  ·rw[c];exact h.h_.cd.eL
  ·rw[c];exact D
  ·rw[c];exact lt_of_some hs
  ·rw[c];exact lt_of_some k
 ·exact⟨aK,fun c=>c.elim id (fun e=>by simp[Value.ownBlock] at e)⟩
def g9 (n o:Nat):cq×ck:=(⟨⟨0,0,List.replicate (n+o) 0,[],tw 2 12⟩,[],[]⟩,⟨[],List.replicate 12 (0,0),[],[]⟩)
def c8 (k:Int):Int:=
 if k=1\/k=2\/k=8 then 1 else if k=3\/k=5\/k=10\/k=11\/k=13 then 3 else if k=4\/k=6\/k=7\/k=14 then 7
 else if k=9\/k=12 then 6 else if k=15\/k=16 then 0 else-1
def gR (k n:Int):Int:=if k=1 then vc 1 n else if k=5 then hc 2 n else 0
def dY (r:Int):Bool:=decide (0<=r)&&decide (r<12)
def dJ (k R A B n:Int):Int:=
 if c8 k=-1 then 2 else if(decide (c8 k=1\/c8 k=3\/c8 k=7)&&!dY R)||(decide (c8 k=3\/c8 k=6\/c8 k=7)&&!dY A)||(decide (c8 k=6\/c8 k=7)&&!dY B) then 1 else gR k n
theorem o4 (k:Int):k=1\/k=2\/k=3\/k=4\/k=5\/k=6\/k=7\/k=8\/k=9\/k=10\/k=11\/k=12\/k=13\/k=14\/k=15\/k=16\/(k<1\/16<k):=V
theorem o5 {k:Int}(h:k<1\/16<k):c8 k=-1:=by unfold c8;rw[aG V,aG V,aG V,aG V,aG V]
theorem jg (k:Int)(w:ax):Calls prog 54 #[ah k] w fun e w'=>e=.returned (ah (c8 k))/\w'=w:=by
 rcases o4 k with rfl|rfl|rfl|rfl|rfl|rfl|rfl|rfl|rfl|rfl|rfl|rfl|rfl|rfl|rfl|rfl|h
 case' inr.inr.inr.inr.inr.inr.inr.inr.inr.inr.inr.inr.inr.inr.inr.inr=>
  rw[o5 h];have b:¬k=1:=V;have c:¬k=2:=V;have d:¬k=3:=V;have f:¬k=4:=V;have g:¬k=5:=V;have i:¬k=6:=V;have j:¬k=7:=V;have l:¬k=8:=V;have m:¬k=9:=V;have n:¬k=10:=V;have o:¬k=11:=V;have p:¬k=12:=V;have q:¬k=13:=V;have s:¬k=14:=V;have t:¬k=15:=V;have u:¬k=16:=V;clear h
 all_goals
  go_enter func54,ntmps54;go_wp2_with fail;go_ret;exact⟨rfl,rfl⟩
theorem iQ (r:Int)(w:ax):Calls prog 119 #[ah r] w fun e w'=>e=.returned (.bool (dY r))/\w'=w:=by
 by_cases h0:0<=r
 ·by_cases b:r<12
  ·have e:dY r=true:=by unfold dY;rw[bh h0,bh b];rfl
   rw[e];go_enter func119,ntmps119;go_wp2;go_ret;exact⟨rfl,rfl⟩
  ·have e:dY r=false:=by unfold dY;rw[bq b,Bool.and_false]
   rw[e];go_enter func119,ntmps119;go_wp2;go_ret;exact⟨rfl,rfl⟩
 ·have e:dY r=false:=by unfold dY;rw[bq h0,Bool.false_and]
  go_wp2;go_ret;exact⟨rfl,rfl⟩
theorem o6 (n:Int)(w:ax):Calls prog 122 #[ah n] w fun e w'=>e=.returned (.tuple #[ah (ew 1 n),ah (vc 1 n)])/\aw w w':=by
 go_enter func122,ntmps122;go_wp2_with fail;refine(vM 1 n _).mono ?_;rintro e w1 ⟨rfl,hb⟩
 go_wp2_with fail;go_ret2;exact⟨rfl,hb⟩
theorem EB (k R A B I n:Int)(w:ax):Calls prog 120 #[.agg #[ah k,ah R,ah A,ah B,ah I,ah n]] w fun e w'=>e=.returned (ah (gR k n))/\aw w w':=by
 have hb0:=au w (.cells #[.int .i64 k,.int .i64 R,.int .i64 A,.int .i64 B,.int .i64 I,.int .i64 n] 44)
 by_cases b:k=1
 ·subst b;have e:gR 1 n=vc 1 n:=by unfold gR;rw[aI rfl]
  rw[e];go_enter func120,ntmps120;go_wp2_with fail;refine(o6 n _).mono ?_;rintro e w1 ⟨rfl,hb⟩
  go_wp2_with fail;go_ret;exact⟨rfl,hb0.trans (hb.mono hb0.size)⟩
 ·by_cases c:k=5
  ·subst c;have e:gR 5 n=hc 2 n:=by unfold gR;rw[aG V,aI rfl]
   rw[e];go_enter func120,ntmps120;go_wp2_with fail;refine(oI 2 n _).mono ?_;exact oZ
  ·have e:gR k n=0:=by unfold gR;rw[aG b,aG c]
   rw[e];go_enter func120,ntmps120;go_wp2_with fail;go_ret;exact⟨rfl,hb0⟩
section
variable {k R A B I n:Int}{w:ax}
end
theorem ED (k:Int):c8 k=1\/c8 k=3\/c8 k=7\/c8 k=6\/c8 k=0\/c8 k=-1:=by
 unfold c8
 repeat' split
 all_goals simp
section
variable {k R A B I n:Int}{w:ax}
theorem EE (hu:c8 k=1)(hR:dY R=false):Calls prog 55 #[.agg #[ah k,ah R,ah A,ah B,ah I,ah n]] w fun e w'=>e=.returned (ah (1))/\aw w w':=by
 have U:∀w,Calls prog 54 #[ah k] w fun e w'=>e=.returned (ah (1))/\w'=w:=fun w=>by have h:=jg k w;rw[hu] at h;exact h
 exact s8
theorem EF (b:c8 k=1)(c:dY R=true):Calls prog 55 #[.agg #[ah k,ah R,ah A,ah B,ah I,ah n]] w fun e w'=>e=.returned (ah (gR k n))/\aw w w':=by
 have d:∀w,Calls prog 54 #[ah k] w fun e w'=>e=.returned (ah (1))/\w'=w:=fun w=>by have h:=jg k w;rw[b] at h;exact h
 have f:∀w,Calls prog 119 #[ah R] w fun e w'=>e=.returned (.bool true)/\w'=w:=fun w=>by have h:=iQ R w;rw[c] at h;exact h
 have hb0:=au w (.cells #[.int .i64 k,.int .i64 R,.int .i64 A,.int .i64 B,.int .i64 I,.int .i64 n] 44)
 clear b;go_enter func55,ntmps55;go_wp2_with fail;refine(d _).mono ?_;rintro e w1 ⟨rfl,rfl⟩
 go_wp2_with fail;refine(f _).mono ?_;exact oY
theorem EG (hu:c8 k=3)(hR:dY R=false):Calls prog 55 #[.agg #[ah k,ah R,ah A,ah B,ah I,ah n]] w fun e w'=>e=.returned (ah (1))/\aw w w':=by
 have U:∀w,Calls prog 54 #[ah k] w fun e w'=>e=.returned (ah (3))/\w'=w:=fun w=>by have h:=jg k w;rw[hu] at h;exact h
 exact s8
theorem EH (hu:c8 k=3)(hR:dY R=true)(hA:dY A=false):Calls prog 55 #[.agg #[ah k,ah R,ah A,ah B,ah I,ah n]] w fun e w'=>e=.returned (ah (1))/\aw w w':=by
 have U:∀w,Calls prog 54 #[ah k] w fun e w'=>e=.returned (ah (3))/\w'=w:=fun w=>by have h:=jg k w;rw[hu] at h;exact h
 exact x2
theorem EI (b:c8 k=3)(c:dY R=true)(d:dY A=true):Calls prog 55 #[.agg #[ah k,ah R,ah A,ah B,ah I,ah n]] w fun e w'=>e=.returned (ah (gR k n))/\aw w w':=by
 have f:∀w,Calls prog 54 #[ah k] w fun e w'=>e=.returned (ah (3))/\w'=w:=fun w=>by have h:=jg k w;rw[b] at h;exact h
 have g:∀w,Calls prog 119 #[ah R] w fun e w'=>e=.returned (.bool true)/\w'=w:=fun w=>by have h:=iQ R w;rw[c] at h;exact h
 have i:∀w,Calls prog 119 #[ah A] w fun e w'=>e=.returned (.bool true)/\w'=w:=fun w=>by have h:=iQ A w;rw[d] at h;exact h
 have hb0:=au w (.cells #[.int .i64 k,.int .i64 R,.int .i64 A,.int .i64 B,.int .i64 I,.int .i64 n] 44)
 clear b;go_enter func55,ntmps55;go_wp2_with fail;refine(f _).mono ?_;rintro e w1 ⟨rfl,rfl⟩
 go_wp2_with fail;refine(g _).mono ?_;rintro e w1 ⟨rfl,rfl⟩
 go_wp2_with fail;refine(i _).mono ?_;exact oY
theorem EJ (hu:c8 k=7)(hR:dY R=false):Calls prog 55 #[.agg #[ah k,ah R,ah A,ah B,ah I,ah n]] w fun e w'=>e=.returned (ah (1))/\aw w w':=by
 have U:∀w,Calls prog 54 #[ah k] w fun e w'=>e=.returned (ah (7))/\w'=w:=fun w=>by have h:=jg k w;rw[hu] at h;exact h
 exact s8
theorem EK (hu:c8 k=7)(hR:dY R=true)(hA:dY A=false):Calls prog 55 #[.agg #[ah k,ah R,ah A,ah B,ah I,ah n]] w fun e w'=>e=.returned (ah (1))/\aw w w':=by
 have U:∀w,Calls prog 54 #[ah k] w fun e w'=>e=.returned (ah (7))/\w'=w:=fun w=>by have h:=jg k w;rw[hu] at h;exact h
 exact x2
theorem EL (b:c8 k=7)(c:dY R=true)(d:dY A=true)(hB:dY B=false):Calls prog 55 #[.agg #[ah k,ah R,ah A,ah B,ah I,ah n]] w fun e w'=>e=.returned (ah (1))/\aw w w':=by
 have f:∀w,Calls prog 54 #[ah k] w fun e w'=>e=.returned (ah (7))/\w'=w:=fun w=>by have h:=jg k w;rw[b] at h;exact h
 have g:∀w,Calls prog 119 #[ah R] w fun e w'=>e=.returned (.bool true)/\w'=w:=fun w=>by have h:=iQ R w;rw[c] at h;exact h
 have i:∀w,Calls prog 119 #[ah A] w fun e w'=>e=.returned (.bool true)/\w'=w:=fun w=>by have h:=iQ A w;rw[d] at h;exact h
 have j:∀w,Calls prog 119 #[ah B] w fun e w'=>e=.returned (.bool false)/\w'=w:=fun w=>by have h:=iQ B w;rw[hB] at h;exact h
 have hb0:=au w (.cells #[.int .i64 k,.int .i64 R,.int .i64 A,.int .i64 B,.int .i64 I,.int .i64 n] 44)
 clear b;go_enter func55,ntmps55;go_wp2_with fail;refine(f _).mono ?_;rintro e w1 ⟨rfl,rfl⟩
 go_wp2_with fail;refine(g _).mono ?_;rintro e w1 ⟨rfl,rfl⟩
 go_wp2_with fail;refine(i _).mono ?_;rintro e w1 ⟨rfl,rfl⟩
 go_wp2_with fail;refine(j _).mono ?_;exact oZ
theorem EM (b:c8 k=7)(c:dY R=true)(d:dY A=true)(hB:dY B=true):Calls prog 55 #[.agg #[ah k,ah R,ah A,ah B,ah I,ah n]] w fun e w'=>e=.returned (ah (gR k n))/\aw w w':=by
 have f:∀w,Calls prog 54 #[ah k] w fun e w'=>e=.returned (ah (7))/\w'=w:=fun w=>by have h:=jg k w;rw[b] at h;exact h
 have g:∀w,Calls prog 119 #[ah R] w fun e w'=>e=.returned (.bool true)/\w'=w:=fun w=>by have h:=iQ R w;rw[c] at h;exact h
 have i:∀w,Calls prog 119 #[ah A] w fun e w'=>e=.returned (.bool true)/\w'=w:=fun w=>by have h:=iQ A w;rw[d] at h;exact h
 have j:∀w,Calls prog 119 #[ah B] w fun e w'=>e=.returned (.bool true)/\w'=w:=fun w=>by have h:=iQ B w;rw[hB] at h;exact h
 have hb0:=au w (.cells #[.int .i64 k,.int .i64 R,.int .i64 A,.int .i64 B,.int .i64 I,.int .i64 n] 44)
 clear b;go_enter func55,ntmps55;go_wp2_with fail;refine(f _).mono ?_;rintro e w1 ⟨rfl,rfl⟩
 go_wp2_with fail;refine(g _).mono ?_;rintro e w1 ⟨rfl,rfl⟩
 go_wp2_with fail;refine(i _).mono ?_;rintro e w1 ⟨rfl,rfl⟩
 go_wp2_with fail;refine(j _).mono ?_;exact oY
theorem EN (b:c8 k=6)(c:dY A=false):Calls prog 55 #[.agg #[ah k,ah R,ah A,ah B,ah I,ah n]] w fun e w'=>e=.returned (ah (1))/\aw w w':=by
 have d:∀w,Calls prog 54 #[ah k] w fun e w'=>e=.returned (ah (6))/\w'=w:=fun w=>by have h:=jg k w;rw[b] at h;exact h
 have f:∀w,Calls prog 119 #[ah A] w fun e w'=>e=.returned (.bool false)/\w'=w:=fun w=>by have h:=iQ A w;rw[c] at h;exact h
 have hb0:=au w (.cells #[.int .i64 k,.int .i64 R,.int .i64 A,.int .i64 B,.int .i64 I,.int .i64 n] 44)
 clear b;go_enter func55,ntmps55;go_wp2_with fail;refine(d _).mono ?_;rintro e w1 ⟨rfl,rfl⟩
 go_wp2_with fail;refine(f _).mono ?_;exact oZ
theorem EO (b:c8 k=6)(c:dY A=true)(hB:dY B=false):Calls prog 55 #[.agg #[ah k,ah R,ah A,ah B,ah I,ah n]] w fun e w'=>e=.returned (ah (1))/\aw w w':=by
 have d:∀w,Calls prog 54 #[ah k] w fun e w'=>e=.returned (ah (6))/\w'=w:=fun w=>by have h:=jg k w;rw[b] at h;exact h
 have f:∀w,Calls prog 119 #[ah A] w fun e w'=>e=.returned (.bool true)/\w'=w:=fun w=>by have h:=iQ A w;rw[c] at h;exact h
 have g:∀w,Calls prog 119 #[ah B] w fun e w'=>e=.returned (.bool false)/\w'=w:=fun w=>by have h:=iQ B w;rw[hB] at h;exact h
 have hb0:=au w (.cells #[.int .i64 k,.int .i64 R,.int .i64 A,.int .i64 B,.int .i64 I,.int .i64 n] 44)
 clear b;go_enter func55,ntmps55;go_wp2_with fail;refine(d _).mono ?_;rintro e w1 ⟨rfl,rfl⟩
 go_wp2_with fail;refine(f _).mono ?_;rintro e w1 ⟨rfl,rfl⟩
 go_wp2_with fail;refine(g _).mono ?_;exact oZ
theorem EP (b:c8 k=6)(c:dY A=true)(hB:dY B=true):Calls prog 55 #[.agg #[ah k,ah R,ah A,ah B,ah I,ah n]] w fun e w'=>e=.returned (ah (gR k n))/\aw w w':=by
 have d:∀w,Calls prog 54 #[ah k] w fun e w'=>e=.returned (ah (6))/\w'=w:=fun w=>by have h:=jg k w;rw[b] at h;exact h
 have f:∀w,Calls prog 119 #[ah A] w fun e w'=>e=.returned (.bool true)/\w'=w:=fun w=>by have h:=iQ A w;rw[c] at h;exact h
 have g:∀w,Calls prog 119 #[ah B] w fun e w'=>e=.returned (.bool true)/\w'=w:=fun w=>by have h:=iQ B w;rw[hB] at h;exact h
 have hb0:=au w (.cells #[.int .i64 k,.int .i64 R,.int .i64 A,.int .i64 B,.int .i64 I,.int .i64 n] 44)
 clear b;go_enter func55,ntmps55;go_wp2_with fail;refine(d _).mono ?_;rintro e w1 ⟨rfl,rfl⟩
 go_wp2_with fail;refine(f _).mono ?_;rintro e w1 ⟨rfl,rfl⟩
 go_wp2_with fail;refine(g _).mono ?_;exact oY
theorem EQ (b:c8 k=0):Calls prog 55 #[.agg #[ah k,ah R,ah A,ah B,ah I,ah n]] w fun e w'=>e=.returned (ah (gR k n))/\aw w w':=by
 have c:∀w,Calls prog 54 #[ah k] w fun e w'=>e=.returned (ah (0))/\w'=w:=fun w=>by have h:=jg k w;rw[b] at h;exact h
 have hb0:=au w (.cells #[.int .i64 k,.int .i64 R,.int .i64 A,.int .i64 B,.int .i64 I,.int .i64 n] 44)
 clear b;go_enter func55,ntmps55;go_wp2_with fail;refine(c _).mono ?_;exact oY
theorem ER (b:c8 k=-1):Calls prog 55 #[.agg #[ah k,ah R,ah A,ah B,ah I,ah n]] w fun e w'=>e=.returned (ah (2))/\aw w w':=by
 have c:∀w,Calls prog 54 #[ah k] w fun e w'=>e=.returned (ah (-1))/\w'=w:=fun w=>by have h:=jg k w;rw[b] at h;exact h
 have hb0:=au w (.cells #[.int .i64 k,.int .i64 R,.int .i64 A,.int .i64 B,.int .i64 I,.int .i64 n] 44)
 clear b;go_enter func55,ntmps55;go_wp2_with fail;refine(c _).mono ?_;exact oZ
end
theorem jx (k R A B I n:Int)(w:ax):Calls prog 55 #[.agg #[ah k,ah R,ah A,ah B,ah I,ah n]] w fun e w'=>e=.returned (ah (dJ k R A B n))/\aw w w':=by
 unfold dJ;rcases ED k with b|b|b|b|b|b
 ·rw[b,aG aa];cases hR:dY R
  ·rw[aI Z];exact EE b hR
  ·rw[aG Z];exact EF b hR
 ·rw[b,aG aa];cases hR:dY R
  ·rw[aI Z];exact EG b hR
  ·cases hA:dY A
   ·rw[aI Z];exact EH b hR hA
   ·rw[aG Z];exact EI b hR hA
 ·rw[b,aG aa];cases hR:dY R
  ·rw[aI Z];exact EJ b hR
  ·cases hA:dY A
   ·rw[aI Z];exact EK b hR hA
   ·cases hB:dY B
    ·rw[aI Z];exact EL b hR hA hB
    ·rw[aG Z];exact EM b hR hA hB
 ·rw[b,aG aa];cases hA:dY A
  ·rw[aI Z];exact EN b hA
  ·cases hB:dY B
   ·rw[aI Z];exact EO b hA hB
   ·rw[aG Z];exact EP b hA hB
 ·rw[b,aG aa];rw[aG Z];exact EQ b
 ·rw[aI b];exact ER b
abbrev dK (k R A B I n:Int):Value:=.agg #[ah k,ah R,ah A,ah B,ah I,ah n]
abbrev cz (k R A B I n:Int):Obj:=.cells #[ah k,ah R,ah A,ah B,ah I,ah n] 44 (0,0)
theorem eu {w:ax}{b:Nat}{k R A B I n:Int}(h:w.heap[b]?=some (cz k R A B I n)):w.cell? (aq b 0)=some (ah k)/\w.cell? (aq b 1)=some (ah R)/\w.cell? (aq b 2)=some (ah A)/\w.cell? (aq b 3)=some (ah B)/\w.cell? (aq b 4)=some (ah I)/\w.cell? (aq b 5)=some (ah n):=by refine⟨?_,?_,?_,?_,?_,?_⟩<;>simp[World.cell?,h]
theorem ta {k R A B n:Int}(h:dJ k R A B n=0):¬((decide (c8 k=1\/c8 k=3\/c8 k=7)&&!dY R)||(decide (c8 k=3\/c8 k=6\/c8 k=7)&&!dY A)||(decide (c8 k=6\/c8 k=7)&&!dY B))=true:=fun c=>by unfold dJ at h;split at h<;>omega
theorem tc {r:Int}(h:dY r=true):0<=r/\r<12:=by unfold dY at h;simpa using h
theorem x4 {k R A B n:Int}(h:dJ k R A B n=0)(b:c8 k=1\/c8 k=3\/c8 k=7):0<=R/\R<12:=by
 refine tc ?_;cases c:dY R
 ·exact absurd (by rw[c,bh b];rfl) (ta h)
 ·rfl
theorem lv {k R A B n:Int}(h:dJ k R A B n=0)(b:c8 k=3\/c8 k=6\/c8 k=7):0<=A/\A<12:=by
 refine tc ?_;cases c:dY A
 ·exact absurd (by rw[c,bh b];simp) (ta h)
 ·rfl
theorem l4 {k R A B n:Int}(h:dJ k R A B n=0)(b:c8 k=6\/c8 k=7):0<=B/\B<12:=by
 refine tc ?_;cases c:dY B
 ·exact absurd (by rw[c,bh b];simp) (ta h)
 ·rfl
def cw (a:Wc)(hp:Nat):dr cq where
 J F S w:=∃c,(fL a).J c S w/\w.heap[hp]?=some (.cells #[aj a.pw] 49 (0,0))/\¬c hp/\∀b,F b↔(c b\/b=hp)
 lt:=by
  rintro F S w ⟨c,f,g,i,d⟩ b hb;rcases(d b).1 hb with e|e
  ·exact(fL a).lt f b e
  ·rw[e];exact lt_of_some g
 keep:=by rintro F S w w' ⟨c,f,g,i,d⟩ hs hk;exact⟨c,(fL a).keep f hs (fun b e=>hk b ((d b).2 (aK e))),(hk _ ((d _).2 (aJ rfl))).trans g,i,d⟩
section
variable {a:Wc}{hp:Nat}{F:Nat->Prop}{S:cq}{w:ax}
theorem kj (h:(cw a hp).J F S w):∃d,(fL a).J d S w/\(∀b,d b->F b)/\∀e s1 w',(fL a).J e s1 w'->b8 d w e w'->∃i,(cw a hp).J i s1 w'/\b8 F w i w':=by
 obtain⟨d,l,j,k,f⟩:=h;refine⟨d,l,fun b c=>(f b).2 (aK c),fun e s1 w' m g=>?_⟩
 have lp:=lt_of_some j;refine⟨fun b=>e b\/b=hp,⟨e,m,(g.fr.block _ lp k).trans j,fun c=>?_,fun b=>Iff.rfl⟩,⟨g.fr.mono (fun b c=>(f b).2 (aK c)),fun b c=>?_⟩⟩
 ·rcases g.sub _ c with c|c
  ·exact k c
  ·omega
 ·rcases c with c|c
  ·exact(g.sub b c).imp (fun c=>(f b).2 (aK c)) id
  ·exact aK ((f b).2 (aJ c))
structure ES (a:Wc)(hp:Nat)(s:d9)(w:ax):Prop where
 h0:w.cell? (aq hp 0)=some (aj a.pw)
 c0:w.cell? (aq a.pw 0)=some (aj a.p)
 c3:w.cell? (aq a.pw 3)=some (.slice (ak a.nb) 12 12)
 rt:∀i,i<12->w.cell? (aq a.nb i)=some (ah (s.rs.getD i 0))/\w.frozen? (aq a.nb i)=false
 rl:s.rs.length=12
 lp:hp<w.heap.size
 lw:a.pw<w.heap.size
 ln:a.nb<w.heap.size
theorem em (h:(cw a hp).J F S w):ES a hp S.s w:=by
 have b:w.heap[hp]?=some (.cells #[aj a.pw] 49 (0,0)):=by obtain⟨c,_,b,_⟩:=h;exact b
 obtain⟨c,d,_⟩:=kj h;obtain⟨e,g1,_⟩:=m2 d;obtain⟨c0,_,_,c3,lw,rl,ln,rt⟩:=jO g1;exact⟨by simp[World.cell?,b],c0,c3,rt,rl,lt_of_some b,lw,ln⟩
theorem lx (h:(cw a hp).J F S w):At w a.p a.q a.N a.O S.s.y S.s.g S.s.ws/\∀w' y g ws,At w' a.p a.q a.N a.O y g ws->c_ a.p a.q w w'->∃b,(cw a hp).J b ⟨{S.s with y:=y,g:=g,ws:=ws},S.r,S.q⟩ w'/\b8 F w b w':=by
 obtain⟨k,c,_,d⟩:=kj h;obtain⟨l,g1,g2⟩:=m2 c;obtain⟨k1,e⟩:=kI g1;refine⟨k1,fun w' y g ws ha f=>?_⟩
 obtain⟨m1,i⟩:=e w' y g ws ha f;obtain⟨m,n1,j⟩:=g2 _ _ _ m1 i;exact d _ _ _ n1 j
theorem ET (h:(cw a hp).J F S w)(i:Nat)(x:Int):∃b,(cw a hp).J b ⟨{S.s with rs:=S.s.rs.set i x},S.r,S.q⟩ (w.setCell ⟨a.nb,i,none⟩ (.int .i64 x))/\b8 F w b (w.setCell ⟨a.nb,i,none⟩ (.int .i64 x)):=by obtain⟨g,c,_,d⟩:=kj h;obtain⟨j,g1,g2⟩:=m2 c;obtain⟨m1,e⟩:=xL g1 i x;obtain⟨k,n1,f⟩:=g2 _ _ _ m1 e;exact d _ _ _ n1 f
end
theorem EU {a:Wc}{hp:Nat}{F:Nat->Prop}{S:cq}{w:ax}(h:(cw a hp).J F S w):a.nb≠hp/\a.nb≠a.pw:=by obtain⟨g,b,i,c,_⟩:=h;obtain⟨j,ar,k,⟨l,ad,cap,⟨own,cO,hM,hO⟩,m,n,d,_⟩,r0,r1,f⟩:=b;exact⟨fun e=>c (by rw[<-e];exact(f _).2 (aK (d _ ((hO _).2 (by rw[hM.r1];decide))))),fun e=>by have b:=hM.r1;rw[e,hM.w1] at b;omega⟩
theorem EV (n o:Nat)(w:ax)(h0:16<=n)(t:n<=256)(E:o<=1024):
 Calls prog 18 #[ah n,ah o] w fun e w'=>∃a hp F,e=.returned (.tuple #[aj hp,.agg #[ah 0,ah 0]])/\(cw a hp).J F (g9 n o).1 w'/\(a.N=n/\a.O=o)/\(∀b,F b->w.heap.size<=b)/\aw w w':=by
 have u:=au w (.cells #[.int .i64 0,.int .i64 0] 28)
 have P:=x0 n o (w.alloc (.cells #[.int .i64 0,.int .i64 0] 28)) h0 t E;have x:=aN w (.cells #[.int .i64 0,.int .i64 0] 28)
 have G:w.heap.size<(w.alloc (.cells #[.int .i64 0,.int .i64 0] 28)).heap.size:=Z;have A:=hide u;clear u;go_enter func18,ntmps18;go_wp2_with fail;generalize w.alloc (.cells #[.int .i64 0,.int .i64 0] 28)=w0 at*;generalize H:w.heap.size=fb at*;refine P.mono ?_;clear P;rintro e w1 ⟨pw,p,q,pc,cO,s,nb,rfl,B,hs,hr,hg,i⟩
 obtain⟨l,C,g1⟩:=EC (EA B hs hr i V) aa hr hs;have f:=(i.block fb G).trans x;have y0:w1.cell? (aq fb 0)=some (ah 0):=by simp[World.cell?,f]
 have y1:w1.cell? (aq fb 1)=some (ah 0):=by simp[World.cell?,f]
 have z0:w1.frozen? (aq fb 0)=false:=by simp[World.frozen?,f]
 have M:w1.frozen? (aq fb 1)=false:=by simp[World.frozen?,f]
 have I:=lt_of_some f;have g:ay (_/\(∀b,l b->fb<b)/\_):=⟨C,fun b c=>by obtain⟨N,g2,g3,g4,g5,O,Q⟩:=hg;rcases g1 b c with e|e|e|e|e|e|e<;>(rw[e];omega),A.out.trans (i.mono V)⟩
 clear B hs hr hg i C g1 x A f;go_wp2_with fail;obtain⟨d,hW1⟩:∃d,d=(w1.setCell ⟨fb,0,none⟩ (.int .i64 0)).setCell ⟨fb,1,none⟩ (.int .i64 0):=⟨_,rfl⟩
 rw[<-hW1];have v0:d.cell? (aq fb 0)=some (ah 0):=by exact s_
 have v1:d.cell? (aq fb 1)=some (ah 0):=by exact x3
 have m:Fr (fun k=>k=fb) w1 d:=by rw[hW1];exact((Fr.refl (fun k=>k=fb) w1).set fb 0 _ rfl).set fb 1 _ rfl
 have J:d.heap.size=w1.heap.size:=by rw[hW1];simp
 clear hW1;have j2:=(fL ⟨pw,p,q,pc,s,nb,n,o⟩).keep g.out.1 m.size (fun b c=>m.block b ((fL ⟨pw,p,q,pc,s,nb,n,o⟩).lt g.out.1 b c) (fun e=>by have t:=g.out.2.1 b c;have e:=e;omega))
 have j:=(au d (.cells #[.int .i64 0,.int .i64 0] 28)).alloc Z (.cells #[.pointer (some ⟨pw,0,none⟩)] 49)
 have D:=aN (d.alloc (.cells #[.int .i64 0,.int .i64 0] 28)) (.cells #[.pointer (some ⟨pw,0,none⟩)] 49)
 have K:(d.alloc (.cells #[.int .i64 0,.int .i64 0] 28)).heap.size=w1.heap.size+1:=by simp[J]
 rw[K] at D;have L:=g.out.2.2.trans (m.below (Nat.le_of_lt I) (fun k e=>Nat.le_of_eq (Eq.symm e)))
 refine a3 (v:=.tuple #[aj (w1.heap.size+1),.agg #[ah 0,ah 0]]) (by simp only [results,results18];simp[go_sem,((j.cell (p:=aq fb 0) (by show fb<_;omega)).trans v0),((j.cell (p:=aq fb 1) (by show fb<_;omega)).trans v1)]) rfl ⟨⟨pw,p,q,pc,s,nb,n,o⟩,w1.heap.size+1,fun b=>l b\/b=w1.heap.size+1,rfl,⟨l,((fL ⟨pw,p,q,pc,s,nb,n,o⟩).below j2 j),D,fun c=>?_,fun b=>Iff.rfl⟩,⟨rfl,rfl⟩,fun b c=>?_,by rw[H];exact L.trans (j.mono V)⟩
 ·have:=(fL ⟨pw,p,q,pc,s,nb,n,o⟩).lt j2 _ c;omega
 ·rcases c with c|c
  ·have:=g.out.2.1 b c;omega
  ·omega
section
variable {a:Wc}{hp:Nat}{F:Nat->Prop}{S:cq}{w:ax}
theorem EW (R A B I n:Int)(w:ax)(hp:Nat):Calls prog 57 #[aj hp,dK 1 R A B I n] w fun e w'=>e=.returned (.tuple #[ah (ew 1 n),ah (vc 1 n)])/\aw w w':=by
 have b:=au w (cz 1 R A B I n)
 go_enter func57,ntmps57;go_wp2_with fail;refine(o6 n _).mono ?_;rintro e w1 ⟨rfl,hb⟩
 go_wp2_with fail;go_ret2;exact⟨rfl,b.trans (hb.mono b.size)⟩
end
section
variable {a:Wc}{hp:Nat}{F:Nat->Prop}{S:cq}{w:ax}
theorem EX (h:(cw a hp).J F S w)(m:Int)(hm:m<=(a.N:Int)-S.s.y):
 Calls prog 193 #[aj hp,ah m] w fun e w'=>e=.returned (ah 0)/\aw w w':=by
 obtain⟨h0,c0,_⟩:=em h;have P:=oO w (lx h).1;go_enter func193,ntmps193;exact s9
def iA (rs:List Int)(y:Nat)(ws:List Int)(rl:List Nat):Nat->List Int
 |0=>ws
 |j+1=>(iA rs y ws rl j).set (y+1+j) (rs.getD (rl.getD j 0) 0)
end
theorem x5 {w:ax}{base n m:Nat}{e:TypeId}{ad:Option Addr}{cap:Nat}{b:List Value}(h:w.ownsRow base e m (.slice ad n cap) n b):ad=none->n=0/\cap=0:=fun d=>by
 subst d;rcases h.2 with⟨hv,hn⟩|⟨g,c,f,hv,_⟩
 ·simp at hv;exact⟨hn,hv.2⟩
 ·simp at hv
end Go.Proofs.YtpkjkjhanlbcoaaGreat
