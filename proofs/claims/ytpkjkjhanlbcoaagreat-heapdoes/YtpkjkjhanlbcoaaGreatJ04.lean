import Derived.Test.YtpkjkjhanlbcoaaGreatJ03
namespace Go.Proofs.YtpkjkjhanlbcoaaGreat
set_option maxRecDepth 100000
set_option maxHeartbeats 1000000
open Tryz
open Go.RowKit W Kp ch
theorem sa {P:Prop}(h:P:=by
 have hb0:=aq w (.cells #[.int .i64 k,.int .i64 R,.int .i64 A,.int .i64 B,.int .i64 I,.int .i64 n] 44)
 have HK:=dq h1 h5;go_enter func58,ntmps58;go_wp2_with fail;refine(U _).mono ?_;rintro e w1 ⟨rfl,rfl⟩
 go_wp2_with fail
 go_loopw [5] (fun iv wr=>∃(j:Nat),j<=3/\iv=ak j/\wr=(w.alloc (.cells #[.int .i64 k,.int .i64 R,.int .i64 A,.int .i64 B,.int .i64 I,.int .i64 n] 44)).alloc (.cells #[.int .i64 R,.int .i64 A,.int .i64 B] 3)) (fun iv _=>3-(intOf iv).toNat)
 exact⟨0,aa,rfl,rfl⟩
 ·
   obtain⟨j,hj,rfl,rfl⟩:=hrel;rcases(show j=0\/j=1\/j=2\/j=3 by omega) with rfl|rfl|rfl|rfl
   ·go_wp2_with fail;go_roundw;exact⟨1,ae,rfl,trivial⟩
    simp[intOf]
   ·go_wp2_with fail;go_roundw;exact⟨2,ae,rfl,trivial⟩
    simp[intOf]
   ·go_wp2_with fail;go_roundw;exact⟨3,ae,rfl,trivial⟩
    simp[intOf]
   ·go_wp2_with fail;go_ret;exact⟨by rw[wE HK.o.1 HK.o.2];rfl,hb0.alloc ac _⟩):P:=h
theorem sc {P:Prop}(h:P:=by
 have hb0:=aq w (.cells #[.int .i64 k,.int .i64 R,.int .i64 A,.int .i64 B,.int .i64 I,.int .i64 n] 44)
 clear hu;rcases hx with hx|hx
 all_goals
  go_enter func58,ntmps58;go_wp2_with fail;refine(U _).mono ?_;rintro e w1 ⟨rfl,rfl⟩
  go_wp2_with fail
  go_loopw [5] (fun iv wr=>∃(j:Nat),j<=0/\iv=ak j/\wr=(w.alloc (.cells #[.int .i64 k,.int .i64 R,.int .i64 A,.int .i64 B,.int .i64 I,.int .i64 n] 44)).alloc (.cells #[.int .i64 R,.int .i64 A,.int .i64 B] 3)) (fun iv _=>3-(intOf iv).toNat)
  case atStart=>exact⟨0,aa,rfl,rfl⟩
  case round=>
   obtain⟨j,hj,rfl,rfl⟩:=hrel;obtain rfl:j=0:=aa;go_wp2_with fail;go_ret;exact⟨rfl,hb0.alloc ac _⟩):P:=h
theorem wF {P:Prop}(h:P:=by
 have hb0:=aq w (.cells #[.int .i64 k,.int .i64 R,.int .i64 A,.int .i64 B,.int .i64 I,.int .i64 n] 44)
 clear hu;rcases hx with hx|hx
 all_goals
  go_enter func58,ntmps58;go_wp2_with fail;refine(U _).mono ?_;rintro e w1 ⟨rfl,rfl⟩
  go_wp2_with fail
  go_loopw [5] (fun iv wr=>∃(j:Nat),j<=2/\iv=ak j/\wr=(w.alloc (.cells #[.int .i64 k,.int .i64 R,.int .i64 A,.int .i64 B,.int .i64 I,.int .i64 n] 44)).alloc (.cells #[.int .i64 R,.int .i64 A,.int .i64 B] 3)) (fun iv _=>3-(intOf iv).toNat)
  case atStart=>exact⟨0,aa,rfl,rfl⟩
  case round=>
   obtain⟨j,hj,rfl,rfl⟩:=hrel;rcases(show j=0\/j=1\/j=2 by omega) with rfl|rfl|rfl
   ·go_wp2_with fail;go_roundw
    case rel=>exact⟨1,ae,rfl,trivial⟩
    case measure=>simp[intOf]
   ·go_wp2_with fail;go_roundw
    case rel=>exact⟨2,ae,rfl,trivial⟩
    case measure=>simp[intOf]
   ·go_wp2_with fail;go_ret;exact⟨rfl,hb0.alloc ac _⟩):P:=h
theorem wG {P:Prop}(h:P:=by
 have HK:=dq h1 h5;go_enter func58,ntmps58;go_wp2_with fail;refine(U _).mono ?_;rintro e w1 ⟨rfl,rfl⟩
 go_wp2_with fail
 go_loopw [5] (fun iv wr=>∃(j:Nat),j<=3/\iv=ak j/\wr=(w.alloc (.cells #[.int .i64 k,.int .i64 R,.int .i64 A,.int .i64 B,.int .i64 I,.int .i64 n] 44)).alloc (.cells #[.int .i64 R,.int .i64 A,.int .i64 B] 3)) (fun iv _=>3-(intOf iv).toNat)
 exact⟨0,aa,rfl,rfl⟩
 ·
   obtain⟨j,hj,rfl,rfl⟩:=hrel;rcases(show j=0\/j=1\/j=2\/j=3 by omega) with rfl|rfl|rfl|rfl
   ·go_wp2_with fail;go_roundw;exact⟨1,ae,rfl,trivial⟩
    simp[intOf]
   ·go_wp2_with fail;go_roundw;exact⟨2,ae,rfl,trivial⟩
    simp[intOf]
   ·go_wp2_with fail;go_roundw;exact⟨3,ae,rfl,trivial⟩
    simp[intOf]
   ·go_wp2_with fail;go_ret;exact⟨by rw[wE HK.o.1 HK.o.2];rfl,(aq w (.cells #[.int .i64 k,.int .i64 R,.int .i64 A,.int .i64 B,.int .i64 I,.int .i64 n] 44)).alloc ac _⟩):P:=h
theorem wH {P:Prop}(h:P:=by
 have hb0:=aq w (.cells #[.int .i64 k,.int .i64 R,.int .i64 A,.int .i64 B,.int .i64 I,.int .i64 n] 44)
 clear hu;rcases hx with hx|hx
 all_goals
  go_enter func58,ntmps58;go_wp2_with fail;refine(U _).mono ?_;rintro e w1 ⟨rfl,rfl⟩
  go_wp2_with fail
  go_loopw [5] (fun iv wr=>∃(j:Nat),j<=1/\iv=ak j/\wr=(w.alloc (.cells #[.int .i64 k,.int .i64 R,.int .i64 A,.int .i64 B,.int .i64 I,.int .i64 n] 44)).alloc (.cells #[.int .i64 R,.int .i64 A,.int .i64 B] 3)) (fun iv _=>3-(intOf iv).toNat)
  case atStart=>exact⟨0,aa,rfl,rfl⟩
  case round=>
   obtain⟨j,hj,rfl,rfl⟩:=hrel;rcases(show j=0\/j=1 by omega) with rfl|rfl
   ·go_wp2_with fail;go_roundw
    case rel=>exact⟨1,ae,rfl,trivial⟩
    case measure=>simp[intOf]
   ·go_wp2_with fail;go_ret;exact⟨rfl,hb0.alloc ac _⟩):P:=h
theorem ow {P:Prop}(h:P:=by
 go_roundw
 case rel=>exact⟨1,ae,rfl,trivial⟩
 case measure=>simp[intOf]):P:=h
theorem ox {P:Prop}(h:P:=by
 go_roundw
 case rel=>exact⟨2,ae,rfl,trivial⟩
 case measure=>simp[intOf]):P:=h
theorem i2 {P:Prop}(h:P:=by have h:=se k w;rw[hu] at h;exact h):P:=h
theorem p3 {P:Prop}(h:P:=by
 rintro e w1 ⟨rfl,rfl⟩
 go_wp2_with fail;go_ret;exact⟨rfl,hb0⟩):P:=h
theorem oy {P:Prop}(h:P:=by
 go_roundw
 case rel=>exact⟨3,ae,rfl,trivial⟩
 case measure=>simp[intOf]):P:=h
theorem wJ {P:Prop}(h:P:=by
 go_enter func62,ntmps62;go_wp2_with fail;refine P.mono ?_;rintro e w1 ⟨rfl,hw1⟩
 have hw1:=hw1.symm;subst hw1;go_wp2;go_ret;rw[E3.o];exact⟨rfl,rfl⟩):P:=h
theorem sf {P:Prop}(h:P:=by have h:=se 5 w;rw[show cU 5=3 from rfl] at h;exact h):P:=h
theorem sg {P:Prop}(h:P:=by have h:=se 1 w;rw[show cU 1=1 from rfl] at h;exact h):P:=h
section
variable {rp rb:Nat}{ca b8:Int}{F:Nat->Prop}{s:cn}{w:aw}
def cn.th (s:cn)(i:Nat):Int:=if(s.rs.getD i (0,0)).1=3 then(s.rs.getD i (0,0)).2 else-1
def cn.gd (s:cn)(i:Nat):Int:=if s.th i<0 then-1 else if(s.T.getD (s.th i).toNat (0,[],false,false)).1=5 then s.th i else-1
theorem oz (h:(cq rp rb ca b8).J F s w)(i:Nat)(hi:i<12):
 Calls prog 61 #[am rp,ak i] w fun e w'=>e=.returned (ak (s.th i))/\w'=w:=by
 obtain⟨c1,_,_,_,_,_,_,c⟩:=e8 h;obtain⟨d,f,_⟩:=c i hi;have E:ay (s.th i=if(s.rs.getD i (0,0)).1=3 then(s.rs.getD i (0,0)).2 else-1):=rfl;generalize s.th i=z at E⊢;generalize (s.rs.getD i (0,0)).1=k at d E;generalize (s.rs.getD i (0,0)).2=n at f E;have g:(i:Int)<12:=aa;clear h c;by_cases hk:k=3
 ·subst hk;have b:ay (z=n):=E.o;go_enter func61,ntmps61;go_wp2_with fail;go_ret;rw[b.o];exact⟨rfl,rfl⟩
 ·have b:ay (z=-1):=E.o.trans (aH hk)
  go_enter func61,ntmps61;go_wp2_with fail;go_ret;rw[b.o];exact⟨rfl,rfl⟩
theorem wK (h:(cq rp rb ca b8).J F s w)(i:Nat)(hi:i<12)(d:0<=s.th i->s.th i<s.T.length):
 Calls prog 62 #[am rp,ak i] w fun e w'=>e=.returned (ak (s.gd i))/\w'=w:=by
 have P:=oz h i hi;obtain⟨m,cT,c0,_,f⟩:=kh h;have E:ay (s.gd i=if s.th i<0 then-1 else if(s.T.getD (s.th i).toNat (0,[],false,false)).1=5 then s.th i else-1):=rfl;generalize s.gd i=z at E⊢;generalize s.th i=a at P E d;by_cases ha:a<0
 ·have c:ay (z=-1):=E.o.trans (aJ ha)
  go_enter func62,ntmps62;go_wp2_with fail;refine P.mono ?_;rintro e w1 ⟨rfl,rfl⟩
  go_wp2;go_ret;rw[c.o];exact⟨rfl,rfl⟩
 ·obtain⟨j,rfl⟩:∃j:Nat,a=j:=⟨a.toNat,aa⟩
  have g:j<s.T.length:=aa;obtain⟨t,ht⟩:∃t,s.T[j]?=some t:=⟨_,aI g⟩
  obtain⟨b,n,cp,rfl,l,_⟩:=f j t ht;have c:ay (z=if t.1=5 then(j:Int) else-1):=by show _=_;rw[E.o,aH ha,Int.toNat_natCast,aG,ht];rfl
  generalize t.1=k at l c;have j0:(0:Int)<=(j:Int):=aa;have o:decide ((j:Int)<0)=false:=ac;clear f ht E d;by_cases hk:k=5
  ·subst hk;have E3:ay (z=j):=c.o;exact wJ
  ·have E3:ay (z=-1):=c.o.trans (aH hk)
   exact wJ
end
theorem Cz {w:aw}{b k n size:Nat}{T:TypeId}{xs:List Value}(h:w.ownsRow b T size (.slice (an k) n n) n xs):w.heap[k]?=some (.cells xs.toArray T (0,0)):=by
 obtain⟨m,d⟩:=h;rcases d with⟨e,_⟩|⟨o,p,c,f,hb,g,q,s,t,j⟩
 ·cases e
 ·cases f;rw[g];have:c.toList=xs:=by rw[<-List.take_of_length_le (l:=c.toList) (i:=n*size) (by simp;omega),j]
  rw[<-this]
theorem CA (n o:Int)(w:aw):Calls prog 19 #[ak n,ak o] w fun e w'=>∃rp rb F,e=.returned (am rp)/\(cq rp rb n o).J F ⟨[],List.replicate 12 (0,0),[],[]⟩ w'/\(∀b,F b->w.heap.size<=b)/\Below w.heap.size w w':=by
 obtain⟨d,hi,f,g,i⟩:=info_parts my;go_enter func19,ntmps19;go_wp2_with (at_make;refine wpList_make_full _ rfl _ _ 57 rfl w.heap.size 97 d (.agg #[ak 0,ak 0]) 2 underlying57 hi f g .i64 .i64 _ _ 12 rfl rfl aa aa (by rw[i];omega) (by unfold maxLen;omega) ac ?_;intro w1 j k)
 go_ret;have c:=Cz j;have l:(madeCells (Value.agg #[ak 0,ak 0]).cells (12*2)).toList=ev (List.replicate 12 (0,0)):=ah;rw[l] at c;have m:=lt_of_some c;have p:=bZ.grown k bY (fun _ h=>by cases h)
 have q:=aN w1 (.cells #[.slice none 0 0,.slice (some ⟨w.heap.size,0,none⟩) 12 12,.slice none 0 0,.slice none 0 0,.int .i64 n,.int .i64 o] 111)
 refine⟨w1.heap.size,w.heap.size,fun b=>b=w1.heap.size\/b=w.heap.size,rfl,⟨fun b=>if b=w1.heap.size then 1 else if b=w.heap.size then 4 else 0,[],.slice none 0 0,.slice none 0 0,.slice none 0 0,?_,fun b=>?_⟩,fun b hb=>aa,p.alloc aa _⟩
 ·exact {
   blk:=q,b1:=by rw[aJ rfl],row:=a6 _ _ _ _,ro:=fun b e=>by simp[Value.ownBlock] at e,nd:=rfl,fl:=fun x s=>by simp at s
   rt:=(a4 _ _ _ m).trans c
   rl:=rfl
   r1:=by rw[aH aa,aJ rfl]
   g2:=a6 _ _ _ _,fQ:=fun b e=>by simp[Value.ownBlock] at e
   g3:=a6 _ _ _ _,f5:=fun b e=>by simp[Value.ownBlock] at e
   lt:=fun b hb=>by
    simp only [World.size_alloc];by_cases c1:b=w1.heap.size
    ·omega
    ·by_cases c2:b=w.heap.size
     ·omega
     ·rw[aH c1,aH c2] at hb;exact absurd rfl hb}
 ·by_cases c1:b=w1.heap.size
  ·simp[c1]
  ·by_cases c2:b=w.heap.size
   ·simp[c2,show¬w.heap.size=w1.heap.size by omega]
   ·simp[c1,c2]
abbrev gt (k R A B I n:Int):Value:=.agg #[ak k,ak R,ak A,ak B,ak I,ak n]
abbrev dr (k R A B I n:Int):Obj:=.cells #[ak k,ak R,ak A,ak B,ak I,ak n] 44
def cn.gc (s:cn)(A:Nat)(I:Int):Int:=if s.th A<0\/(s.T.getD (s.th A).toNat (0,[],false,false)).1=5 then 2 else if I<0\/((s.T.getD (s.th A).toNat (0,[],false,false)).2.1.length:Int)<=I then 1 else 0
def cn.gf (s:cn)(A:Nat)(I:Int):Int×Int:=(s.T.getD (s.th A).toNat (0,[],false,false)).2.1.getD I.toNat (0,0)
section
variable {rp rb:Nat}{ca b8:Int}{F:Nat->Prop}{s:cn}{w:aw}
theorem lH (h:(cq rp rb ca b8).J F s w):rb≠rp/\F rb/\F rp:=by
 obtain⟨own,d,f,g,i,hM,b⟩:=h;refine⟨fun e=>?_,(b rb).2 (by rw[hM.r1];decide),(b rp).2 (by rw[hM.b1];decide)⟩
 have c:=hM.r1;rw[e,hM.b1] at c;omega
end
def cU (k:Int):Int:=
 if k=1\/k=2\/k=8 then 1 else if k=3\/k=5\/k=10\/k=11\/k=13 then 3 else if k=4\/k=6\/k=7\/k=14 then 7
 else if k=9\/k=12 then 6 else if k=15\/k=16 then 0 else-1
def em (k n:Int):Int:=if k=1 then vc 1 n else if k=5 then hc 2 n else 0
def dv (r:Int):Bool:=decide (0<=r)&&decide (r<12)
def dP (k R A B n:Int):Int:=
 if cU k=-1 then 2 else if(decide (cU k=1\/cU k=3\/cU k=7)&&!dv R)||(decide (cU k=3\/cU k=6\/cU k=7)&&!dv A)||(decide (cU k=6\/cU k=7)&&!dv B) then 1 else em k n
theorem oA (k:Int):k=1\/k=2\/k=3\/k=4\/k=5\/k=6\/k=7\/k=8\/k=9\/k=10\/k=11\/k=12\/k=13\/k=14\/k=15\/k=16\/(k<1\/16<k):=aa
theorem oC {k:Int}(h:k<1\/16<k):cU k=-1:=by unfold cU;rw[aH aa,aH aa,aH aa,aH aa,aH aa]
theorem wL (k:Int)(w:aw):Calls prog 54 #[ak k] w fun e w'=>e=.returned (ak (cU k))/\w'=w:=by
 rcases oA k with rfl|rfl|rfl|rfl|rfl|rfl|rfl|rfl|rfl|rfl|rfl|rfl|rfl|rfl|rfl|rfl|h
 case' inr.inr.inr.inr.inr.inr.inr.inr.inr.inr.inr.inr.inr.inr.inr.inr=>
  rw[oC h];have b:¬k=1:=aa;have c:¬k=2:=aa;have d:¬k=3:=aa;have f:¬k=4:=aa;have g:¬k=5:=aa;have i:¬k=6:=aa;have j:¬k=7:=aa;have l:¬k=8:=aa;have m:¬k=9:=aa;have n:¬k=10:=aa;have o:¬k=11:=aa;have p:¬k=12:=aa;have q:¬k=13:=aa;have s:¬k=14:=aa;have t:¬k=15:=aa;have u:¬k=16:=aa;clear h
 all_goals
  go_enter func54,ntmps54;go_wp2_with fail;go_ret;exact⟨rfl,rfl⟩
theorem se (k:Int)(w:aw):Calls prog 128 #[ak k] w fun e w'=>e=.returned (ak (cU k))/\w'=w:=by
 rcases oA k with rfl|rfl|rfl|rfl|rfl|rfl|rfl|rfl|rfl|rfl|rfl|rfl|rfl|rfl|rfl|rfl|h
 case' inr.inr.inr.inr.inr.inr.inr.inr.inr.inr.inr.inr.inr.inr.inr.inr=>
  rw[oC h];have b:¬k=1:=aa;have c:¬k=2:=aa;have d:¬k=3:=aa;have f:¬k=4:=aa;have g:¬k=5:=aa;have i:¬k=6:=aa;have j:¬k=7:=aa;have l:¬k=8:=aa;have m:¬k=9:=aa;have n:¬k=10:=aa;have o:¬k=11:=aa;have p:¬k=12:=aa;have q:¬k=13:=aa;have s:¬k=14:=aa;have t:¬k=15:=aa;have u:¬k=16:=aa;clear h
 all_goals
  go_enter func128,ntmps128;go_wp2_with fail;go_ret;exact⟨rfl,rfl⟩
theorem jx (r:Int)(w:aw):Calls prog 119 #[ak r] w fun e w'=>e=.returned (.bool (dv r))/\w'=w:=by
 by_cases h0:0<=r
 ·by_cases b:r<12
  ·have e:dv r=true:=by unfold dv;rw[bq h0,bq b];rfl
   rw[e];go_enter func119,ntmps119;go_wp2;go_ret;exact⟨rfl,rfl⟩
  ·have e:dv r=false:=by unfold dv;rw[bA b,Bool.and_false]
   rw[e];go_enter func119,ntmps119;go_wp2;go_ret;exact⟨rfl,rfl⟩
 ·have e:dv r=false:=by unfold dv;rw[bA h0,Bool.false_and]
  go_wp2;go_ret;exact⟨rfl,rfl⟩
theorem oD (n:Int)(w:aw):Calls prog 122 #[ak n] w fun e w'=>e=.returned (.tuple #[ak (ew 1 n),ak (vc 1 n)])/\Below w.heap.size w w':=by
 go_enter func122,ntmps122;go_wp2_with fail;refine(vk 1 n _).mono ?_;rintro e w1 ⟨rfl,hb⟩
 go_wp2_with fail;go_ret2;exact⟨rfl,hb⟩
theorem CD (k R A B I n:Int)(w:aw):Calls prog 120 #[.agg #[ak k,ak R,ak A,ak B,ak I,ak n]] w fun e w'=>e=.returned (ak (em k n))/\Below w.heap.size w w':=by
 have hb0:=aq w (.cells #[.int .i64 k,.int .i64 R,.int .i64 A,.int .i64 B,.int .i64 I,.int .i64 n] 44)
 by_cases b:k=1
 ·subst b;have e:em 1 n=vc 1 n:=by unfold em;rw[aJ rfl]
  rw[e];go_enter func120,ntmps120;go_wp2_with fail;refine(oD n _).mono ?_;rintro e w1 ⟨rfl,hb⟩
  go_wp2_with fail;go_ret;exact⟨rfl,hb0.trans (hb.mono hb0.size)⟩
 ·by_cases c:k=5
  ·subst c;have e:em 5 n=hc 2 n:=by unfold em;rw[aH aa,aJ rfl]
   rw[e];go_enter func120,ntmps120;go_wp2_with fail;refine(og 2 n _).mono ?_;exact p3
  ·have e:em k n=0:=by unfold em;rw[aH b,aH c]
   rw[e];go_enter func120,ntmps120;go_wp2_with fail;go_ret;exact⟨rfl,hb0⟩
theorem CE {n:Int}(h:n< -1152921504606846976):em 1 n=1:=by unfold em vc rc;rw[aJ rfl,aH aa,aH aa,aJ rfl,aJ h]
theorem CF {n:Int}(h:1152921504606846976<=n):em 1 n=1:=by unfold em vc rc;rw[aJ rfl,aH aa,aH aa,aJ rfl,aH aa,aJ h]
theorem CG {n:Int}(h:-1152921504606846976<=n)(b:n<1152921504606846976):em 1 n=0:=by unfold em vc rc;rw[aJ rfl,aH aa,aH aa,aJ rfl,aH aa,aH aa]
theorem CH {n:Int}(h:n<0):em 5 n=1:=by unfold em hc;rw[aH aa,aJ rfl,aH aa,aH aa,aH aa,aJ rfl,aJ h]
theorem CJ {n:Int}(h:12<n):em 5 n=1:=by unfold em hc;rw[aH aa,aJ rfl,aH aa,aH aa,aH aa,aJ rfl,aH aa,aJ h]
theorem CK {n:Int}(h:0<=n)(b:n<=12):em 5 n=0:=by unfold em hc;rw[aH aa,aJ rfl,aH aa,aH aa,aH aa,aJ rfl,aH aa,aH aa]
theorem wE {k n:Int}(b:k≠1)(c:k≠5):em k n=0:=by unfold em;rw[aH b,aH c]
section
variable {k R A B I n:Int}{w:aw}
theorem CL (hu:cU k=1)(hx:R<0\/12<=R):Calls prog 58 #[.agg #[ak k,ak R,ak A,ak B,ak I,ak n]] w fun e w'=>e=.returned (ak (1))/\Below w.heap.size w w':=by
 have U:∀w,Calls prog 128 #[ak k] w fun e w'=>e=.returned (ak 1)/\w'=w:=fun w=>by exact i2
 exact sc
theorem CM (hu:cU k=3)(hx:R<0\/12<=R):Calls prog 58 #[.agg #[ak k,ak R,ak A,ak B,ak I,ak n]] w fun e w'=>e=.returned (ak (1))/\Below w.heap.size w w':=by
 have U:∀w,Calls prog 128 #[ak k] w fun e w'=>e=.returned (ak 3)/\w'=w:=fun w=>by exact i2
 exact sc
theorem CN (hu:cU k=3)(z0:0<=R)(b:R<12)(hx:A<0\/12<=A):Calls prog 58 #[.agg #[ak k,ak R,ak A,ak B,ak I,ak n]] w fun e w'=>e=.returned (ak (1))/\Below w.heap.size w w':=by
 have U:∀w,Calls prog 128 #[ak k] w fun e w'=>e=.returned (ak 3)/\w'=w:=fun w=>by exact i2
 exact wH
theorem CO (hu:cU k=7)(hx:R<0\/12<=R):Calls prog 58 #[.agg #[ak k,ak R,ak A,ak B,ak I,ak n]] w fun e w'=>e=.returned (ak (1))/\Below w.heap.size w w':=by
 have U:∀w,Calls prog 128 #[ak k] w fun e w'=>e=.returned (ak 7)/\w'=w:=fun w=>by exact i2
 exact sc
theorem CP (hu:cU k=7)(z0:0<=R)(b:R<12)(hx:A<0\/12<=A):Calls prog 58 #[.agg #[ak k,ak R,ak A,ak B,ak I,ak n]] w fun e w'=>e=.returned (ak (1))/\Below w.heap.size w w':=by
 have U:∀w,Calls prog 128 #[ak k] w fun e w'=>e=.returned (ak 7)/\w'=w:=fun w=>by exact i2
 exact wH
theorem CQ (hu:cU k=7)(z0:0<=R)(b:R<12)(c:0<=A)(y1:A<12)(hx:B<0\/12<=B):Calls prog 58 #[.agg #[ak k,ak R,ak A,ak B,ak I,ak n]] w fun e w'=>e=.returned (ak (1))/\Below w.heap.size w w':=by
 have U:∀w,Calls prog 128 #[ak k] w fun e w'=>e=.returned (ak 7)/\w'=w:=fun w=>by exact i2
 exact wF
theorem CR (hu:cU k=6)(b:A<0\/12<=A):Calls prog 58 #[.agg #[ak k,ak R,ak A,ak B,ak I,ak n]] w fun e w'=>e=.returned (ak (1))/\Below w.heap.size w w':=by
 have c:∀w,Calls prog 128 #[ak k] w fun e w'=>e=.returned (ak 6)/\w'=w:=fun w=>by exact i2
 rcases b with b|b
 all_goals
  go_enter func58,ntmps58;go_wp2_with fail;refine(c _).mono ?_;rintro e w1 ⟨rfl,rfl⟩
  go_wp2_with fail
  go_loopw [5] (fun iv wr=>∃(j:Nat),j<=1/\iv=ak j/\wr=(w.alloc (.cells #[.int .i64 k,.int .i64 R,.int .i64 A,.int .i64 B,.int .i64 I,.int .i64 n] 44)).alloc (.cells #[.int .i64 R,.int .i64 A,.int .i64 B] 3)) (fun iv _=>3-(intOf iv).toNat)
  exact⟨0,aa,rfl,rfl⟩
  ·
    obtain⟨j,d,rfl,rfl⟩:=hrel;rcases(show j=0\/j=1 by omega) with rfl|rfl
    ·go_wp2_with fail;go_roundw;exact⟨1,ae,rfl,trivial⟩
     simp[intOf]
    ·go_wp2_with fail;go_ret;exact⟨rfl,(aq w (.cells #[.int .i64 k,.int .i64 R,.int .i64 A,.int .i64 B,.int .i64 I,.int .i64 n] 44)).alloc ac _⟩
theorem CS (hu:cU k=6)(b:0<=A)(y1:A<12)(hx:B<0\/12<=B):Calls prog 58 #[.agg #[ak k,ak R,ak A,ak B,ak I,ak n]] w fun e w'=>e=.returned (ak (1))/\Below w.heap.size w w':=by
 have U:∀w,Calls prog 128 #[ak k] w fun e w'=>e=.returned (ak 6)/\w'=w:=fun w=>by exact i2
 exact wF
theorem CT (z0:0<=R)(g:R<12)(b:n< -1152921504606846976):Calls prog 58 #[.agg #[ak 1,ak R,ak A,ak B,ak I,ak n]] w fun e w'=>e=.returned (ak (em 1 n))/\Below w.heap.size w w':=by
 have c:∀w,Calls prog 128 #[ak 1] w fun e w'=>e=.returned (ak 1)/\w'=w:=fun w=>by exact sg
 have d:=aq w (.cells #[.int .i64 1,.int .i64 R,.int .i64 A,.int .i64 B,.int .i64 I,.int .i64 n] 44)
 have f:ay (_):=b;have i:¬1152921504606846976<=n:=aa;go_enter func58,ntmps58;go_wp2_with fail;refine(c _).mono ?_;rintro e w1 ⟨rfl,rfl⟩
 go_wp2_with fail
 go_loopw [5] (fun iv wr=>∃(j:Nat),j<=3/\iv=ak j/\wr=(w.alloc (.cells #[.int .i64 1,.int .i64 R,.int .i64 A,.int .i64 B,.int .i64 I,.int .i64 n] 44)).alloc (.cells #[.int .i64 R,.int .i64 A,.int .i64 B] 3)) (fun iv _=>3-(intOf iv).toNat)
 case atStart=>exact⟨0,aa,rfl,rfl⟩
 case round=>
  obtain⟨j,k,rfl,rfl⟩:=hrel;rcases(show j=0\/j=1\/j=2\/j=3 by omega) with rfl|rfl|rfl|rfl
  ·go_wp2_with fail;exact ow
  ·go_wp2_with fail;exact ox
  ·go_wp2_with fail;exact oy
  ·go_wp2_with fail;go_ret;exact⟨by rw[CE f.o];rfl,d.alloc ac _⟩
theorem CU (z0:0<=R)(g:R<12)(b:1152921504606846976<=n):Calls prog 58 #[.agg #[ak 1,ak R,ak A,ak B,ak I,ak n]] w fun e w'=>e=.returned (ak (em 1 n))/\Below w.heap.size w w':=by
 have c:∀w,Calls prog 128 #[ak 1] w fun e w'=>e=.returned (ak 1)/\w'=w:=fun w=>by exact sg
 have d:=aq w (.cells #[.int .i64 1,.int .i64 R,.int .i64 A,.int .i64 B,.int .i64 I,.int .i64 n] 44)
 have f:=hide b;have i:¬n< -1152921504606846976:=aa;go_enter func58,ntmps58;go_wp2_with fail;refine(c _).mono ?_;rintro e w1 ⟨rfl,rfl⟩
 go_wp2_with fail
 go_loopw [5] (fun iv wr=>∃(j:Nat),j<=3/\iv=ak j/\wr=(w.alloc (.cells #[.int .i64 1,.int .i64 R,.int .i64 A,.int .i64 B,.int .i64 I,.int .i64 n] 44)).alloc (.cells #[.int .i64 R,.int .i64 A,.int .i64 B] 3)) (fun iv _=>3-(intOf iv).toNat)
 exact⟨0,aa,rfl,rfl⟩
 ·
   obtain⟨j,k,rfl,rfl⟩:=hrel;rcases(show j=0\/j=1\/j=2\/j=3 by omega) with rfl|rfl|rfl|rfl
   ·go_wp2_with fail;go_roundw;exact⟨1,ae,rfl,trivial⟩
    simp[intOf]
   ·go_wp2_with fail;go_roundw;exact⟨2,ae,rfl,trivial⟩
    simp[intOf]
   ·go_wp2_with fail;go_roundw;exact⟨3,ae,rfl,trivial⟩
    simp[intOf]
   ·go_wp2_with fail;go_ret;exact⟨by rw[CF f.o];rfl,d.alloc ac _⟩
theorem CV (z0:0<=R)(k:R<12)(b:-1152921504606846976<=n)(c:n<1152921504606846976):Calls prog 58 #[.agg #[ak 1,ak R,ak A,ak B,ak I,ak n]] w fun e w'=>e=.returned (ak (em 1 n))/\Below w.heap.size w w':=by
 have d:∀w,Calls prog 128 #[ak 1] w fun e w'=>e=.returned (ak 1)/\w'=w:=fun w=>by exact sg
 have f:=aq w (.cells #[.int .i64 1,.int .i64 R,.int .i64 A,.int .i64 B,.int .i64 I,.int .i64 n] 44)
 have g:ay (_):=b;have i:ay (_):=c;have l:¬1152921504606846976<=n:=aa;have m:¬n< -1152921504606846976:=aa;go_enter func58,ntmps58;go_wp2_with fail;refine(d _).mono ?_;rintro e w1 ⟨rfl,rfl⟩
 go_wp2_with fail
 go_loopw [5] (fun iv wr=>∃(j:Nat),j<=3/\iv=ak j/\wr=(w.alloc (.cells #[.int .i64 1,.int .i64 R,.int .i64 A,.int .i64 B,.int .i64 I,.int .i64 n] 44)).alloc (.cells #[.int .i64 R,.int .i64 A,.int .i64 B] 3)) (fun iv _=>3-(intOf iv).toNat)
 case atStart=>exact⟨0,aa,rfl,rfl⟩
 case round=>
  obtain⟨j,o,rfl,rfl⟩:=hrel;rcases(show j=0\/j=1\/j=2\/j=3 by omega) with rfl|rfl|rfl|rfl
  ·go_wp2_with fail;exact ow
  ·go_wp2_with fail;exact ox
  ·go_wp2_with fail;exact oy
  ·go_wp2_with fail;go_ret;exact⟨by rw[CG g.o i.o];rfl,f.alloc ac _⟩
theorem CW (z0:0<=R)(g:R<12)(i:0<=A)(y1:A<12)(b:n<0):Calls prog 58 #[.agg #[ak 5,ak R,ak A,ak B,ak I,ak n]] w fun e w'=>e=.returned (ak (em 5 n))/\Below w.heap.size w w':=by
 have c:∀w,Calls prog 128 #[ak 5] w fun e w'=>e=.returned (ak 3)/\w'=w:=fun w=>by exact sf
 have d:=aq w (.cells #[.int .i64 5,.int .i64 R,.int .i64 A,.int .i64 B,.int .i64 I,.int .i64 n] 44)
 have f:ay (_):=b;have k:¬12<n:=aa;go_enter func58,ntmps58;go_wp2_with fail;refine(c _).mono ?_;rintro e w1 ⟨rfl,rfl⟩
 go_wp2_with fail
 go_loopw [5] (fun iv wr=>∃(j:Nat),j<=3/\iv=ak j/\wr=(w.alloc (.cells #[.int .i64 5,.int .i64 R,.int .i64 A,.int .i64 B,.int .i64 I,.int .i64 n] 44)).alloc (.cells #[.int .i64 R,.int .i64 A,.int .i64 B] 3)) (fun iv _=>3-(intOf iv).toNat)
 case atStart=>exact⟨0,aa,rfl,rfl⟩
 case round=>
  obtain⟨j,l,rfl,rfl⟩:=hrel;rcases(show j=0\/j=1\/j=2\/j=3 by omega) with rfl|rfl|rfl|rfl
  ·go_wp2_with fail;exact ow
  ·go_wp2_with fail;exact ox
  ·go_wp2_with fail;exact oy
  ·go_wp2_with fail;go_ret;exact⟨by rw[CH f.o];rfl,d.alloc ac _⟩
theorem CX (z0:0<=R)(g:R<12)(i:0<=A)(y1:A<12)(b:12<n):Calls prog 58 #[.agg #[ak 5,ak R,ak A,ak B,ak I,ak n]] w fun e w'=>e=.returned (ak (em 5 n))/\Below w.heap.size w w':=by
 have c:∀w,Calls prog 128 #[ak 5] w fun e w'=>e=.returned (ak 3)/\w'=w:=fun w=>by exact sf
 have d:=aq w (.cells #[.int .i64 5,.int .i64 R,.int .i64 A,.int .i64 B,.int .i64 I,.int .i64 n] 44)
 have f:ay (_):=b;have k:¬n<0:=aa;go_enter func58,ntmps58;go_wp2_with fail;refine(c _).mono ?_;rintro e w1 ⟨rfl,rfl⟩
 go_wp2_with fail
 go_loopw [5] (fun iv wr=>∃(j:Nat),j<=3/\iv=ak j/\wr=(w.alloc (.cells #[.int .i64 5,.int .i64 R,.int .i64 A,.int .i64 B,.int .i64 I,.int .i64 n] 44)).alloc (.cells #[.int .i64 R,.int .i64 A,.int .i64 B] 3)) (fun iv _=>3-(intOf iv).toNat)
 case atStart=>exact⟨0,aa,rfl,rfl⟩
 case round=>
  obtain⟨j,l,rfl,rfl⟩:=hrel;rcases(show j=0\/j=1\/j=2\/j=3 by omega) with rfl|rfl|rfl|rfl
  ·go_wp2_with fail;exact ow
  ·go_wp2_with fail;exact ox
  ·go_wp2_with fail;exact oy
  ·go_wp2_with fail;go_ret;exact⟨by rw[CJ f.o];rfl,d.alloc ac _⟩
theorem CY (z0:0<=R)(k:R<12)(l:0<=A)(y1:A<12)(b:0<=n)(c:n<=12):Calls prog 58 #[.agg #[ak 5,ak R,ak A,ak B,ak I,ak n]] w fun e w'=>e=.returned (ak (em 5 n))/\Below w.heap.size w w':=by
 have d:∀w,Calls prog 128 #[ak 5] w fun e w'=>e=.returned (ak 3)/\w'=w:=fun w=>by exact sf
 have f:=aq w (.cells #[.int .i64 5,.int .i64 R,.int .i64 A,.int .i64 B,.int .i64 I,.int .i64 n] 44)
 have g:ay (_):=b;have i:ay (_):=c;have m:¬12<n:=aa;have o:¬n<0:=aa;go_enter func58,ntmps58;go_wp2_with fail;refine(d _).mono ?_;rintro e w1 ⟨rfl,rfl⟩
 go_wp2_with fail
 go_loopw [5] (fun iv wr=>∃(j:Nat),j<=3/\iv=ak j/\wr=(w.alloc (.cells #[.int .i64 5,.int .i64 R,.int .i64 A,.int .i64 B,.int .i64 I,.int .i64 n] 44)).alloc (.cells #[.int .i64 R,.int .i64 A,.int .i64 B] 3)) (fun iv _=>3-(intOf iv).toNat)
 case atStart=>exact⟨0,aa,rfl,rfl⟩
 case round=>
  obtain⟨j,p,rfl,rfl⟩:=hrel;rcases(show j=0\/j=1\/j=2\/j=3 by omega) with rfl|rfl|rfl|rfl
  ·go_wp2_with fail;exact ow
  ·go_wp2_with fail;exact ox
  ·go_wp2_with fail;exact oy
  ·go_wp2_with fail;go_ret;exact⟨by rw[CK g.o i.o];rfl,f.alloc ac _⟩
theorem CZ (hu:cU k=1)(z0:0<=R)(b:R<12)(h1:k≠1)(h5:k≠5):Calls prog 58 #[.agg #[ak k,ak R,ak A,ak B,ak I,ak n]] w fun e w'=>e=.returned (ak (em k n))/\Below w.heap.size w w':=by
 have U:∀w,Calls prog 128 #[ak k] w fun e w'=>e=.returned (ak 1)/\w'=w:=fun w=>by exact i2
 exact sa
theorem C1 (hu:cU k=3)(z0:0<=R)(b:R<12)(c:0<=A)(y1:A<12)(h1:k≠1)(h5:k≠5):Calls prog 58 #[.agg #[ak k,ak R,ak A,ak B,ak I,ak n]] w fun e w'=>e=.returned (ak (em k n))/\Below w.heap.size w w':=by
 have U:∀w,Calls prog 128 #[ak k] w fun e w'=>e=.returned (ak 3)/\w'=w:=fun w=>by exact i2
 exact sa
theorem C2 (hu:cU k=7)(z0:0<=R)(b:R<12)(c:0<=A)(y1:A<12)(d:0<=B)(f:B<12)(h1:k≠1)(h5:k≠5):Calls prog 58 #[.agg #[ak k,ak R,ak A,ak B,ak I,ak n]] w fun e w'=>e=.returned (ak (em k n))/\Below w.heap.size w w':=by
 have U:∀w,Calls prog 128 #[ak k] w fun e w'=>e=.returned (ak 7)/\w'=w:=fun w=>by exact i2
 exact wG
theorem C3 (hu:cU k=6)(b:0<=A)(y1:A<12)(c:0<=B)(d:B<12)(h1:k≠1)(h5:k≠5):Calls prog 58 #[.agg #[ak k,ak R,ak A,ak B,ak I,ak n]] w fun e w'=>e=.returned (ak (em k n))/\Below w.heap.size w w':=by
 have U:∀w,Calls prog 128 #[ak k] w fun e w'=>e=.returned (ak 6)/\w'=w:=fun w=>by exact i2
 exact wG
theorem C4 (hu:cU k=0)(h1:k≠1)(h5:k≠5):Calls prog 58 #[.agg #[ak k,ak R,ak A,ak B,ak I,ak n]] w fun e w'=>e=.returned (ak (em k n))/\Below w.heap.size w w':=by
 have U:∀w,Calls prog 128 #[ak k] w fun e w'=>e=.returned (ak 0)/\w'=w:=fun w=>by exact i2
 exact sa
theorem C5 (hu:cU k=-1):Calls prog 58 #[.agg #[ak k,ak R,ak A,ak B,ak I,ak n]] w fun e w'=>e=.returned (ak 2)/\Below w.heap.size w w':=by
 have b:∀w,Calls prog 128 #[ak k] w fun e w'=>e=.returned (ak (-1))/\w'=w:=fun w=>by exact i2
 go_enter func58,ntmps58;go_wp2_with fail;refine(b _).mono ?_;rintro e w1 ⟨rfl,rfl⟩
 go_wp2_with fail;go_ret;exact⟨rfl,(aq w _)⟩
end
theorem es {r:Int}(h:dv r=true):0<=r/\r<12:=by unfold dv at h;simpa using h
theorem lI {r:Int}(h:dv r=false):r<0\/12<=r:=by
 unfold dv at h;rw[Bool.and_eq_false_iff] at h;rcases h with h|h
 ·exact aL (by have:=of_decide_eq_false h;omega)
 ·exact aK (by have:=of_decide_eq_false h;omega)
theorem wM (k:Int):cU k=1\/cU k=3\/cU k=7\/cU k=6\/cU k=0\/cU k=-1:=by
 unfold cU
 repeat' split
 all_goals simp
theorem wN (k R A B I n:Int)(w:aw):Calls prog 58 #[.agg #[ak k,ak R,ak A,ak B,ak I,ak n]] w fun e w'=>e=.returned (ak (dP k R A B n))/\Below w.heap.size w w':=by
 have c:cU 1=1:=rfl;have d:cU 5=3:=rfl;unfold dP;rcases wM k with b|b|b|b|b|b
 ·rw[b,aH ae];cases hR:dv R
  ·rw[aJ ac];exact CL b (lI hR)
  ·rw[aH ac];by_cases hk:k=1
   ·subst hk;by_cases q1:n< -1152921504606846976
    ·exact CT (es hR).1 (es hR).2 q1
    ·by_cases f:1152921504606846976<=n
     ·exact CU (es hR).1 (es hR).2 f
     ·exact CV (es hR).1 (es hR).2 aa aa
   ·exact CZ b (es hR).1 (es hR).2 hk (fun e=>by rw[e,d] at b;omega)
 ·rw[b,aH ae];cases hR:dv R
  ·rw[aJ ac];exact CM b (lI hR)
  ·cases hA:dv A
   ·rw[aJ ac];exact CN b (es hR).1 (es hR).2 (lI hA)
   ·rw[aH ac];by_cases hk:k=5
    ·subst hk;by_cases q1:n<0
     ·exact CW (es hR).1 (es hR).2 (es hA).1 (es hA).2 q1
     ·by_cases f:12<n
      ·exact CX (es hR).1 (es hR).2 (es hA).1 (es hA).2 f
      ·exact CY (es hR).1 (es hR).2 (es hA).1 (es hA).2 aa aa
    ·exact C1 b (es hR).1 (es hR).2 (es hA).1 (es hA).2 (fun e=>by rw[e,c] at b;omega) hk
 ·rw[b,aH ae];cases hR:dv R
  ·rw[aJ ac];exact CO b (lI hR)
  ·cases hA:dv A
   ·rw[aJ ac];exact CP b (es hR).1 (es hR).2 (lI hA)
   ·cases hB:dv B
    ·rw[aJ ac];exact CQ b (es hR).1 (es hR).2 (es hA).1 (es hA).2 (lI hB)
    ·rw[aH ac];exact C2 b (es hR).1 (es hR).2 (es hA).1 (es hA).2 (es hB).1 (es hB).2 (fun e=>by rw[e,c] at b;omega) (fun e=>by rw[e,d] at b;omega)
 ·rw[b,aH ae];cases hA:dv A
  ·rw[aJ ac];exact CR b (lI hA)
  ·cases hB:dv B
   ·rw[aJ ac];exact CS b (es hA).1 (es hA).2 (lI hB)
   ·rw[aH ac];exact C3 b (es hA).1 (es hA).2 (es hB).1 (es hB).2 (fun e=>by rw[e,c] at b;omega) (fun e=>by rw[e,d] at b;omega)
 ·rw[b,aH ae];rw[aH ac];exact C4 b (fun e=>by rw[e,c] at b;omega) (fun e=>by rw[e,d] at b;omega)
 ·rw[aJ b];exact C5 b
def dy (L:List Bool)(v:Int×Int):Bool:=!(v.1==3)||L.getD v.2.toNat false
def ey (L:List Bool)(v:Int×Int):List Bool:=if dy L v=true then L else L.set v.2.toNat true
def t0:cH:=(0,[],false,false)
def f8 (T:List cH)(wt:List b9)(X:Nat->Prop)(i:Nat)(v:Int×Int):Prop:=
 (((T.getD i t0).1=1\/(T.getD i t0).1=2)/\v∈(T.getD i t0).2.1)\/((T.getD i t0).1=3/\v=(T.getD i t0).2.1.getD 1 (0,0))\/
 ((T.getD i t0).1=4/\(((T.getD i t0).2.1.getD 0 (0,0)).1=3->X ((T.getD i t0).2.1.getD 0 (0,0)).2.toNat)/\v=(T.getD i t0).2.1.getD 1 (0,0))\/
 ((T.getD i t0).1=5/\∃e∈wt,e.1=i/\v=(3,e.2))
theorem f8.mono {T:List cH}{wt:List b9}{X Y:Nat->Prop}(b:∀i,X i->Y i){i:Nat}{v:Int×Int}(h:f8 T wt X i v):f8 T wt Y i v:=by
 rcases h with h|h|⟨d,e,f⟩|h
 ·exact aL h
 ·exact aK (aL h)
 ·exact aK (aK (aL ⟨d,fun c=>b _ (e c),f⟩))
 ·exact aK (aK (aK h))
def fK (T:List cH)(wt:List b9)(X:Nat->Prop):Prop:=∀i,i<T.length->X i->∀v,f8 T wt X i v->v.1=3->X v.2.toNat
def cw (L:List Bool):Nat->Prop:=fun i=>L.getD i false=true
structure jy (T:List cH)(wt:List b9)(is out:List Bool):Prop where
 len:out.length=is.length
 up:∀i,cw is i->cw out i
 cl:fK T wt (cw out)
 lt:∀X,fK T wt X->(∀i,cw is i->X i)->∀i,cw out i->X i
theorem C7 (L:List Bool)(v:Int×Int):(ey L v).length=L.length:=by
 unfold ey;split
 ·rfl
 ·rw[bf]
theorem oE {L:List Bool}{v:Int×Int}(h:dy L v=false):v.1=3/\L.getD v.2.toNat false=false:=by unfold dy at h;rw[Bool.or_eq_false_iff] at h;exact⟨by simpa using h.1,h.2⟩
theorem mz {L:List Bool}{v:Int×Int}(h:dy L v=true):v.1=3->cw L v.2.toNat:=fun b=>by unfold dy at h;rw[b] at h;unfold cw;simpa using h
theorem kl (L:List Bool)(i j:Nat)(h:i<L.length):(L.set i true).getD j false=if i=j then true else L.getD j false:=by
 rw[aG,aG,List.getElem?_set];split
 ·simp_all
 ·rfl
theorem cw.lt {L:List Bool}{i:Nat}(h:cw L i):i<L.length:=by
 unfold cw at h;by_cases c:i<L.length
 ·exact c
 ·simp_all
def cnt (L:List Bool):Nat:=(L.filter (fun b=>!b)).length
theorem wO:∀(L:List Bool)(i:Nat),L.getD i true=false->cnt (L.set i true)+1=cnt L
 |[],i,h=>by simp at h
 |b::L,0,h=>by
  have h:b=false:=by simpa using h
  subst h;simp[cnt]
 |b::L,i+1,h=>by
  have h:L.getD i true=false:=by simpa using h
  have c:=wO L i h;unfold cnt at c⊢;rw[List.set_cons_succ];cases b
  ·simp_all
  ·exact c
theorem oF (L:List Bool)(v:Int×Int)(i:Nat)(h:cw L i):cw (ey L v) i:=by
 unfold ey;split
 ·exact h
 ·unfold cw at h⊢;by_cases c:v.2.toNat<L.length
  ·rw[kl _ _ _ c];split
   ·rfl
   ·exact h
  ·rw[List.set_eq_of_length_le aa];exact h
theorem p4 {L:List Bool}{v:Int×Int}(c:v.1=3->v.2.toNat<L.length):v.1=3->cw (ey L v) v.2.toNat:=fun b=>by
 cases h:dy L v
 ·unfold ey;rw[aH (by rw[h];simp)];unfold cw;rw[kl _ _ _ (c b),aJ rfl]
 ·unfold ey;rw[aJ h];exact mz h b
theorem C8 {L:List Bool}{v:Int×Int}{X:Nat->Prop}(h:∀i,cw L i->X i)(b:v.1=3->X v.2.toNat):∀i,cw (ey L v) i->X i:=fun i hi=>by
 cases hs:dy L v
 ·unfold ey at hi;rw[aH (by rw[hs];simp)] at hi;unfold cw at hi;by_cases c:v.2.toNat<L.length
  ·rw[kl _ _ _ c] at hi;split at hi
   ·rename_i e;rw[<-e];exact b (oE hs).1
   ·exact h i hi
  ·rw[List.set_eq_of_length_le aa] at hi;exact h i hi
 ·unfold ey at hi;rw[aJ hs] at hi;exact h i hi
theorem C9 {L:List Bool}{v:Int×Int}(b:v.1=3->v.2.toNat<L.length)(h:dy L v=false):cnt (ey L v)<cnt L:=by
 obtain⟨c,d⟩:=oE h;unfold ey;rw[aH (by rw[h];simp)];have e:L.getD v.2.toNat true=false:=by simp_all
 have:=wO L v.2.toNat e;omega
structure fq (T:List cH)(wt:List b9)(is P0 L:List Bool)(more:Bool)(i:Nat):Prop where
 len:L.length=is.length
 up:∀k,cw is k->cw L k
 lt:∀X,fK T wt X->(∀k,cw is k->X k)->∀k,cw L k->X k
 no:more=false->L=P0/\∀k,k<i->k<T.length->cw L k->∀v,f8 T wt (cw L) k v->v.1=3->cw L v.2.toNat
 yes:more=true->cnt L<cnt P0
theorem fq.add {T:List cH}{wt:List b9}{is c L:List Bool}{more:Bool}{i:Nat}(h:fq T wt is c L more i)(hi:i<T.length)(f:cw L i){v:Int×Int}(hk:f8 T wt (cw L) i v)(g:v.1=3->v.2.toNat<L.length):fq T wt is c (ey L v) (!dy L v||more) i:=by
 refine⟨(C7 L v).trans h.len,fun k hk=>oF L v k (h.up k hk),fun X b d k j=>C8 (h.lt X b d) (fun l=>b i hi (h.lt X b d i f) v (hk.mono (h.lt X b d)) l) k j,fun hm=>?_,fun hm=>?_⟩
 ·rw[Bool.or_eq_false_iff] at hm;obtain⟨m1,m⟩:=hm;have m1:dy L v=true:=by simpa using m1
  have e:ey L v=L:=by unfold ey;rw[aJ m1]
  rw[e];exact h.no m
 ·cases hs:dy L v
  ·have n:=C9 g hs;have o:cnt L<=cnt c:=by
    cases more
    ·rw[(h.no rfl).1];exact aD _
    ·exact Nat.le_of_lt (h.yes rfl)
   omega
  ·have e:ey L v=L:=by unfold ey;rw[aJ hs]
   rw[e];rw[hs] at hm;exact h.yes (by simpa using hm)
theorem fq.next {T:List cH}{wt:List b9}{is b L:List Bool}{more:Bool}{i:Nat}(h:fq T wt is b L more i)(j:more=false->i<T.length->cw L i->∀v,f8 T wt (cw L) i v->v.1=3->cw L v.2.toNat):fq T wt is b L more (i+1):=
 ⟨h.len,h.up,h.lt,fun hm=>⟨(h.no hm).1,fun k hk d e v f g=>by
  by_cases c:k<i
  ·exact(h.no hm).2 k c d e v f g
  ·obtain rfl:k=i:=aa;exact j hm d e v f g⟩,h.yes⟩
theorem fq.start {T:List cH}{wt:List b9}{is b:List Bool}(c:b.length=is.length)(d:∀k,cw is k->cw b k)(e:∀X,fK T wt X->(∀k,cw is k->X k)->∀k,cw b k->X k):fq T wt is b b false 0:=
 ⟨c,d,e,fun _=>⟨rfl,fun k hk=>absurd hk aa⟩,fun h=>by cases h⟩
theorem fq.done {T:List cH}{wt:List b9}{is b L:List Bool}(h:fq T wt is b L false T.length):jy T wt is L:=
 ⟨h.len,h.up,fun i hi c v d e=>(h.no rfl).2 i hi hi c v d e,h.lt⟩
def cI (T:List cH)(i:Nat):Prop:=i<T.length/\(T.getD i t0).2.2.2=false
structure gD (T:List cH)(wt:List b9):Prop where
 fl:∀i,cI T i->(T.getD i t0).1=3\/(T.getD i t0).1=4->(T.getD i t0).2.1.length=2
 fv:∀i,cI T i->∀v∈(T.getD i t0).2.1,v.1=3->0<=v.2/\cI T v.2.toNat
 wv:∀e∈wt,0<=e.2/\cI T e.2.toNat
 tl:∀i,(T.getD i t0).2.1.length<=12
theorem getD_in {b:Type}{l:List b}{i:Nat}{x:b}(h:i<l.length):l.getD i x∈l:=by rw[aG,aI h];exact a_ h
theorem gD.wP {T:List cH}{wt:List b9}(h:gD T wt){X:Nat->Prop}{i:Nat}(hi:cI T i){v:Int×Int}(c:f8 T wt X i v)(b:v.1=3):0<=v.2/\cI T v.2.toNat:=by
 rcases c with⟨_,hm⟩|⟨hk,e⟩|⟨hk,_,e⟩|⟨_,d,he,_,e⟩
 ·exact h.fv i hi v hm b
 ·exact h.fv i hi v (by rw[e];exact getD_in (by rw[h.fl i hi (aL hk)];decide)) b
 ·exact h.fv i hi v (by rw[e];exact getD_in (by rw[h.fl i hi (aK hk)];decide)) b
 ·rw[e];exact h.wv d he
theorem gD.cls {T:List cH}{wt:List b9}(h:gD T wt):fK T wt (cI T):=fun _ _ b _ c d=>(h.wP b c d).2
theorem fq.wQ {T:List cH}{wt:List b9}{is b L:List Bool}{more:Bool}{i:Nat}(h:fq T wt is b L more i)(c:gD T wt)(hi:∀k,cw is k->cI T k){k:Nat}(hk:cw L k):cI T k:=h.lt _ c.cls hi k hk
theorem fq.bd {T:List cH}{wt:List b9}{is c L:List Bool}{more:Bool}{i:Nat}(h:fq T wt is c L more i)(b:gD T wt)(hi:∀k,cw is k->cI T k)(hl:is.length=T.length)(d:cw L i){X:Nat->Prop}{v:Int×Int}(e:f8 T wt X i v):v.1=3->0<=v.2/\v.2<L.length:=fun f=>by obtain⟨g,j⟩:=b.wP (h.wQ b hi d) e f;have:=j.1;have:=h.len;exact⟨g,aa⟩
def ij (b:Bool)(t:cH):Bool:=t.2.2.1&&!t.2.2.2&&!b
def gX (L:List Bool)(v:Int×Int):List Bool:=if v.1=3 then L.set v.2.toNat true else L
def jz (T:List cH)(rs:List (Int×Int))(b:Bool):List Bool:=rs.foldl gX (T.map (ij b))
theorem wR (L:List Bool)(v:Int×Int):(gX L v).length=L.length:=by
 unfold gX;split
 ·rw[bf]
 ·rfl
theorem p5 (T:List cH)(rs:List _)(b:Bool):(jz T rs b).length=T.length:=by
 have key:∀(rs:List (Int×Int))(L:List Bool),(rs.foldl gX L).length=L.length:=fun rs=>by
  induction rs with
  |nil=>intro L;rfl
  |cons v rs c=>intro L;rw[a9,c,wR]
 unfold jz;rw[key,aU]
theorem C_ {L:List Bool}{v:Int×Int}{i:Nat}:cw (gX L v) i↔cw L i\/(v.1=3/\v.2.toNat=i/\i<L.length):=by
 unfold gX;by_cases b:v.1=3
 ·rw[aJ b];unfold cw;by_cases hl:v.2.toNat<L.length
  ·rw[kl _ _ _ hl];constructor
   ·intro h;split at h
    ·rename_i e;exact aK ⟨b,e,aa⟩
    ·exact aL h
   ·rintro(h|⟨_,e,_⟩)
    ·split
     ·rfl
     ·exact h
    ·rw[aJ e]
  ·rw[List.set_eq_of_length_le aa];exact⟨aL,fun h=>h.elim id (fun⟨_,e,c⟩=>absurd c aa)⟩
 ·rw[aH b];exact⟨aL,fun h=>h.elim id (fun⟨e,_⟩=>absurd e b)⟩
theorem wS:∀(rs:List (Int×Int))(L:List Bool)(i:Nat),cw (rs.foldl gX L) i↔cw L i\/(i<L.length/\∃v∈rs,v.1=3/\v.2.toNat=i)
 |[],L,i=>by simp
 |v::rs,L,i=>by
  rw[a9,wS rs,C_,wR];constructor
  ·rintro((h|⟨c,b,d⟩)|⟨c,u,f,b⟩)
   ·exact aL h
   ·exact aK ⟨d,v,ac,c,b⟩
   ·exact aK ⟨c,u,aQ _ f,b⟩
  ·rintro(h|⟨c,u,f,b,d⟩)
   ·exact aL (aL h)
   ·rcases List.mem_cons.1 f with e|e
    ·rw[e] at b d;exact aL (aK ⟨b,d,c⟩)
    ·exact aK ⟨c,u,e,b,d⟩
theorem Da (b:Bool)(T:List cH)(i:Nat):cw (T.map (ij b)) i↔i<T.length/\(T.getD i t0).2.2.1=true/\(T.getD i t0).2.2.2=false/\b=false:=by
 unfold cw;by_cases h:i<T.length
 ·rw[aG,bv,aI h,aG,aI h];simp[ij,h,and_assoc]
 ·simp[h]
theorem lJ (T:List cH)(rs:List _)(d:Bool)(i:Nat):cw (jz T rs d) i↔i<T.length/\(((T.getD i t0).2.2.1=true/\(T.getD i t0).2.2.2=false/\d=false)\/∃v∈rs,v.1=3/\v.2.toNat=i):=by
 unfold jz;rw[wS,Da,aU];constructor
 ·rintro(⟨c,b⟩|⟨c,b⟩)
  ·exact⟨c,aL b⟩
  ·exact⟨c,aK b⟩
 ·rintro⟨c,b|b⟩
  ·exact aL ⟨c,b⟩
  ·exact aK ⟨c,b⟩
section
variable {T:List cH}{wt:List b9}
theorem a7 {α:Type _}{a:α}{«as»:List α}(bs:List α):a ∈ «as» -> a ∈ «as» ++ bs:=by intros;apply List.mem_append_left<;>assumption
theorem fK.less {C:List b9}{X:Nat->Prop}(h:fK T (wt++C) X):fK T wt X:=fun i hi b v c d=>h i hi b v (by
 rcases c with h|h|h|⟨f,e,he,g⟩
 ·exact aL h
 ·exact aK (aL h)
 ·exact aK (aK (aL h))
 ·exact aK (aK (aK ⟨f,e,a7 _ he,g⟩))) d
theorem fK.more {C:List b9}{X:Nat->Prop}(h:fK T wt X)(j:∀e∈C,X e.2.toNat):fK T (wt++C) X:=fun i hi c v k d=>by
 rcases k with b|b|b|⟨b,e,he,l,g⟩
 ·exact h i hi c v (aL b) d
 ·exact h i hi c v (aK (aL b)) d
 ·exact h i hi c v (aK (aK (aL b))) d
 ·rcases List.mem_append.1 he with f|f
  ·exact h i hi c v (aK (aK (aK ⟨b,e,f,l,g⟩))) d
  ·rw[g];exact j e f
theorem jy.less {C:List b9}{is b:List Bool}(h:jy T (wt++C) is b)(c:∀e∈C,cw is e.2.toNat):jy T wt is b:=
 ⟨h.len,h.up,h.cl.less,fun X d hi=>h.lt X (d.more (fun e he=>hi _ (c e he))) hi⟩
theorem jy.uniq {is a b:List Bool}(h:jy T wt is a)(c:jy T wt is b):a=b:=by
 refine List.ext_getElem (h.len.trans c.len.symm) (fun i d e=>?_)
 have key:cw a i↔cw b i:=⟨fun q=>h.lt _ c.cl c.up i q,fun q=>c.lt _ h.cl h.up i q⟩
 unfold cw at key;cases ha:a[i]<;>cases hb:b[i]<;>simp_all
end
def cG (L:List Bool)(x:Int):Bool:=L.getD x.toNat false
def d8 (g:List Bool->List Bool)(L:List Bool)(x:Int):List Bool:=g (L.set x.toNat true)
def gY (T:List cH)(L:List Bool):Nat->Int
 |0=>0
 |i+1=>if L.getD i false=true then gY T L i+(1+(T.getD i t0).2.1.length) else gY T L i
def eK (L:List Bool)(i:Nat)(t:cH):cH:=
 if L.getD i false=true then
  (t.1,(if t.1=4/\dy L (t.2.1.getD 0 (0,0))=false then[(2,0),(2,0)] else if t.1=3/\dy L (t.2.1.getD 0 (0,0))=false then[(2,0),t.2.1.getD 1 (0,0)] else t.2.1),true,t.2.2.2)
 else(t.1,[],t.2.2.1,true)
def eD (L:List Bool)(T:List cH):Nat->List cH
 |0=>T
 |i+1=>(eD L T i).set i (eK L i (T.getD i t0))
def cn.c0 (g:List Bool->List Bool)(s:cn)(b:Bool):List Bool:=g (jz s.T s.rs b)
def cn.cR (g:List Bool->List Bool)(s:cn)(b:Bool):List Bool×List b9×List b9:=
 turns cG (d8 g) (s.rg.length+1) (s.rg.filter (fun e=>!cG (s.c0 g b) e.2)) (s.c0 g b) []
def cn.cF (g:List Bool->List Bool)(s:cn)(b8:Int)(b:Bool):Bool:=
 (!b&&decide (b8-(dC s.T).2<(dC s.T).1))||decide (b8<gY s.T (s.cR g b).1 s.T.length)
def cn.cut (g:List Bool->List Bool)(s:cn)(b8:Int)(b:Bool):cn:=
 if s.cF g b8 b=true then s else
  {T:=eD (s.cR g b).1 s.T s.T.length,rs:=s.rs,rg:=s.rg.filter (fun e=>cG (s.c0 g b) e.2&&cG (s.cR g b).1 e.1),wt:=(s.wt++(s.cR g b).2.1).filter (fun e=>cG (s.cR g b).1 e.1)}
def cn.gE (g:List Bool->List Bool)(s:cn)(b8:Int)(b:Bool):Int:=if s.cF g b8 b=true then 3 else 0
def ed (T:List cH)(wt:List b9)(g:List Bool->List Bool):Prop:=∀is:List Bool,is.length=T.length->(∀k,cw is k->cI T k)->jy T wt is (g is)
theorem i3 (L:List Bool)(T:List cH):∀i,(eD L T i).length=T.length
 |0=>rfl
 |i+1=>by rw[eD,bf];exact i3 L T i
theorem p6 (L:List Bool)(T:List cH):∀(i j:Nat),i<=T.length->j<T.length->(eD L T i).getD j t0=if j<i then eK L j (T.getD j t0) else T.getD j t0
 |0,j,_,_=>by rfl
 |i+1,j,hi,b=>by
  rw[eD,aG,List.getElem?_set];by_cases e:i=j
  ·subst e;rw[aJ rfl,aJ (by rw[i3];exact b),aJ aa];rfl
  ·rw[aH e,<-aG,(p6 L T i j aa b)];by_cases c:j<i
   ·rw[aJ c,aJ aa]
   ·rw[aH c,aH aa]
theorem wT (T:List cH)(L:List Bool)(h:∀i,(T.getD i t0).2.1.length<=12):∀i,0<=gY T L i/\gY T L i<=13*i
 |0=>by simp[gY]
 |i+1=>by
  have b:=wT T L h i;have:=h i;unfold gY;split
  ·omega
  ·omega
section
variable {T:List cH}{wt:List b9}{g:List Bool->List Bool}
structure fV (T:List cH)(L:List Bool):Prop where
 len:L.length=T.length
 al:∀k,cw L k->cI T k
theorem ed.ok (hg:ed T wt g)(c:gD T wt){L:List Bool}(h:fV T L):fV T (g L)/\∀k,cw L k->cw (g L) k:=by have b:=hg L h.len h.al;exact⟨⟨b.len.trans h.len,fun k hk=>b.lt _ c.cls h.al k hk⟩,b.up⟩
theorem fV.put {L:List Bool}(h:fV T L){x:Nat}(b:cI T x):fV T (L.set x true)/\cw (L.set x true) x/\∀k,cw L k->cw (L.set x true) k:=by
 have hl:x<L.length:=by rw[h.len];exact b.1
 refine⟨⟨by rw[bf];exact h.len,fun k hk=>?_⟩,?_,fun k hk=>?_⟩
 ·unfold cw at hk;rw[kl _ _ _ hl] at hk;split at hk
  ·rename_i e;rw[<-e];exact b
  ·exact h.al k hk
 ·unfold cw;rw[kl _ _ _ hl,aJ rfl]
 ·unfold cw at hk⊢;rw[kl _ _ _ hl];split
  ·rfl
  ·exact hk
theorem fV.d8 (hg:ed T wt g)(c:gD T wt){L:List Bool}(h:fV T L){x:Int}(d:cI T x.toNat):fV T (d8 g L x)/\cw (d8 g L x) x.toNat/\∀k,cw L k->cw (d8 g L x) k:=by obtain⟨e,f,i⟩:=h.put d;obtain⟨q1,b⟩:=hg.ok c e;exact⟨q1,b _ f,fun k hk=>b _ (i k hk)⟩
end
def km (w:aw)(c:Option Addr)(L:List Bool):Prop:=0<L.length->∃b,c=an b/\b<w.heap.size/\∀i,i<L.length->w.cell? (ao b i)=some (.bool (L.getD i false))
theorem km.below {w w':aw}{c:Option Addr}{L:List Bool}(h:km w c L)(hb:Below w.heap.size w w'):km w' c L:=fun hp=>by obtain⟨b,e,d,f⟩:=h hp;exact⟨b,e,aO d hb.size,fun i hi=>(hb.cell d).trans (f i hi)⟩
theorem oG {w:aw}{base:Nat}{e:TypeId}{d:Option Addr}{f:Nat}{L:List Bool}(h:w.ownsRow base e 1 (.slice d L.length f) L.length (L.map Value.bool)):km w d L:=fun hp=>by
 obtain⟨b,c,g⟩:=d4 h hp;cases g;refine⟨b,rfl,(cg h b rfl).2,fun i hi=>?_⟩
 have j:(L.map Value.bool)[i]?=some (.bool (L.getD i false)):=by rw[bv,aI hi,aG,aI hi];rfl
 exact(fe h j).1
structure fW (w:aw)(ob:Nat)(ad:Option Addr)(c base:Nat)(L:List Bool):Prop where
 blk:w.heap[ob]?=some (.cells #[.slice ad L.length c] 79 (0,0))
 row:w.ownsRow base 4 1 (.slice ad L.length c) L.length (L.map Value.bool)
theorem fW.keep {w w':aw}{b:Nat}{d:Option Addr}{c base:Nat}{L:List Bool}(h:fW w b d c base L)(e:w'.heap[b]?=w.heap[b]?)(f:∀k,some k=(Value.slice d L.length c).ownBlock->w'.heap[k]?=w.heap[k]?):fW w' b d c base L:=⟨e.trans h.blk,cy h.row f⟩
theorem fW.below {w w':aw}{b:Nat}{d:Option Addr}{c base:Nat}{L:List Bool}(h:fW w b d c base L)(hb:Below w.heap.size w w'):fW w' b d c base L:=h.keep (hb.block b (lt_of_some h.blk)) (fun k e=>hb.block k (cg h.row k e).2)
theorem fW.ne {w:aw}{b:Nat}{d:Option Addr}{c base:Nat}{L:List Bool}(h:fW w b d c base L):∀k,some k=(Value.slice d L.length c).ownBlock->k≠b:=fun k e f=>by obtain⟨g,hc⟩:=d6 h.row k e;rw[f,h.blk] at hc;simp at hc
theorem si:(prog.info? 4).map (fun i=>(i.zero,i.size,i.bytes))=some (some (.bool false),1,1):=ah
theorem oH {w:aw}{b k n:Nat}(h:w.ownsRow b 4 1 (.slice (an k) n n) n (madeCells (Value.bool false).cells (n*1)).toList):
 w.ownsRow b 4 1 (.slice (an k) n n) n ((List.replicate n false).map Value.bool):=by
 have e:(madeCells (Value.bool false).cells (n*1)).toList=(List.replicate n false).map Value.bool:=by show(madeCells #[Value.bool false] (n*1)).toList=_;rw[toList_madeCells_one];simp
 rwa [e] at h
def Lq (w:aw)(c:Option Addr)(l:List Int):Prop:=iI w c l/\(0<l.length->∃b o d,c=some ⟨b,o,none⟩/\w.heap[b]?=some (.cells d 2 (0,0)))
theorem Lq.kf {B:Nat}{w w':aw}{ad:Option Addr}{l:List Int}(h:Lq w ad l)(k:Kf B w w'):Lq w' ad l:=by exact v_
theorem Lq.of {w:aw}{base c:Nat}{b:Option Addr}{l:List Int}(h:w.ownsRow base 2 1 (.slice b l.length c) l.length (l.map (Value.int .i64))):Lq w b l:=by
 refine⟨gV h,fun hp=>?_⟩
 exact vf
section
variable {w0 w:aw}{kb cr pw n:Nat}{T:List Int}{kd:Int->Int}{sh:Int->List Int}{M:cP->Int->cP}{s:cP}{vn:Value}{m:List du}
theorem sj (hM:nm w0 kb cr pw T M n)(ap:kg T kd sh n M)(h:Wk w0 w kb cr pw T s vn m)(ar:eU T s)(bs:T.length<=s.1.length+n)(l:List Int)(ax:Option Addr)(bt:Nat)(hl:Lq w ax l)(hm:l.length<=100000):
 Calls prog 65 #[am kb,.slice ax l.length bt] w fun e w'=>∃bx B a2 c2,e=.returned (.slice a2 l.length c2)/\w'.ownsRow w.heap.size 97 2 (.slice a2 l.length c2) l.length (ev (dh M T s l).1)/\Wk w0 w' kb cr pw T (dh M T s l).2 bx B/\ff w0 w m w' B/\(∀k,fF B k->some k≠(Value.slice a2 l.length c2).ownBlock):=by
 obtain⟨aB,hi,aF,aR,aT⟩:=info_parts my;have b0:=hide hM;have b1:=hide ap;have b2:=hide hl;have F:=hide h;have b3:=hide ar;clear hM ap hl h ar;go_enter func65,ntmps65;go_wp2_with (at_make;refine wpList_make_own _ rfl _ _ 57 rfl w.heap.size 97 aB (.agg #[ak 0,ak 0]) 2 underlying57 hi aF aR .i64 .i64 _ l.length rfl rfl rfl (by rw[aT];omega) (by unfold maxLen;omega) bY ?_;intro w1 b5 b6)
 have aV:=(au w).grown b6 bY (fun k e=>by cases e)
 go_loopw [5,13] (fun tv iv wr=>∃(j:Nat)(f:List (Int×Int))(s1:cP)(N:Value)(m1:List du)(a2:Option Addr)(c2:Nat),j<=l.length/\iv=ak j/\ay (dh M T s (l.take j)=(f,s1))/\tv=.slice a2 j c2/\wr.ownsRow w.heap.size 97 2 (.slice a2 j c2) j (ev f)/\ay (Wk w0 wr kb cr pw T s1 N m1)/\ay (ff w0 w m wr m1)/\ay (∀k,fF m1 k->some k≠(Value.slice a2 j c2).ownBlock)/\ay (eU T s1/\T.length<=s1.1.length+n)) (fun _ iv _=>l.length-(intOf iv).toNat)
 ·exact⟨0,[],s,vn,m,_,_,aX _,rfl,rfl,rfl,b5,F.o.below aV,ff.of aV,fun k hk e=>by have:=F.o.fb k hk;simp[Value.ownBlock] at e;omega,⟨b3.o,bs⟩⟩
 ·
   obtain⟨j,f,s1,N,m1,a2,c2,b,rfl,S,rfl,i,W,p,ab,g⟩:=hrel;by_cases a0:j<l.length
   ·obtain⟨cj,ck,b7,cl,hc⟩:=(b2.o.kf p.o.1).1 aa;have a1:=hc j a0;subst b7;clear hc;have d:=od M T s (l.take j) (l.getD j 0)
    rw[<-fE l j a0 0,S.o] at d;have d:=hide d;generalize l.getD j 0=x at a1 d;have P:=Cy b0.o W.o g.o.1 g.o.2 x;have G:=pK b1.o g.o.1 g.o.2 x;have a3:ay (eU T (dw M T s1 x).2/\T.length<=(dw M T s1 x).2.1.length+n):=⟨G.ok,by have:=G.le;have:=g.o.2;omega⟩
    clear G;generalize (dw M T s1 x).2=s2 at P d a3;obtain⟨u,v,bb⟩:∃u v,(dw M T s1 x).1=(u,v):=⟨_,_,rfl⟩
    rw[bb] at P d;clear bb;go_wp2_with fail;refine P.mono ?_;rintro e ad ⟨b8,ag,rfl,bd,q⟩
    have be:=cy i (fun k hk=>by obtain⟨bg,ai⟩:=d6 i k hk;exact q.1.fR k _ _ _ ai ae ae)
    have bi:ay (∀k,fF ag k->some k≠(Value.slice a2 j c2).ownBlock):=fun k hk e=>(q.2 k hk).elim (fun c=>ab.o k c e) (fun c=>by have:=(cg i k e).2;omega)
    have bl:=hide (p.o.trans q)
    have cm:=bl.o.1.size;have bn:=hide bd;clear i q p ab W g a1 bd;have t:=hide be;go_wp2_with (at_builtin;refine wpList_append_own_at _ rfl _ _ 57 rfl w.heap.size 97 aB (.agg #[ak 0,ak 0]) 2 16 underlying57 hi aF aR aT rfl ae (.slice a2 j c2) j (ev f) rfl (gb be _) ⟨ad.heap.size,0,none⟩ 1 1 [ak u,ak v] rfl rfl ?_ ?_ ?_ ?_ ?_ ?_;(intro j u b;match j,b with|0,b=>(simp at b;subst b;simp[Addr.add])|1,b=>(simp at b;subst b;simp[Addr.add]));(intro u o;simp at o;rcases o with o|o<;>(subst o;rfl));(unfold maxLen;omega);omega;(simp;omega);intro cn b9 bo ca _ cb;obtain⟨b4,bp,cc⟩:=d4 bo (Nat.succ_pos _);subst cc)
    have cd:b9.ownsRow w.heap.size 97 2 (.slice (an b4) (j+1) bp) (j+1) (ev (f++[(u,v)])):=by rw[kO];simpa[ev] using bo
    have al:=aq ad (.cells #[.int .i64 u,.int .i64 v] 97)
    have br:=(Fr.refl _ _).grown ca (fun k e=>aL e.symm)
    have ce:=hide ((bn.o.below al).but br (fun k _ e=>by obtain⟨bg,ai⟩:=d6 t.o k e;exact⟨⟨bg,(al.block k (cg t.o k e).2).trans ai⟩,fun c=>bi.o k c e,aS F.o.dx.size (cg t.o k e).1⟩))
    have cf:=hide ((bl.o.trans (ff.of al)).new br (fun k e=>(cg t.o k e).1))
    have ch:=cb.imp id (fun e=>by simpa[Value.ownBlock] using e)
    have ci:ay (∀k,fF ag k->some k≠some b4):=fun k hk e=>ch.elim (fun c=>bi.o k hk (e.trans c)) (fun c=>by have:=bn.o.fb k hk;simp at e;omega)
    go_wp2_with fail;go_roundw;exact⟨j+1,f++[(u,v)],s2,b8,ag,an b4,bp,aa,aj,d,rfl,cd,ce,cf,ci,a3⟩
    simp[intOf];omega
   ·obtain rfl:j=l.length:=aa;rw[ba] at S;go_wp2_with fail;go_ret;rw[S.o];exact⟨N,m1,a2,c2,rfl,i,W.o,p.o,ab.o⟩
end
end Go.Proofs.YtpkjkjhanlbcoaaGreat
