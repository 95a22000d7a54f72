import Derived.Test.YtpkjkjhanlbcoaaGreatJ02
import Derived.Maps.OwnSet
namespace Go.Proofs.YtpkjkjhanlbcoaaGreat
set_option maxRecDepth 100000
set_option maxHeartbeats 2000000
open Tryz
open Go.RowKit W
theorem r4 {P:Prop}(h:P:=by
 go_wp2_with fail;refine P.mono ?_;clear P;rintro e w1 ⟨rfl,hb1⟩
 have y1:=(hb1.cell (p:=ao pw 0) ig).trans c0;go_wp2_with fail;refine(kk.o w1 hb1).mono ?_;rintro e w2 ⟨rfl,W2,F2⟩
 clear y1;go_wp2_with fail;refine(nl.o w2).mono ?_;rintro e w3 ⟨rfl,hb3⟩
 have W3:=W2.o.below hb3;have mh:=F2.o.trans (Fr.of (X:=fun k=>k=p\/k=q\/k=pc\/k=cQ) hb3) (fun _ c=>aL c)
 obtain⟨y0,y1,_,_,l3⟩:=W3.cells;clear y0 y1;go_wp2_with fail;go_ret;exact⟨rfl,W3,mh⟩):P:=h
theorem a5 (w:aw)(a b:Addr)(v:Value)(h:a ≠ b):(w.setCell a v).cell? b = w.cell? b:=by intros;apply World.cell?_setCell_other<;>assumption
theorem a8 (w:aw)(a:Addr)(v:Value){u:Value}(h:w.cell? a = some u):(w.setCell a v).cell? a = some v:=by intros;apply World.cell?_setCell_same<;>assumption
theorem kS {P:Prop}(h:P:=by rw[hW0,a5 _ _ _ _ ac];exact a8 _ _ _ y0):P:=h
theorem v8 {P:Prop}(h:P:=by
 go_enter func171,ntmps171;go_wp2_with fail;refine(kj w HA.o).mono ?_;rintro e w1 ⟨rfl,hb1⟩
 have y1:=(hb1.cell (p:=ao pw 0) ig).trans hc;go_wp2_with fail;refine(me w1 (HA.o.below hb1 bY)).mono ?_;rintro e w2 ⟨rfl,hb2⟩
 have el:=hb1.trans (hb2.mono hb1.size)
 have y2:=(el.cell (p:=ao pw 0) ig).trans hc;have P:=l_ a w2 (HA.o.below el bY)
 rw[ho] at P;go_wp2_with fail;refine P.mono ?_;rintro e w3 ⟨rfl,hb3⟩
 have jq:=el.trans (hb3.mono el.size)
 go_wp2_with fail;go_ret;exact⟨rfl,jq⟩):P:=h
theorem v9 {P:Prop}(h:P:=by
 go_enter func92,ntmps92;go_wp2_with fail;refine P.mono ?_;rintro e w1 ⟨rfl,hb1⟩
 have y1:=(hb1.cell (p:=ao pw 0) ig).trans hc;go_wp2_with fail;refine(K.o w1 hb1).mono ?_;rintro e w2 ⟨rfl,hb2⟩
 have el:=hb1.trans (hb2.mono hb1.size)
 go_wp2_with fail;refine(kk.o w2 el).mono ?_;rintro e w3 ⟨rfl,hb3⟩
 have jq:=el.trans (hb3.mono el.size)
 go_wp2_with fail
 go_ret3
 exact⟨rfl,jq⟩):P:=h
theorem v_ {P:Prop}(h:P:=by
 have hk:0<l.length->∀b,ad=some b->w'.heap[b.block]?=w.heap[b.block]?:=fun hp b e=>by obtain⟨b0,o0,cs,e0,hb⟩:=h.2 hp;rw[e0] at e;cases e;exact k.fR _ _ _ _ hb ae ae
 refine⟨h.1.keep k.size hk,fun hp=>?_⟩
 obtain⟨b0,o0,cs,e0,hb⟩:=h.2 hp;exact⟨b0,o0,cs,e0,(hk hp _ e0).trans hb⟩):P:=h
theorem wh {P:Prop}(h:P:=by
 go_enter func92,ntmps92;go_wp2_with fail;refine P.mono ?_;rintro e w1 ⟨rfl,hb1⟩
 have y1:=(hb1.cell (p:=ao pw 0) ig).trans hc;go_wp2_with fail;refine(K.o w1 hb1).mono ?_;rintro e w2 ⟨rfl,hb2⟩
 have el:=hb1.trans (hb2.mono hb1.size)
 go_wp2_with fail
 go_ret3
 exact⟨rfl,el⟩):P:=h
theorem r5 {P:Prop}(h:P:=by rw[hW0];exact a8 _ _ _ ((a5 w1 ⟨w.heap.size,0,none⟩ ⟨w.heap.size,1,none⟩ _ ac).trans y1)):P:=h
theorem wi {P:Prop}(h:P:=by rw[hW0];exact a8 _ _ _ ((a5 w3 ⟨w.heap.size,0,none⟩ ⟨w.heap.size,1,none⟩ _ ac).trans y1)):P:=h
theorem iD {N y g:Nat}{ws:List Int}{hi:Int}:∀(k:Nat)(a:Int),(eH N y g ws hi k a).length<=k
 |0,_=>by simp[eH]
 |k+1,a=>by
  have b:=iD (N:=N) (y:=y) (g:=g) (ws:=ws) (hi:=hi) k (a+(1+pf (ld N y g ws a)))
  unfold eH;split
  ·split
   ·rw[List.length_cons];omega
   ·simp
  ·simp
section
variable {pw p q N O y g:Nat}{ws:List Int}
theorem wj (x:Int)(w:aw)(hc:w.cell? (ao pw 0)=some (am p))(h:At w p q N O y g ws):
 Calls prog 101 #[am pw,ak x] w fun e w'=>e=.returned (.tuple #[ak (jv N y g ws x),.bool (tB N y g ws x)])/\Below w.heap.size w w':=
 B7 x w hc h (aS (iD _ _) ae) (aS (iD _ _) ae)
theorem B8 (x:Int)(w:aw)(hc:w.cell? (ao pw 0)=some (am p))(h:At w p q N O y g ws):
 Calls prog 48 #[am pw,ak x] w fun e w'=>e=.returned (.tuple #[ak (if tB N y g ws x=true then pk (ld N y g ws (cj x)) else 0),ak (if tB N y g ws x=true then pf (ld N y g ws (cj x)) else 0),ak (if tB N y g ws x=true then pc (ld N y g ws (cj x)) else 2)])/\Below w.heap.size w w':=by
 have c:=hide h;have d:=aM w _ hc;have P:=wj x w hc h;cases ht:tB N y g ws x
 ·rw[ht] at P;simp only [Bool.false_eq_true,if_false];generalize jv N y g ws x=v at P;go_enter func48,ntmps48;go_wp2_with fail;refine P.mono ?_;rintro e w1 ⟨rfl,b⟩
  go_wp2_with fail
  go_ret3
  exact⟨rfl,b⟩
 ·rw[ht] at P;have ev:jv N y g ws x=cj x:=by simp[jv,ht]
  rw[ev] at P;simp only [if_true];generalize cj x=v at P;go_enter func48,ntmps48;go_wp2_with fail;refine P.mono ?_;rintro e w1 ⟨rfl,b⟩
  have y1:=(b.cell (p:=ao pw 0) d).trans hc;go_wp2_with fail;refine(f6 v w1 (c.o.below b bY)).mono ?_;rintro e j ⟨rfl,f⟩
  have i:=b.trans (f.mono b.size)
  go_wp2_with fail
  go_ret3
  exact⟨rfl,i⟩
def ii (N y g:Nat)(a f:Int):Int:=min f ((if hB N g a=true then(N:Int)+g else(y:Int))-a-1)
theorem wm (a f:Int)(w:aw)(hc:w.cell? (ao pw 0)=some (am p))(h:At w p q N O y g ws)(a0:0<=a)(a1:a<=100000):
 Calls prog 171 #[am pw,ak a,ak f] w fun e w'=>e=.returned (ak (ii N y g a f))/\Below w.heap.size w w':=by
 have HA:ay (At w p q N O y g ws):=h;have ig:=aM w _ hc;have k1:=h.hN';have c:=h.hy;have d:=h.hO;have i:=h.hg;clear h;unfold ii;cases ho:hB N g a
 ·simp only [Bool.false_eq_true,if_false];by_cases hm:f<=(y:Int)-a-1
  ·rw[Int.min_eq_left hm];have b:¬((y:Int)-a-1<f):=aa;go_enter func171,ntmps171;go_wp2_with fail;refine(kj w HA.o).mono ?_;rintro e w1 ⟨rfl,hb1⟩
   have y1:=(hb1.cell (p:=ao pw 0) ig).trans hc;go_wp2_with fail;refine(me w1 (HA.o.below hb1 bY)).mono ?_;rintro e w2 ⟨rfl,hb2⟩
   have el:=hb1.trans (hb2.mono hb1.size)
   have y2:=(el.cell (p:=ao pw 0) ig).trans hc;clear y1;have P:=l_ a w2 (HA.o.below el bY)
   rw[ho] at P;go_wp2_with fail;refine P.mono ?_;clear P;rintro e w3 ⟨rfl,hb3⟩
   have jq:=el.trans (hb3.mono el.size)
   clear y2 hb1 hb2 el hb3;go_wp2_with fail;go_ret;exact⟨rfl,jq⟩
  ·rw[Int.min_eq_right aa];have b:(y:Int)-a-1<f:=aa;go_enter func171,ntmps171;go_wp2_with fail;refine(kj w HA.o).mono ?_;rintro e w1 ⟨rfl,hb1⟩
   have y1:=(hb1.cell (p:=ao pw 0) ig).trans hc;go_wp2_with fail;refine(me w1 (HA.o.below hb1 bY)).mono ?_;rintro e w2 ⟨rfl,hb2⟩
   have el:=hb1.trans (hb2.mono hb1.size)
   have y2:=(el.cell (p:=ao pw 0) ig).trans hc;clear y1;have P:=l_ a w2 (HA.o.below el bY)
   rw[ho] at P;go_wp2_with fail;refine P.mono ?_;rintro e w3 ⟨rfl,hb3⟩
   have jq:=el.trans (hb3.mono el.size)
   go_wp2_with fail;go_ret;exact⟨rfl,jq⟩
 ·simp only [if_true];by_cases hm:f<=(N:Int)+g-a-1
  ·rw[Int.min_eq_left hm];have b:¬((N:Int)+g-a-1<f):=aa;exact v8
  ·rw[Int.min_eq_right aa];exact v8
end
theorem dp (h:Int):0<=pf h/\pf h<=12:=by
 unfold pf;split
 ·have:=iH _ _ (by assumption)
  omega
 ·omega
theorem mm {N y g:Nat}{ws:List Int}{hi:Int}:∀(k:Nat)(a x:Int),x∈eH N y g ws hi k a->a<=x/\x<hi
 |0,_,_,h=>by simp[eH] at h
 |k+1,a,x,h=>by
  unfold eH at h;split at h
  ·split at h
   ·rcases List.mem_cons.1 h with h|h
    ·rw[h];exact⟨Int.le_refl _,by assumption⟩
    ·have b:=mm k _ x h;have c:=dp (ld N y g ws a)
     omega
   ·simp at h
  ·simp at h
theorem wn {N O y g:Nat}{ws:List Int}{x:Int}(h:tB N y g ws x=true)(hN:N<=256)(hy:y<=N)(hO:O<=1024)(hg:g<=O):0<=cj x/\cj x<=1280:=by
 unfold tB at h;simp only [Bool.and_eq_true,Bool.or_eq_true,List.contains_iff_mem] at h;rcases h.2 with h|h
 ·have:=mm _ _ _ h;omega
 ·have:=mm _ _ _ h;omega
def dX (N y g:Nat)(ws:List Int)(x i:Int):Int:=
 if tB N y g ws x=true then(if pk (ld N y g ws (cj x))=5 then 2 else if i<0\/ii N y g (cj x) (pf (ld N y g ws (cj x)))<=i then 1 else 0) else 2
section
variable {pw p q N O y g:Nat}{ws:List Int}
theorem wu (x i:Int)(w:aw)(hc:w.cell? (ao pw 0)=some (am p))(h:At w p q N O y g ws):
 Calls prog 92 #[am pw,ak x,ak i] w fun e w'=>e=.returned (.tuple #[ak (if dX N y g ws x i=0 then cj x else 0),ak (if dX N y g ws x i=0 then cj x+1+i else 0),ak (dX N y g ws x i)])/\Below w.heap.size w w':=by
 have c:ay (At w p q N O y g ws):=h;have ig:=aM w _ hc;have P:=wj x w hc h;have k1:=h.hN';have l:=h.hy;have m:=h.hO;have n:=h.hg;cases ht:tB N y g ws x
 ·rw[ht] at P;have b:dX N y g ws x i=2:=by unfold dX;rw[ht,aH ac]
  rw[b,aH ae,aH ae];generalize jv N y g ws x=v at P;go_enter func92,ntmps92;go_wp2_with fail;refine P.mono ?_;rintro e w1 ⟨rfl,hb1⟩
  go_wp2_with fail
  go_ret3
  exact⟨rfl,hb1⟩
 ·obtain⟨d,b1⟩:=wn (O:=O) ht k1 l m n;have j:=dp (ld N y g ws (cj x))
  rw[ht] at P;have ev:jv N y g ws x=cj x:=by simp[jv,ht]
  rw[ev] at P;have b:dX N y g ws x i=if pk (ld N y g ws (cj x))=5 then 2 else if i<0\/ii N y g (cj x) (pf (ld N y g ws (cj x)))<=i then 1 else 0:=by unfold dX;rw[aJ ht]
  rw[b];generalize cj x=v at P j d b1;have K:ay (∀w1,Below w.heap.size w w1->_):=fun w1 hb=>f6 v w1 (c.o.below hb bY)
  have kk:ay (∀w1,Below w.heap.size w w1->Calls prog 171 #[am pw,ak v,ak (pf (ld N y g ws v))] w1 fun e w'=>e=.returned (ak (ii N y g v (pf (ld N y g ws v))))/\Below w1.heap.size w1 w'):=fun w1 hb=>wm v _ w1 ((hb.cell (p:=ao pw 0) ig).trans hc) (c.o.below hb bY) d aa;have o:ii N y g v (pf (ld N y g ws v))<=12:=by unfold ii;exact Int.le_trans (Int.min_le_left _ _) j.2
  generalize ii N y g v (pf (ld N y g ws v))=s at kk o⊢;generalize pk (ld N y g ws v)=kd at K⊢;generalize pf (ld N y g ws v)=f at K kk;generalize pc (ld N y g ws v)=cc at K;by_cases k:kd=5
  ·subst k;rw[aJ rfl,aH ae,aH ae];exact wh
  ·rw[aH k];by_cases hi:i<0
   ·rw[aJ (aL hi),aH ae,aH ae];exact wh
   ·by_cases hs:s<=i
    ·rw[aJ (aK hs),aH ae,aH ae];exact v9
    ·have t:¬(i<0\/s<=i):=aa;rw[aH t,aJ rfl,aJ rfl];exact v9
theorem ww (x i:Int)(w:aw)(hc:w.cell? (ao pw 0)=some (am p))(h:At w p q N O y g ws):
 Calls prog 45 #[am pw,ak x,ak i] w fun e w'=>e=.returned (.tuple #[ak (if dX N y g ws x i=0 then ld N y g ws (cj x+1+i) else 0),ak (dX N y g ws x i)])/\Below w.heap.size w w':=by
 have c:=hide h;have d:=aM w _ hc;have P:=wu x i w hc h;generalize dX N y g ws x i=cd at P⊢;by_cases h0:cd=0
 ·subst h0;rw[aJ rfl,aJ rfl] at P;rw[aJ rfl];generalize cj x+1+i=fl at P⊢;generalize cj x=v at P;go_enter func45,ntmps45;go_wp2_with fail;refine P.mono ?_;rintro e w1 ⟨rfl,b⟩
  have y1:=(b.cell (p:=ao pw 0) d).trans hc;go_wp2_with fail;refine(jr fl w1 (c.o.below b bY)).mono ?_;rintro e k ⟨rfl,f⟩
  have j:=b.trans (f.mono b.size)
  go_wp2;go_ret2;exact⟨rfl,j⟩
 ·rw[aH h0,aH h0] at P;rw[aH h0];go_enter func45,ntmps45;go_wp2_with fail;refine P.mono ?_;rintro e w1 ⟨rfl,b⟩
  go_wp2;go_ret2;exact⟨rfl,b⟩
end
def kT (M:List Int)(k:Int):List Int:=if M.contains k then M else M++[k]
theorem r6 (M:List Int)(k j:Int):(kT M k).contains j=(M.contains j||j==k):=by
 unfold kT;by_cases c:M.contains k=true
 ·rw[aJ c];by_cases e:j=k
  ·subst e;rw[c];rfl
  ·simp[e]
 ·rw[aH c];by_cases e:j=k<;>simp[e]
theorem B9 (M:List Int)(k:Int):(kT M k).length<=M.length+1:=by unfold kT;split<;>simp
theorem r7:Maps.Keyed prog 173:=Maps.int_keyed underlying173
theorem B_ (w:aw):(zeroValue 212).run prog w=.ok (.agg #[]) w:=ah
structure Cd (w:aw)(p q:Nat)(B c:Int)(M:List Int):Prop where
 hp:w.heap[p]?=some (.cells #[ak B,.int .u64 c,.map (some q)] 176 (0,0))
 hq:∃D:DataW Unit,w.ownsMap prog 173 unitElem q M.length D/\(∀k:Int,Maps.has D (.int .u64 k)=M.contains k)/\Maps.size D=M.length
theorem r8 {H:Type}{P:Program}{k:TypeId}{R:Value->Option _}{w w':aw}{b n:Nat}{D:DataW H}(h:w.ownsMap P k R b n D)(e:w'.heap[b]?=w.heap[b]?):w'.ownsMap P k R b n D:=by obtain⟨c,d,hb,r⟩:=h;exact⟨c,d,e.trans hb,r⟩
theorem r9 {H:Type}{P:Program}{k:TypeId}{R:Value->Option _}{w:aw}{b n m:Nat}{D:DataW H}(h:w.ownsMap P k R b n D)(e:Maps.size D=m):w.ownsMap P k R b m D:=by obtain⟨c,d,hb,F,hs,rfl⟩:=h;exact⟨c,d,hb,F,by rw[<-e];simp[Maps.size,length_sorted],rfl⟩
theorem Cd.eO {w:aw}{p q:Nat}{B c:Int}{M:List Int}(h:Cd w p q B c M):p<w.heap.size:=lt_of_some h.hp
theorem Cd.eP {w:aw}{p q:Nat}{B c:Int}{M:List Int}(h:Cd w p q B c M):q<w.heap.size:=by obtain⟨D,b,_⟩:=h.hq;exact b.lt
theorem Cd.ne {w:aw}{p q:Nat}{B c:Int}{M:List Int}(h:Cd w p q B c M):p≠q:=by intro e;obtain⟨D,⟨d,f,hb,_⟩,_⟩:=h.hq;have b:=h.hp;rw[e,hb] at b;simp at b
theorem Cd.same {w w':aw}{p q:Nat}{B c:Int}{M:List Int}(h:Cd w p q B c M)(ep:w'.heap[p]?=w.heap[p]?)(eq:w'.heap[q]?=w.heap[q]?):Cd w' p q B c M:=by obtain⟨D,b,d⟩:=h.hq;exact⟨ep.trans h.hp,D,r8 b eq,d⟩
theorem Cd.below {w w':aw}{p q X:Nat}{B c:Int}{M:List Int}(h:Cd w p q B c M)(hb:Below X w w')(b:w.heap.size<=X):Cd w' p q B c M:=
 h.same (hb.block p (aO h.eO b)) (hb.block q (aO h.eP b))
theorem Cd.cells {w:aw}{p q:Nat}{B c:Int}{M:List Int}(h:Cd w p q B c M):
 w.cell? (ao p 0)=some (ak B)/\w.cell? (ao p 1)=some (.int .u64 c)/\w.cell? (ao p 2)=some (.map (some q)):=by
 have hp:=h.hp;refine⟨?_,?_,?_⟩<;>simp[World.cell?,hp]
theorem Cd.put {w w':aw}{p q:Nat}{B c k:Int}{M:List Int}{D:DataW Unit}{n:Nat}(h:w.heap[p]?=some (.cells #[.int .i64 B,.int .u64 c,.map (some q)] 176 (0,0)))
 (h0:w.ownsMap prog 173 unitElem q M.length D)(d:∀k:Int,Maps.has D (.int .u64 k)=M.contains k)(f:Maps.size D=M.length)(g:p≠q)
 (l:w'.ownsMap prog 173 unitElem q n (D.put (.int .u64 k) (.agg [])))(b:w.grownBy w' (some q)):Cd w' p q B c (kT M k)/\c_ p q w w':=by
 have hs:Maps.size (D.put (.int .u64 k) (.agg []))=(kT M k).length:=by rw[Maps.size_put (h0.tidy r7),d,f];unfold kT;split<;>simp
 refine⟨⟨(b.block p (lt_of_some h) (fun e=>g (by cases e;rfl))).trans h,_,r9 l hs,fun j=>?_,hs⟩,⟨b.os,b.tape,b.output,b.size,fun i hi _ e=>b.block i hi (fun m=>e (by cases m;rfl))⟩⟩
 rw[r6];by_cases e:j=k
 ·subst e;rw[Maps.has_put_same (k:=.int .u64 j) h0.isMap trivial];simp
 ·rw[Maps.has_put_other (by simpa using e),d];simp[e]
theorem Cd.none {w:aw}{p q:Nat}{B c:Int}(h:w.heap[p]?=some (.cells #[.int .i64 B,.int .u64 c,.map (some q)] 176 (0,0)))(b:w.ownsMap prog 173 unitElem q 0 (.map []:DataW Unit)):Cd w p q B c []:=
 ⟨h,_,b,fun _=>rfl,rfl⟩
def dY (x:Int):Int:=if x<0 then 0 else(x+8-1)/8
def cN (B a:Int):Int:=if a<B then 0 else(a-B)/8
def fU (B c a:Int):Bool:=decide (B<=a)&&decide ((a-B)/8<c)
theorem Ca (x:Int)(w:aw)(h:x<=100000):Calls prog 166 #[ak x] w fun e w'=>e=.returned (.int .u64 (dY x))/\w'=w:=by
 by_cases c:x<0
 ·have e:dY x=0:=by unfold dY;rw[aJ c]
  rw[e];go_enter func166,ntmps166;go_wp2;go_ret;exact⟨rfl,rfl⟩
 ·have e:dY x=(x+8-1)/8:=by unfold dY;rw[aH c]
  go_wp2;go_ret;exact⟨rfl,rfl⟩
theorem bA {p:Prop} [Decidable p]:¬p -> Decidable.decide p = Bool.false:=decide_eq_false
theorem bq {p:Prop} [inst:Decidable p]:p -> Decidable.decide p = Bool.true:=decide_eq_true
theorem wx {p q:Nat}{B c:Int}{M:List Int}(a:Int)(w:aw)(h:Cd w p q B c M)(hB:0<=B)(d:B<=100000)(ha:a<=9223372036854775807):
 Calls prog 175 #[am p,ak a] w fun e w'=>e=.returned (.tuple #[.int .u64 (cN B a),.bool (fU B c a)])/\Below w.heap.size w w':=by
 obtain⟨c0,c1,c2⟩:=h.cells;by_cases hc:a<B
 ·have e:fU B c a=false:=by unfold fU;rw[bA aa];rfl
  have b:cN B a=0:=by unfold cN;rw[aJ hc]
  rw[e,b];go_enter func175,ntmps175;go_wp2;go_ret2;exact⟨rfl,aE _ _⟩
 ·have e:fU B c a=decide ((a-B)/8<c):=by unfold fU;rw[bq aa];rfl
  have b:cN B a=(a-B)/8:=by unfold cN;rw[aH hc]
  rw[e,b];go_enter func175,ntmps175;exact rV
def kU (B c a:Int)(M:List Int):List Int:=if fU B c a then kT M (cN B a) else M
theorem wy {B c a:Int}{M:List Int}(h:fU B c a=true):kU B c a M=kT M (cN B a):=by unfold kU;rw[aJ h]
theorem Cb {B c a:Int}{M:List Int}(h:fU B c a=false):kU B c a M=M:=by unfold kU;rw[aH (by rw[h];simp)]
theorem wz {B a:Int}(hB:0<=B)(ha:a<=9223372036854775807):(Lit.int .u64 (cN B a)).wf=true:=by
 unfold cN;split
 ·decide
 ·have b:0<=(a-B)/8:=aa;exact WalkArith.wf_u64 ⟨b,aa⟩
theorem Ce {p q:Nat}{B c:Int}{M:List Int}(a:Int)(w:aw)(h:Cd w p q B c M)(hB:0<=B)(f:B<=100000)(ha:a<=9223372036854775807)(hM:M.length<=100000):
 Calls prog 97 #[am p,ak a] w fun e w'=>e=.returned (.bool (fU B c a))/\Cd w' p q B c (kU B c a M)/\c_ p q w w':=by
 go_enter func97,ntmps97;go_wp2_with fail;refine(wx a _ h hB f ha).mono ?_;rintro e w1 ⟨rfl,d⟩
 have b:=h.below d bY
 obtain⟨c0,c1,c2⟩:=b.cells;obtain⟨D,o1,g,i⟩:=b.hq;cases hc:fU B c a
 ·go_wp2;go_ret;exact⟨by rw[hc];rfl,by rw[Cb hc];exact b,c_.of d⟩
 ·go_wp2_with (first
   |(at_mapUpdate;refine wpList_mapUpdate_own _ rfl _ _ _ 174 rfl 173 212 r7 underlying174 _ q M.length D rfl o1 (by unfold maxLen;omega) _ _ _ rfl rfl (Maps.keyOf_int_mk (P:=prog) underlying173 (wz (B:=B) (a:=a) hB ha)) _ [] unitElem_mk ?_;intro m j k)
   |go_in)
  go_ret;obtain⟨l,s2⟩:=Cd.put b.hp o1 g i b.ne j k;exact⟨by rw[hc];rfl,by rw[wy hc];exact l,(c_.of d).trans s2⟩
theorem Cf {p q:Nat}{B c:Int}{M:List Int}(a:Int)(w:aw)(h:Cd w p q B c M)(hB:0<=B)(f:B<=100000)(ha:a<=9223372036854775807):
 Calls prog 184 #[am p,ak a] w fun e w'=>e=.returned (.bool (fU B c a&&M.contains (cN B a)))/\Below w.heap.size w w':=by
 go_enter func184,ntmps184;go_wp2_with fail;refine(wx a _ h hB f ha).mono ?_;rintro e w1 ⟨rfl,b⟩
 have d:=h.below b bY
 obtain⟨c0,c1,c2⟩:=d.cells;obtain⟨D,o1,g,i⟩:=d.hq;cases hc:fU B c a
 ·go_wp2;go_ret;exact⟨by rw[hc];rfl,b⟩
 ·go_wp2_with (first
   |(at_lookup;refine wpList_lookup_own_unit _ rfl _ _ 174 rfl 173 212 r7 underlying174 (B_ _) q M.length D rfl o1 _ _ rfl (Maps.keyOf_int_mk underlying173 (wz (a:=a) hB ha)) ?_)
   |go_in)
  go_ret;exact⟨by rw[hc];simp,b.alloc b.size _⟩
theorem r_ {p:Nat}{B c:Int}{v:Value}(w:aw)(h:w.heap[p]?=some (.cells #[ak B,.int .u64 c,v] 176 (0,0))):
 Calls prog 115 #[am p] w fun e w'=>e=.returned (.tuple #[])/\Cd w' p w.heap.size B c []/\c_ p p w w':=by
 have b:=@run_makeMap prog;have hp:=lt_of_some h;have d:(w.alloc (.map #[] 0)).frozen? (ao p 2)=false:=by simp[World.frozen?,Below.heap_alloc _ _ _ hp,h]
 have hc:(w.alloc (.map #[] 0)).cell? (ao p 2)=some v:=by simp[World.cell?,Below.heap_alloc _ _ _ hp,h]
 go_enter func115,ntmps115;go_wp2_with fail;go_end0;have hm:=World.ownsMap_made (w.setCell ⟨p,2,none⟩ (.map (some w.heap.size))) prog 173 (unitElem (H:=Unit))
 have hz:(w.setCell ⟨p,2,none⟩ (.map (some w.heap.size))).heap.size=w.heap.size:=by simp[World.setCell]
 rw[hz] at hm;refine⟨rfl,Cd.none ((a4 _ _ _ aa).trans ?_) hm,(c_.oh _ _).trans (c_.of (bZ.alloc bY _))⟩
 simp only [World.setCell,Array.getElem?_modify,if_true,h,Option.map_some];simp
theorem Cg (B x:Int)(w:aw)(h:x<=100000):
 Calls prog 87 #[ak B,ak x] w fun e w'=>∃p q,e=.returned (am p)/\Cd w' p q B (dY x) []/\w.heap.size<=p/\w.heap.size<=q/\Below w.heap.size w w':=by
 go_enter func87,ntmps87;go_wp2_with fail;refine(Ca x _ h).mono ?_;rintro e w1 ⟨rfl,b⟩
 have b:=b.symm;subst b;go_wp2_with fail;refine(r_ (v:=.map none) _ (aN _ _)).mono ?_;rintro e d ⟨rfl,c,s2⟩
 go_wp2_with fail;go_ret;exact⟨_,_,rfl,c,aD _,ac,(bZ.alloc bY _).trans (s2.below ac bY bY)⟩
structure hG (w:aw)(pw p q pc cQ N O y g:Nat)(ws:List Int)(c:Int)(M:List Int)(vs vr:Value):Prop where
 blk:w.heap[pw]?=some (.cells #[am p,am pc,vs,vr] 55 (0,0))
 ar:At w p q N O y g ws
 cd:Cd w pc cQ N c M
section
variable {w w':aw}{pw p q pc cQ N O y g:Nat}{ws:List Int}{c:Int}{M:List Int}{vs vr:Value}
theorem hG.cells (h:hG w pw p q pc cQ N O y g ws c M vs vr):w.cell? (ao pw 0)=some (am p)/\w.cell? (ao pw 1)=some (am pc)/\w.cell? (ao pw 2)=some vs/\w.cell? (ao pw 3)=some vr/\pw<w.heap.size:=
 ⟨by simp[World.cell?,h.blk],by simp[World.cell?,h.blk],by simp[World.cell?,h.blk],by simp[World.cell?,h.blk],lt_of_some h.blk⟩
theorem hG.apart (h:hG w pw p q pc cQ N O y g ws c M vs vr):pw≠p/\pw≠q/\pw≠pc/\pw≠cQ/\p≠pc/\p≠cQ/\q≠pc/\q≠cQ:=by
 obtain⟨D,⟨j,k,hb,_⟩,_⟩:=h.cd.hq;have b:=h.blk;have d:=h.ar.hp;have f:=h.ar.hq;have i:=h.cd.hp;refine⟨fun e=>?_,fun e=>?_,fun e=>?_,fun e=>?_,fun e=>?_,fun e=>?_,fun e=>?_,fun e=>?_⟩
 ·rw[e,d] at b;simp at b
 ·rw[e,f] at b;simp at b
 ·rw[e,i] at b;simp at b
 ·rw[e,hb] at b;simp at b
 ·rw[e,i] at d;simp at d
 ·rw[e,hb] at d;simp at d
 ·rw[e,i] at f;simp at f
 ·rw[e,hb] at f;simp at f
theorem hG.below (h:hG w pw p q pc cQ N O y g ws c M vs vr)(hb:Below w.heap.size w w'):hG w' pw p q pc cQ N O y g ws c M vs vr:=
 ⟨(hb.block pw (lt_of_some h.blk)).trans h.blk,h.ar.below hb bY,h.cd.below hb bY⟩
theorem hG.arena (h:hG w pw p q pc cQ N O y g ws c M vs vr){b d:Nat}{e:List Int}(ha:At w' p q N O b d e)(s:c_ p q w w'):hG w' pw p q pc cQ N O b d e c M vs vr:=by obtain⟨a1,a2,l,m,f,i,j,k⟩:=h.apart;exact⟨(s.block pw (lt_of_some h.blk) a1 a2).trans h.blk,ha,h.cd.same (s.block pc h.cd.eO (Ne.symm f) (Ne.symm j)) (s.block cQ h.cd.eP (Ne.symm i) (Ne.symm k))⟩
theorem hG.cards (h:hG w pw p q pc cQ N O y g ws c M vs vr){b:List Int}(hc:Cd w' pc cQ N c b)(s:c_ pc cQ w w'):hG w' pw p q pc cQ N O y g ws c b vs vr:=by obtain⟨a1,a2,d,e,f,i,j,k⟩:=h.apart;exact⟨(s.block pw (lt_of_some h.blk) d e).trans h.blk,h.ar.same (s.block p h.ar.eO f i) (s.block q h.ar.eP j k),hc⟩
def f7 (N y g:Nat)(ws:List Int)(x i z:Int):List Int:=if dX N y g ws x i=0 then(if dm N y g (cj x+1+i)=true then ws.set (cj x+1+i).toNat z else ws) else ws
def mn (N y g:Nat)(ws:List Int)(x i z:Int):Bool:=decide (dX N y g ws x i=0)&&(c7 z&&hB 0 y (cj z)&&hB N g (cj x))
def stM (N y g:Nat)(ws:List Int)(x i z c:Int)(M:List Int):List Int:=if mn N y g ws x i z=true then kU N c (cj x) M else M
theorem Ch (x i z:Int)(h:hG w pw p q pc cQ N O y g ws c M vs vr)(hM:M.length<=100000):
 Calls prog 44 #[am pw,ak x,ak i,ak z] w fun e w'=>e=.returned (ak (dX N y g ws x i))/\hG w' pw p q pc cQ N O y g (f7 N y g ws x i z) c (stM N y g ws x i z c M) vs vr/\Fr (fun k=>k=p\/k=q\/k=pc\/k=cQ) w w':=by
 have H:ay (_):=h;obtain⟨c0,c1,_,_,ig⟩:=h.cells;have P:=wu x i w c0 h.ar;have k1:=h.ar.hN';have aF:=h.ar.hy;have aR:=h.ar.hO;have aT:=h.ar.hg;have a0:∀{a b:aw},c_ p q a b->Fr (fun k=>k=p\/k=q\/k=pc\/k=cQ) a b:=fun s=>⟨s.os,s.tape,s.output,s.size,fun k hk n=>s.block k hk (fun e=>n (aL e)) (fun e=>n (aK (aL e)))⟩
 have a1:∀{a b:aw},c_ pc cQ a b->Fr (fun k=>k=p\/k=q\/k=pc\/k=cQ) a b:=fun s=>⟨s.os,s.tape,s.output,s.size,fun k hk n=>s.block k hk (fun e=>n (aK (aK (aL e)))) (fun e=>n (aK (aK (aK e))))⟩
 clear h;by_cases h0:dX N y g ws x i=0
 ·have ht:tB N y g ws x=true:=by
   cases e:tB N y g ws x
   ·unfold dX at h0;rw[e,aH ac] at h0;omega
   ·rfl
  obtain⟨a2,b1⟩:=wn (O:=O) ht k1 aF aR aT;have F:f7 N y g ws x i z=if dm N y g (cj x+1+i)=true then ws.set (cj x+1+i).toNat z else ws:=by unfold f7;rw[aJ h0]
  have S:stM N y g ws x i z c M=if(c7 z&&hB 0 y (cj z)&&hB N g (cj x))=true then kU N c (cj x) M else M:=by unfold stM mn;rw[bq h0,Bool.true_and]
  rw[h0,aJ rfl,aJ rfl] at P;rw[h0,F,S];clear F S h0 ht;generalize cj x+1+i=fl at P⊢;generalize cj x=v at P a2 b1⊢;have kk:ay (∀w1,Below w.heap.size w w1->Calls prog 93 #[am p,ak fl,ak z] w1 fun e w'=>e=.returned (.bool (dm N y g fl))/\ay (hG w' pw p q pc cQ N O y g (if dm N y g fl=true then ws.set fl.toNat z else ws) c M vs vr)/\ay (Fr (fun k=>k=p\/k=q\/k=pc\/k=cQ) w w')):=fun w1 hb=>by
   have W:=H.o.below hb;refine(ki fl z w1 W.ar).mono ?_;rintro e w2 ⟨rfl,a3,s2⟩
   exact⟨rfl,W.arena a3 s2,(Fr.of (X:=fun k=>k=p\/k=q\/k=pc\/k=cQ) hb).trans (a0 s2) (fun _ c=>aL c)⟩
  have nl:ay (∀w2,_):=fun w2=>m9 z w2;generalize (if dm N y g fl=true then ws.set fl.toNat z else ws)=bi at kk⊢;generalize dm N y g fl=bl at kk;obtain⟨ad,ap⟩:∃b,c7 z=b:=⟨_,rfl⟩
  rw[ap] at nl⊢;clear ap;generalize cj z=u at nl⊢;cases hb2:hB 0 y u
  ·rw[Bool.and_false,Bool.false_and,aH ac];cases ad
   ·go_enter func44,ntmps44;exact r4
   ·go_enter func44,ntmps44;go_wp2_with fail;refine P.mono ?_;clear P;rintro e w1 ⟨rfl,hb1⟩
    have y1:=(hb1.cell (p:=ao pw 0) ig).trans c0;go_wp2_with fail;refine(kk.o w1 hb1).mono ?_;rintro e w2 ⟨rfl,W2,F2⟩
    clear y1;go_wp2_with fail;refine(nl.o w2).mono ?_;rintro e w3 ⟨rfl,hb3⟩
    have W3:=W2.o.below hb3;have mh:=F2.o.trans (Fr.of (X:=fun k=>k=p\/k=q\/k=pc\/k=cQ) hb3) (fun _ c=>aL c)
    obtain⟨y0,y1,_,_,l3⟩:=W3.cells;have d:=l9 u w3 W3.ar;rw[hb2] at d;go_wp2_with fail;refine d.mono ?_;clear d;rintro e ab ⟨rfl,j⟩
    have f:=W3.below j;have o:=mh.trans (Fr.of (X:=fun k=>k=p\/k=q\/k=pc\/k=cQ) j) (fun _ c=>aL c)
    obtain⟨z0,t,_,_,ar⟩:=f.cells;clear y0 y1;clear z0 t;go_wp2_with fail;go_ret;exact⟨rfl,f,o⟩
  ·rw[Bool.and_true];cases wA:hB N g v
   ·rw[Bool.and_false,aH ac];cases ad
    ·go_enter func44,ntmps44;exact r4
    ·go_enter func44,ntmps44;go_wp2_with fail;refine P.mono ?_;clear P;rintro e w1 ⟨rfl,hb1⟩
     have y1:=(hb1.cell (p:=ao pw 0) ig).trans c0;go_wp2_with fail;refine(kk.o w1 hb1).mono ?_;rintro e w2 ⟨rfl,W2,F2⟩
     clear y1;go_wp2_with fail;refine(nl.o w2).mono ?_;rintro e w3 ⟨rfl,hb3⟩
     have W3:=W2.o.below hb3;have mh:=F2.o.trans (Fr.of (X:=fun k=>k=p\/k=q\/k=pc\/k=cQ) hb3) (fun _ c=>aL c)
     obtain⟨y0,y1,_,_,l3⟩:=W3.cells;have d:=l9 u w3 W3.ar;rw[hb2] at d;go_wp2_with fail;refine d.mono ?_;clear d;rintro e ab ⟨rfl,j⟩
     have f:=W3.below j;have o:=mh.trans (Fr.of (X:=fun k=>k=p\/k=q\/k=pc\/k=cQ) j) (fun _ c=>aL c)
     obtain⟨z0,t,_,_,ar⟩:=f.cells;clear y0 y1;have l:=l_ v ab f.ar;rw[wA] at l;go_wp2_with fail;refine l.mono ?_;clear l;rintro e ax ⟨rfl,B⟩
     have m:=f.below B;have ag:=o.trans (Fr.of (X:=fun k=>k=p\/k=q\/k=pc\/k=cQ) B) (fun _ c=>aL c)
     obtain⟨ai,al,_,_,bb⟩:=m.cells;clear z0 t;clear ai al;go_wp2_with fail;go_ret;exact⟨rfl,m,ag⟩
   ·rw[Bool.and_true];cases ad
    ·rw[aH ac];go_enter func44,ntmps44;exact r4
    ·rw[aJ rfl];go_enter func44,ntmps44;go_wp2_with fail;refine P.mono ?_;clear P;rintro e w1 ⟨rfl,hb1⟩
     have y1:=(hb1.cell (p:=ao pw 0) ig).trans c0;go_wp2_with fail;refine(kk.o w1 hb1).mono ?_;rintro e w2 ⟨rfl,W2,F2⟩
     clear y1;go_wp2_with fail;refine(nl.o w2).mono ?_;rintro e w3 ⟨rfl,hb3⟩
     have W3:=W2.o.below hb3;have mh:=F2.o.trans (Fr.of (X:=fun k=>k=p\/k=q\/k=pc\/k=cQ) hb3) (fun _ c=>aL c)
     obtain⟨y0,y1,_,_,l3⟩:=W3.cells;have d:=l9 u w3 W3.ar;rw[hb2] at d;go_wp2_with fail;refine d.mono ?_;clear d;rintro e ab ⟨rfl,j⟩
     have f:=W3.below j;have o:=mh.trans (Fr.of (X:=fun k=>k=p\/k=q\/k=pc\/k=cQ) j) (fun _ c=>aL c)
     obtain⟨z0,t,_,_,ar⟩:=f.cells;clear y0 y1;have l:=l_ v ab f.ar;rw[wA] at l;go_wp2_with fail;refine l.mono ?_;clear l;rintro e ax ⟨rfl,B⟩
     have m:=f.below B;have ag:=o.trans (Fr.of (X:=fun k=>k=p\/k=q\/k=pc\/k=cQ) B) (fun _ c=>aL c)
     obtain⟨ai,al,_,_,bb⟩:=m.cells;clear z0 t;go_wp2_with fail;refine(Ce v ax m.cd aa aa aa hM).mono ?_;rintro e bn ⟨rfl,bd,s6⟩
     have be:=m.cards bd s6;have bg:=ag.trans (a1 s6) (fun _ c=>aL c)
     clear ai al;go_wp2_with fail;go_ret;exact⟨rfl,be,bg⟩
 ·have F:f7 N y g ws x i z=ws:=by unfold f7;rw[aH h0]
  have S:stM N y g ws x i z c M=M:=by unfold stM mn;rw[bA h0];rfl
  rw[aH h0,aH h0] at P;rw[F,S];generalize dX N y g ws x i=cd at P h0⊢;go_enter func44,ntmps44;go_wp2_with fail;refine P.mono ?_;clear P;rintro e w1 ⟨rfl,hb1⟩
  have W:=H.o.below hb1;clear c0 c1;go_wp2_with fail;go_ret;exact⟨rfl,W,Fr.of hb1⟩
end
open Go.RowKit W Kp ch
def hI (q:List b9)(g:Int):List Int:=(q.filter (fun e=>e.1==g)).map (·.2)
theorem bC {α:Type _}{β:Type _}{f:α -> β}{l₁ l₂:List α}:List.map f (l₁ ++ l₂) = List.map f l₁ ++ List.map f l₂:=List.map_append ..
theorem Cj (q:List b9)(g:Int)(j:Nat)(h:j<q.length)(e:(q.getD j (0,0)).1=g):hI (q.take (j+1)) g=hI (q.take j) g++[(q.getD j (0,0)).2]:=by unfold hI;rw[fE q j h (0,0),List.filter_append,bC,List.filter_cons,e];simp
theorem Cm (q:List b9)(g:Int)(j:Nat)(h:j<q.length)(e:¬(q.getD j (0,0)).1=g):hI (q.take (j+1)) g=hI (q.take j) g:=by unfold hI;rw[fE q j h (0,0),List.filter_append,bC,List.filter_cons];rw[aH (by simpa using e)];simp
theorem bk {α:Type _}(p:α -> Bool)(l:List α):(List.filter p l).length <= l.length:=List.length_filter_le ..
theorem wB (q:List b9)(g:Int):(hI q g).length<=q.length:=by unfold hI;rw[aU];exact bk _ _
theorem Cn (w:aw)(p:Nat)(v0:Value)(a1:Option Addr)(k1:Nat)(q:List b9)(g:Int)(h:w.heap[p]?=some (.cells #[v0,.slice a1 q.length k1] 153 (0,0)))(hp:c8 w a1 q)(hm:q.length<=90000):
 Calls prog 252 #[am p,ak g] w fun e w'=>∃t v,e=.returned (.slice t (hI q g).length v)/\w'.ownsRow w.heap.size 2 1 (.slice t (hI q g).length v) (hI q g).length ((hI q g).map (Value.int .i64))/\Below w.heap.size w w':=by
 obtain⟨ab,hi,ad,ag,ai⟩:=info_parts vu;have c1:w.cell? (ao p 1)=some (.slice a1 q.length k1):=aA h
 have al:=hide hp;clear h hp;go_enter func252,ntmps252;go_wp2_with fail
 go_loopw [5,13] (fun tv iv wr=>∃(j:Nat)(T:List Int)(b:Option Addr)(c:Nat),j<=q.length/\iv=ak j/\ay (T=hI (q.take j) g)/\tv=.slice b T.length c/\wr.ownsRow w.heap.size 2 1 (.slice b T.length c) T.length (T.map (Value.int .i64))/\Below w.heap.size w wr) (fun _ iv _=>q.length-(intOf iv).toNat)
 exact⟨0,[],none,0,aX _,rfl,rfl,rfl,a6 _ _ _ _,aE _ _⟩
 ·
   obtain⟨j,T,b,c,d,rfl,f,rfl,l,hb⟩:=hrel;have aT:T.length<=90000:=by
    have:=wB (q.take j) g;rw[f.o];simp at this
    omega
   by_cases o:j<q.length
   ·obtain⟨aV,a0,ap,a2,hc⟩:=al.o.below hb aa;obtain⟨B,F⟩:=hc j o;clear hc;subst ap;have hs:=hb.size;by_cases i:(q.getD j (0,0)).1=g
    ·have m:ay (T++[(q.getD j (0,0)).2]=hI (q.take (j+1)) g):=by show _=_;rw[Cj q g j o i,f.o]
     rw[i] at B;generalize (q.getD j (0,0)).2=z at F m;clear i;have s:=gb l (.cells #[.int .i64 g,.int .i64 z] 103)
     have n:=hb.alloc hs (.cells #[.int .i64 g,.int .i64 z] 103)
     go_wp2_with (at_builtin;refine wpList_append_own_at _ rfl _ _ 53 rfl w.heap.size 2 ab (ak 0) 1 8 underlying53 hi ad ag ai rfl ae (.slice b T.length c) T.length (T.map (Value.int .i64)) rfl (gb s _) ⟨wr.heap.size+1,0,none⟩ 1 1 [ak z] rfl rfl ?_ ?_ ?_ ?_ ?_ ?_;(intro j u d;match j,d with|0,d=>(simp at d;subst d;simp[Addr.add]));(intro u N;simp at N;subst N;rfl);(unfold maxLen;omega);omega;(simp;omega);intro a3 ar S ax _ bb;obtain⟨b4,W,aB⟩:=d4 S (Nat.succ_pos _);subst aB)
     have aF:ar.ownsRow w.heap.size 2 1 (.slice (an b4) (T++[z]).length W) (T++[z]).length ((T++[z]).map (Value.int .i64)):=by simpa using S
     have aR:=(n.alloc n.size _).grown ax (by simp;omega) (fun k e=>(cg l k e.symm).1)
     go_wp2_with fail;go_roundw;exact⟨j+1,T++[z],an b4,W,aa,aj,m,ac,aF,aR⟩
     simp[intOf];omega
    ·have m:ay (T=hI (q.take (j+1)) g):=by show _=_;rw[Cm q g j o i,f.o]
     generalize (q.getD j (0,0)).1=x at B i;generalize (q.getD j (0,0)).2=z at F;have s:=gb l (.cells #[.int .i64 x,.int .i64 z] 103)
     have n:=hb.alloc hs (.cells #[.int .i64 x,.int .i64 z] 103)
     go_wp2_with fail;go_roundw;exact⟨j+1,T,b,c,aa,aj,m,rfl,s,n⟩
     simp[intOf];omega
   ·obtain rfl:j=q.length:=aa;rw[ba] at f;go_wp2_with fail;go_ret;rw[<-f.o];exact⟨b,c,rfl,l,hb⟩
structure Kf (B:Nat)(w w':aw):Prop where
 os:w'.os=w.os
 tape:w'.tape=w.tape
 output:w'.output=w.output
 size:w.heap.size<=w'.heap.size
 low:∀k:Nat,k<w.heap.size->k<B->w'.heap[k]?=w.heap[k]?
 fR:∀(k:Nat) cs e m,w.heap[k]?=some (Obj.cells cs e m)->e≠129->e≠107->w'.heap[k]?=w.heap[k]?
section
variable {B:Nat}{w w' w'':aw}
theorem Kf.refl (B:Nat)(w:aw):Kf B w w:=⟨rfl,rfl,rfl,aD _,fun _ _ _=>rfl,fun _ _ _ _ _ _ _=>rfl⟩
theorem Kf.trans (h:Kf B w w')(k:Kf B w' w''):Kf B w w'':=
 ⟨k.os.trans h.os,k.tape.trans h.tape,k.output.trans h.output,aS h.size k.size,fun i hi hb=>(k.low i (aO hi h.size) hb).trans (h.low i hi hb),fun i b e m hi c d=>(k.fR i b e m ((h.fR i b e m hi c d).trans hi) c d).trans (h.fR i b e m hi c d)⟩
theorem Kf.of (h:Below w.heap.size w w'):Kf B w w':=⟨h.os,h.tape,h.output,h.size,fun k hk _=>h.block k hk,fun k _ _ _ hi _ _=>h.block k (lt_of_some hi)⟩
theorem Kf.below (h:Kf B w w')(hB:B<=w.heap.size):Below B w w':=⟨h.os,h.tape,h.output,h.size,fun k hk=>h.low k aa hk⟩
theorem Kf.set {pk o:Nat}{b:Array Value}{m:Nat×Nat}{e:TypeId}{v:Value}(hp:w.heap[pk]?=some (.cells b e m))(he:e=129\/e=107)(hB:B<=pk):Kf B w (w.setCell ⟨pk,o,none⟩ v):=
 ⟨rfl,rfl,rfl,by simp[World.setCell],fun k _ hk=>aP _ _ _ _ (fun c=>by have c:k=pk:=c;omega),fun k g i j hk d f=>aP _ _ _ _ (fun c=>by
  rw[c,hp] at hk;simp at hk;rcases he with he|he
  ·exact d (hk.2.1.symm.trans he)
  ·exact f (hk.2.1.symm.trans he))⟩
theorem Kf.grown {row:Option Nat}(g:w.grownBy w' row)(d:∀k,row=some k->B<=k/\∀b e m,w.heap[k]?=some (.cells b e m)->e=129\/e=107):Kf B w w':=
 ⟨g.os,g.tape,g.output,g.size,fun k hk hb=>g.block k hk (fun e=>by have:=(d k e.symm).1;omega),fun k b e m hk f i=>g.block k (lt_of_some hk) (fun c=>((d k c.symm).2 b e m hk).elim f i)⟩
theorem ge.kf {ad:Option Addr}{l:List _}(h:ge w ad l)(k:Kf B w w'):ge w' ad l:=by exact v_
end
structure lB (w:aw)(pw p q N O y g:Nat)(ws:List Int)(sd:Nat)(v0:Value)(a1:Option Addr)(k1:Nat)(Q:List b9):Prop where
 c0:w.cell? (ao pw 0)=some (am p)
 c2:w.cell? (ao pw 2)=some (am sd)
 ar:At w p q N O y g ws
 hs:w.heap[sd]?=some (.cells #[v0,.slice a1 Q.length k1] 153 (0,0))
 hp:c8 w a1 Q
 hm:Q.length<=90000
theorem lB.low {w0 w:aw}{pw p q N O y g:Nat}{ws:List Int}{sd:Nat}{v0:Value}{a1:Option Addr}{k1:Nat}{Q:List b9}(h:lB w0 pw p q N O y g ws sd v0 a1 k1 Q)(hb:Below w0.heap.size w0 w):lB w pw p q N O y g ws sd v0 a1 k1 Q:=
 ⟨(
  hb.cell (aM w0 _ h.c0)).trans h.c0,(hb.cell (aM w0 _ h.c2)).trans h.c2,h.ar.below hb bY,(hb.block sd (lt_of_some h.hs)).trans h.hs,
  h.hp.keep hb.size (fun hp a e=>by obtain⟨d,f,b,c,_⟩:=h.hp hp;rw[b] at e;cases e;exact hb.block _ c),h.hm⟩
def nb (ms:List Int)(a:Int):Int:=if ms.contains a=true then(ms.idxOf a:Int) else-1
theorem Co {ms:List Int}{a:Int}(d:a∉ms)(b:Int):nb (ms++[a]) b=if b=a then(ms.length:Int) else nb ms b:=by
 unfold nb;by_cases e:b=a
 ·subst e;rw[aJ rfl,aJ ac,List.idxOf_append,aH d];simp
 ·rw[aH e];by_cases c:b∈ms
  ·rw[aJ (by simp[c]),aJ (by simpa using c),List.idxOf_append,aJ c]
  ·rw[aH (by simp[c,e]),aH (by simpa using c)]
theorem Cr {ms:List Int}{a:Int}(b:a∉ms):nb ms a=-1:=by unfold nb;rw[aH (by simpa using b)]
theorem Ct {ms:List Int}{a:Int}(h:a∈ms):nb ms a=(ms.idxOf a:Int):=by unfold nb;rw[aJ (by simpa using h)]
theorem iE:Maps.Keyed prog 3:=Maps.int_keyed underlying3
theorem lC (w:aw):(zeroValue 3).run prog w=.ok (ak 0) w:=ah
def Nm (w:aw)(cr:Nat)(T ms:List Int):Prop:=
 ∃D:DataW Unit,w.ownsMap prog 3 (plainElem prog 3) cr T.length D/\(∀a:Int,Maps.has D (.int .i64 a)=T.contains a)/\∀a∈T,D.atKey (.int .i64 a) (.lit (.int .i64 0))=.lit (.int .i64 (nb ms a))
theorem Nm.same {w w':aw}{cr:Nat}{T ms:List Int}(h:Nm w cr T ms)(e:w'.heap[cr]?=w.heap[cr]?):Nm w' cr T ms:=by obtain⟨D,b,c,d⟩:=h;exact⟨D,r8 b e,c,d⟩
structure Wk (w0 w:aw)(pk cr pw:Nat)(T:List Int)(s:cP)(vn:Value)(m:List du):Prop where
 blk:w.heap[pk]?=some (.cells #[am pw,.map (some cr),vn] 129 (0,0))
 lo:w0.heap.size<=pk/\w0.heap.size<=cr
 mp:Nm w cr T s.1
 row:w.ownsRow w0.heap.size 107 2 vn m.length (nv m)
 nd:ie m=s.2
 fl:∀x∈m,ge w x.2.1 x.2.2.2
 dx:Below w0.heap.size w0 w
section
variable {w0 w w':aw}{pk cr pw:Nat}{T:List Int}{s:cP}{vn:Value}{m:List du}
theorem Wk.below (h:Wk w0 w pk cr pw T s vn m)(hb:Below w.heap.size w w'):Wk w0 w' pk cr pw T s vn m:=by obtain⟨D,o1,c,d⟩:=h.mp;exact⟨(hb.block pk (lt_of_some h.blk)).trans h.blk,h.lo,h.mp.same (hb.block cr o1.lt),cy h.row (fun k hk=>hb.block k (cg h.row k hk).2),h.nd,fun x b=>(h.fl x b).kf (Kf.of (B:=0) hb),h.dx.trans (hb.mono h.dx.size)⟩
theorem Wk.cells (h:Wk w0 w pk cr pw T s vn m):w.cell? (ao pk 0)=some (am pw)/\w.cell? (ao pk 1)=some (.map (some cr))/\w.cell? (ao pk 2)=some vn/\pk<w.heap.size:=
 ⟨by simp[World.cell?,h.blk],by simp[World.cell?,h.blk],by simp[World.cell?,h.blk],lt_of_some h.blk⟩
theorem Wk.len (h:Wk w0 w pk cr pw T s vn m):m.length=s.2.length:=by rw[<-h.nd];simp[ie]
end
def eS (N y g:Nat)(ws:List Int)(Q:List b9)(a:Int):List Int:=
 if pk (ld N y g ws a)=5 then hI Q (ew 3 a) else(List.range (ii N y g a (pf (ld N y g ws a))).toNat).map (fun i:Nat=>ld N y g ws (a+1+(i:Int)))
theorem Cu (N y g:Nat)(ws:List Int)(Q:List b9)(a:Int):(eS N y g ws Q a).length<=Q.length+12:=by
 unfold eS;split
 ·have:=wB Q (ew 3 a)
  omega
 ·have b:ii N y g a (pf (ld N y g ws a))<=12:=by unfold ii;exact Int.le_trans (Int.min_le_left _ _) (dp _).2
  simp;omega
section
variable {w:aw}{pw p q N O y g:Nat}{ws:List Int}{sd:Nat}{v0:Value}{a1:Option Addr}{k1:Nat}{Q:List b9}
theorem au(w:World):Below w.heap.size w w:=Below.refl _ w
theorem Cv (h:lB w pw p q N O y g ws sd v0 a1 k1 Q)(c:Nat)(hk:w.cell? (ao c 0)=some (am pw))(a:Int)(l0:0<=a)(l1:a<=100000):
 Calls prog 244 #[am c,ak a,ak (pk (ld N y g ws a)),ak (pf (ld N y g ws a))] w fun e w'=>∃t v,e=.returned (.slice t (eS N y g ws Q a).length v)/\w'.ownsRow w.heap.size 2 1 (.slice t (eS N y g ws Q a).length v) (eS N y g ws Q a).length ((eS N y g ws Q a).map (Value.int .i64))/\Below w.heap.size w w':=by
 obtain⟨aV,hi,a0,a2,a3⟩:=info_parts vu;have H:=hide h;have c0:=h.c0;have c2:=h.c2;have ad:=aM w _ c0;have pZ:=aM w _ hk;clear h;by_cases d:pk (ld N y g ws a)=5
 ·have l:eS N y g ws Q a=hI Q (ew 3 a):=by unfold eS;rw[aJ d]
  rw[l,d];clear l d;generalize pf (ld N y g ws a)=f;have hd:=(au w).drew;go_enter func244,ntmps244;go_wp2_with fail
  go_region_held3 (fun w'=>w'.cell? (ao c 0)=some (am pw)/\w'.cell? (ao pw 2)=some (am sd)) (first|exact⟨hk,c2⟩|exact⟨u0,ap⟩|exact⟨bb,bd⟩|go_keep)
   (first
     |(have b3:=b;go_at_call 252;refine(Cn _ sd v0 a1 k1 Q (ew 3 a) (H.o.low b).hs (H.o.low b).hp (H.o.low b).hm).mono ?_;rintro e b5 ⟨t,v,rfl,ar,B⟩;have b6:=B.size;have bb:=(B.cell (p:=ao c 0) (aO pZ F)).trans u0;have bd:=(B.cell (p:=ao pw 2) (aO ad F)).trans ap)
     |(go_at_call 42;refine(pN a _).mono ?_;rintro e w3 ⟨rfl,be⟩;have b:=hd.trans be;have F:=b.size;have u0:=(b.cell (p:=ao c 0) pZ).trans hk;have ap:=(b.cell (p:=ao pw 2) ad).trans c2))
  go_wp2_with fail;go_ret;exact⟨t,v,rfl,ec ar (fun k e=>aS F (cg ar k e).1),b.trans (B.mono F)⟩
 ·have l:eS N y g ws Q a=(List.range (ii N y g a (pf (ld N y g ws a))).toNat).map (fun i:Nat=>ld N y g ws (a+1+(i:Int))):=by unfold eS;rw[aH d]
  rw[l];have bg:ii N y g a (pf (ld N y g ws a))<=12:=by unfold ii;exact Int.le_trans (Int.min_le_left _ _) (dp _).2
  have S:=wm a (pf (ld N y g ws a)) w c0 H.o.ar l0 l1;clear l;generalize ii N y g a (pf (ld N y g ws a))=st at S bg⊢;generalize pf (ld N y g ws a)=f at S⊢;generalize pk (ld N y g ws a)=kd at d⊢;have bi:ay (∀w1 x,Below w.heap.size w w1->_):=fun w1 x hb=>jr x w1 (H.o.low hb).ar;clear H;simp only [List.length_map,List.length_range];go_enter func244,ntmps244;go_wp2_with fail;refine S.mono ?_;clear S;rintro e w1 ⟨rfl,ax⟩
  go_wp2_with fail
  go_loopw [9,30] (fun tv iv wr=>∃(j:Nat)(m:Option Addr)(n:Nat),j<=st.toNat/\iv=ak j/\tv=.slice m j n/\wr.ownsRow w.heap.size 2 1 (.slice m j n) j (((List.range j).map (fun i:Nat=>ld N y g ws (a+1+(i:Int)))).map (Value.int .i64))/\Below w.heap.size w wr) (fun _ iv _=>st.toNat-(intOf iv).toNat)
  exact⟨0,none,0,aX _,rfl,rfl,a6 _ _ _ _,ax⟩
  ·
    obtain⟨j,m,n,o,rfl,rfl,s,hb⟩:=hrel;clear ax;by_cases b7:j<st.toNat
    ·have bl:=(hb.cell (p:=ao c 0) pZ).trans hk;have bn:=(hb.cell (p:=ao pw 0) ad).trans c0;have bo:(j:Int)<st:=aa;have bp:=hb.size;go_wp2_with fail;refine(bi.o wr (a+1+(j:Int)) hb).mono ?_;rintro e br ⟨rfl,ag⟩
     have W:=cy s (fun k e=>ag.block k (cg s k e).2)
     have ai:=hb.trans (ag.mono bp)
     have bs:=ai.size;have aB:(((List.range (j+1)).map (fun i:Nat=>ld N y g ws (a+1+(i:Int)))).map (Value.int .i64))=(((List.range j).map (fun i:Nat=>ld N y g ws (a+1+(i:Int)))).map (Value.int .i64))++[ak (ld N y g ws (a+1+(j:Int)))]:=by simp[List.range_succ]
     have ab:=hide aB;clear aB s hb ag bl bn;generalize ld N y g ws (a+1+(j:Int))=z at ab⊢;generalize ((List.range j).map (fun i:Nat=>ld N y g ws (a+1+(i:Int)))).map (Value.int .i64)=L at W ab;go_wp2_with (at_builtin;refine wpList_append_own_at _ rfl _ _ 53 rfl w.heap.size 2 aV (ak 0) 1 8 underlying53 hi a0 a2 a3 rfl ae (.slice m j n) j L rfl (gb W _) ⟨br.heap.size,0,none⟩ 1 1 [ak z] rfl rfl ?_ ?_ ?_ ?_ ?_ ?_;(intro j u o;match j,o with|0,o=>(simp at o;subst o;simp[Addr.add]));(intro u aF;simp at aF;subst aF;rfl);(unfold maxLen;omega);omega;(simp;omega);intro b8 bt al aR _ bx;obtain⟨b4,aT,b0⟩:=d4 al (Nat.succ_pos _);subst b0)
     have b1:bt.ownsRow w.heap.size 2 1 (.slice (an b4) (j+1) aT) (j+1) (((List.range (j+1)).map (fun i:Nat=>ld N y g ws (a+1+(i:Int)))).map (Value.int .i64)):=by rw[ab.o];exact al
     have b2:=(ai.alloc bs _).grown aR (by simp;omega) (fun k e=>(cg W k e.symm).1)
     clear al aR bx W ai ab;go_wp2_with fail;go_roundw;exact⟨j+1,an b4,aT,aa,aj,rfl,b1,b2⟩
     simp[intOf];omega
    ·obtain rfl:j=st.toNat:=aa;have bo:¬((st.toNat:Nat):Int)<st:=aa;go_wp2_with fail;go_ret;exact⟨m,n,rfl,by rw[List.map_map] at s;exact s,hb⟩
end
theorem mo (x:Int)(h:(Lit.int .i64 x).wf=true):plainElem (H:=Unit) prog 3 (.int .i64 x)=some (.lit (.int .i64 x),[]):=plainElem_int underlying3 h
theorem i1 {a:Int}(h0:0<=a)(b:a<1152921504606846976):keyOf prog 3 (.int .i64 a)=some (.int .i64 a):=Maps.keyOf_int_mk underlying3 (WalkArith.wf_i64 ⟨aa,aa⟩)
theorem Nm.add {w w':aw}{cr n:Nat}{T:List Int}{a:Int}{D:DataW Unit}(c:w.ownsMap prog 3 (plainElem prog 3) cr T.length D)(f:∀a:Int,Maps.has D (.int .i64 a)=T.contains a)(g:∀a∈T,D.atKey (.int .i64 a) (.lit (.int .i64 0))=.lit (.int .i64 (nb [] a)))
 (i:n=T.length+1)(d:w'.ownsMap prog 3 (plainElem prog 3) cr n (D.put (.int .i64 a) (.lit (.int .i64 (-1))))):Nm w' cr (T++[a]) []:=by
 refine⟨_,by rw[i] at d;simpa using d,fun b=>?_,fun b hb=>?_⟩
 ·by_cases e:b=a
  ·subst e;rw[Maps.has_put_same (k:=.int .i64 b) c.isMap trivial];simp
  ·rw[Maps.has_put_other (by simpa using e),f];simp[e]
 ·by_cases e:b=a
  ·subst e;rw[Maps.atKey_put_same (k:=.int .i64 b) c.isMap trivial];rfl
  ·rw[Maps.atKey_put_other (by simpa using e)];refine g b ?_;rcases List.mem_append.1 hb with hb|hb
   ·exact hb
   ·simp at hb;exact absurd hb e
theorem Nm.put {w w':aw}{cr n:Nat}{T ms:List Int}{a:Int}{D:DataW Unit}(c:w.ownsMap prog 3 (plainElem prog 3) cr T.length D)(d:∀a:Int,Maps.has D (.int .i64 a)=T.contains a)(f:∀a∈T,D.atKey (.int .i64 a) (.lit (.int .i64 0))=.lit (.int .i64 (nb ms a)))
 (ha:a∈T)(hm:a∉ms)(g:w'.ownsMap prog 3 (plainElem prog 3) cr n (D.put (.int .i64 a) (.lit (.int .i64 ms.length)))):Nm w' cr T (ms++[a]):=by
 have hs:Maps.size (D.put (.int .i64 a) (.lit (.int .i64 ms.length)))<=T.length:=by rw[Maps.size_put (c.tidy iE),d,aJ (by simpa using ha)];exact c.size_le
 refine⟨_,(r9 g rfl).mono hs,fun b=>?_,fun b hb=>?_⟩
 ·by_cases e:b=a
  ·subst e;rw[Maps.has_put_same (k:=.int .i64 b) c.isMap trivial];simp[ha]
  ·rw[Maps.has_put_other (by simpa using e),d]
 ·rw[Co hm];by_cases e:b=a
  ·subst e;rw[Maps.atKey_put_same (k:=.int .i64 b) c.isMap trivial,aJ rfl]
  ·rw[Maps.atKey_put_other (by simpa using e),aH e];exact f b hb
section
variable {w:aw}{pw p q N O y g:Nat}{ws:List Int}
theorem mx (a:Int)(h:a∈dW N y g ws):0<=a/\a<y:=mm _ _ _ h
theorem ou (a:Int)(h:a∈dB N y g ws):(N:Int)<=a/\a<(N:Int)+g:=mm _ _ _ h
theorem bj {α:Type _}(«as» bs cs:List α):«as» ++ bs ++ cs = «as» ++ (bs ++ cs):=List.append_assoc ..
theorem aq(w:aw)(o:Obj):Below w.heap.size w (w.alloc o):=(Below.refl _ w).alloc (Nat.le_refl _) o
theorem wC (c0:w.cell? (ao pw 0)=some (am p))(h:At w p q N O y g ws):
 Calls prog 64 #[am pw] w fun e w'=>∃a3 cr,e=.returned (am a3)/\Wk w w' a3 cr pw (dW N y g ws++dB N y g ws) ([],[]) (.slice none 0 0) []:=by
 have ca:=@run_makeMap prog;have bb:(dW N y g ws).length<=2000:=iD _ _;have hO:(dB N y g ws).length<=2000:=iD _ _;have bd:=mo (-1) ae;have k1:=h.hN';have cb:=h.hy;have cc:=h.hO;have cd:=h.hg;have ad:ay (∀a∈dW N y g ws,0<=a/\a<2000):=fun a ha=>by have:=mx a ha;omega
 have ag:ay (∀a∈dB N y g ws,0<=a/\a<2000):=fun a ha=>by have:=ou a ha;omega
 have be:Nm (w.alloc (.map #[] 0)) w.heap.size [] []:=⟨_,(World.ownsMap_made w prog 3 (plainElem (H:=Unit) prog 3)),fun _=>rfl,fun a ha=>by simp at ha⟩
 have n:=(aq w (.map #[] 0)).alloc ac (.cells #[.pointer (some ⟨pw,0,none⟩),.map (some w.heap.size),.slice none 0 0] 129)
 have ai:=aN (w.alloc (.map #[] 0)) (.cells #[.pointer (some ⟨pw,0,none⟩),.map (some w.heap.size),.slice none 0 0] 129)
 have bg:=be.same (w':=(w.alloc (.map #[] 0)).alloc (.cells #[.pointer (some ⟨pw,0,none⟩),.map (some w.heap.size),.slice none 0 0] 129)) (a4 _ _ _ ac)
 have br:=(n.cell (p:=ao pw 0) (aM w _ c0)).trans c0;have P:=pX _ (h.below n bY)
 clear be h;generalize dW N y g ws=fS at P bb hO ad ag⊢;generalize dB N y g ws=d at P bb hO ad ag⊢;go_enter func64,ntmps64;go_wp2_with fail;refine P.mono ?_;clear P;rintro e W ⟨v1,v2,rfl,t,u,ab⟩
 obtain⟨bi,bs,rfl⟩:=dU t;obtain⟨bl,bt,rfl⟩:=dU u;have bx:=n.trans (ab.mono n.size)
 rw[World.size_alloc] at ai;have al:=(ab.block (w.heap.size+1) ac).trans ai;have bn:=bg.same (ab.block w.heap.size (by simp;omega))
 have ap:=gV t;have ar:=gV u;have bo:∀k,some k=(Value.slice bi (fS).length bs).ownBlock->k≠w.heap.size:=fun k e=>by have:=(cg t k e).1;simp at this;omega
 have bp:∀k,some k=(Value.slice bl (d).length bt).ownBlock->k≠w.heap.size:=fun k e=>by have:=(cg u k e).1;simp at this;omega
 have b0:ay (∀w3,Fr (fun k=>k=w.heap.size) W w3->iI w3 bi (fS)):=fun w3 f=>ap.keep f.size (fun hp a e=>f.block _ (by obtain⟨b,o,l,hb,_⟩:=ap hp;rw[e] at l;cases l;exact hb) (fun c=>by obtain⟨b,b1,l⟩:=d4 t hp;cases l;cases e;exact bo _ rfl c))
 have b2:ay (∀w3,Fr (fun k=>k=w.heap.size) W w3->iI w3 bl (d)):=fun w3 f=>ar.keep f.size (fun hp a e=>f.block _ (by obtain⟨b,o,l,hb,_⟩:=ar hp;rw[e] at l;cases l;exact hb) (fun c=>by obtain⟨b,b1,l⟩:=d4 u hp;cases l;cases e;exact bp _ rfl c))
 have ax:=lt_of_some al;have aB:=hide al;clear bo bp ap ar t u bg ai br n ab al;go_wp2_with fail
 go_loopw [24] (fun iv wr=>∃(j:Nat),j<=fS.length/\iv=ak j/\Nm wr w.heap.size (fS.take j) []/\Fr (fun k=>k=w.heap.size) W wr) (fun iv _=>fS.length-(intOf iv).toNat)
 exact⟨0,aX _,rfl,bn,Fr.refl _ _⟩
 ·
   obtain⟨j,b3,rfl,hN,i⟩:=hrel;clear bn;have aF:wr.cell? (ao (w.heap.size+1) 1)=some (.map (some w.heap.size)):=by have:=(i.block (w.heap.size+1) ax aa).trans aB.o;simp[World.cell?,this]
   by_cases m:j<fS.length
   ·obtain⟨b4,b5,aR,n,hc⟩:=b0.o wr i aa;have aT:=hc j m;subst aR;clear hc;have v:fS.getD j 0∈fS:=by rw[aG,aI m];exact a_ m
    have aV:=ad.o _ v;have B:=hide (fE fS j m 0)
    clear v;generalize fS.getD j 0=z at aT aV B;have b6:=i1 (a:=z) aa aa;obtain⟨D,o1,F,S⟩:=hN;have b7:(fS.take j).length<100000:=by simp;omega
    have s:=gM o1 F S;clear F S;generalize fS.take j=a0 at*;go_wp2_with (first
     |(at_mapUpdate;refine wpList_mapUpdate_own _ rfl _ _ _ 127 rfl 3 3 iE underlying127 (plainElem (H:=Unit) prog 3) w.heap.size a0.length D rfl o1 (by unfold maxLen;omega) _ _ _ rfl rfl b6 _ [] bd ?_;intro b8 a1 a2)
     |go_in)
    go_roundw;exact⟨j+1,aa,aj,by rw[B.o];exact Nm.add s.o.1 s.o.2.1 s.o.2.2 rfl a1,i.grown a2 (fun k e=>aL (by cases e;rfl))⟩
    simp[intOf];omega
   ·obtain rfl:j=fS.length:=aa;rw[ba] at hN;clear aF;go_wp2_with fail
    go_loopw [36] (fun iv wr=>∃(j:Nat),j<=d.length/\iv=ak j/\Nm wr w.heap.size (fS++d.take j) []/\Fr (fun k=>k=w.heap.size) W wr) (fun iv _=>d.length-(intOf iv).toNat)
    exact⟨0,aX _,rfl,by simpa using hN,i⟩
    ·
      clear hN i;obtain⟨j,b3,rfl,hN,i⟩:=hrel;rename_i ce _ _ _ wr _ _;have aF:wr.cell? (ao (w.heap.size+1) 1)=some (.map (some w.heap.size)):=by have:=(i.block (w.heap.size+1) ax aa).trans aB.o;simp[World.cell?,this]
      by_cases m:j<d.length
      ·obtain⟨b4,b5,aR,n,hc⟩:=b2.o wr i aa;have aT:=hc j m;subst aR;clear hc;have v:d.getD j 0∈d:=by rw[aG,aI m];exact a_ m
       have aV:=ag.o _ v;have B:ay (fS++d.take (j+1)=(fS++d.take j)++[d.getD j 0]):=by show _=_;rw[fE d j m 0,bj]
       clear v;generalize d.getD j 0=z at aT aV B;obtain⟨D,o1,F,S⟩:=hN;have b7:(fS++d.take j).length<100000:=by simp;omega
       have s:=gM o1 F S;clear F S;generalize fS++d.take j=a0 at*;go_wp2_with (first
        |(at_mapUpdate;refine wpList_mapUpdate_own _ rfl _ _ _ 127 rfl 3 3 iE underlying127 (plainElem (H:=Unit) prog 3) w.heap.size a0.length D rfl o1 (by unfold maxLen;omega) _ _ _ rfl rfl (i1 (a:=z) aa aa) _ [] bd ?_;intro b8 a1 a2)
        |go_in)
       go_roundw;exact⟨j+1,aa,aj,by rw[B.o];exact Nm.add s.o.1 s.o.2.1 s.o.2.2 rfl a1,i.grown a2 (fun k e=>aL (by cases e;rfl))⟩
       simp[intOf];omega
      ·obtain rfl:j=d.length:=aa;rw[ba] at hN;clear aF;go_wp2_with fail;go_ret;exact⟨w.heap.size+1,w.heap.size,rfl,(i.block (w.heap.size+1) ax aa).trans aB.o,⟨aa,aD _⟩,hN,a6 _ _ _ _,rfl,fun x b9=>by simp at b9,bx.trans (i.below aa (fun k e=>by have e:=e;omega))⟩
end
def ff (w0 w:aw)(m:List du)(w':aw)(b:List du):Prop:=Kf w0.heap.size w w'/\∀k,fF b k->fF m k\/w.heap.size<=k
theorem ff.refl (w0 w:aw)(m:List du):ff w0 w m w m:=⟨Kf.refl _ _,fun _ h=>aL h⟩
theorem ff.trans {w0 w w' b:aw}{m d e:List du}(h:ff w0 w m w' d)(k:ff w0 w' d b e):ff w0 w m b e:=
 ⟨h.1.trans k.1,fun i hi=>(k.2 i hi).elim (h.2 i) (fun c=>aK (aS h.1.size c))⟩
theorem ff.of {w0 w w':aw}{m:List du}(h:Below w.heap.size w w'):ff w0 w m w' m:=⟨Kf.of h,fun _ h=>aL h⟩
theorem ff.new {w0 w w' b:aw}{m d:List du}{X:Nat->Prop}(h:ff w0 w m w' d)(f:Fr X w' b)(g:∀k,X k->w.heap.size<=k):ff w0 w m b d:=
 ⟨⟨f.os.trans h.1.os,f.tape.trans h.1.tape,f.output.trans h.1.output,aS h.1.size f.size,fun k hk hb=>(f.block k (aO hk h.1.size) (fun c=>by have:=g k c;omega)).trans (h.1.low k hk hb),
  fun k i e j hk l n=>(f.block k (aO (lt_of_some hk) h.1.size) (fun c=>by have:=g k c;have:=lt_of_some hk;omega)).trans (h.1.fR k i e j hk l n)⟩,h.2⟩
section
variable {w0 w w':aw}{kb cr pw:Nat}{T:List Int}{s:cP}{vn:Value}{m:List du}
theorem Wk.fb (h:Wk w0 w kb cr pw T s vn m)(k:Nat)(hk:fF m k):k<w.heap.size:=by obtain⟨x,d,hl,o,e⟩:=hk;obtain⟨b,f,g,c,hb⟩:=(h.fl x d).2 hl;rw[e] at c;cases c;exact lt_of_some hb
theorem Wk.but {X:Nat->Prop}(h:Wk w0 w kb cr pw T s vn m)(f:Fr X w w')(g:∀k,k<w.heap.size->X k->(∃d,w.heap[k]?=some (.cells d 97 (0,0)))/\¬fF m k/\w0.heap.size<=k):Wk w0 w' kb cr pw T s vn m:=by
 obtain⟨D,o1,t,u⟩:=h.mp;have n1:¬X kb:=fun c=>by obtain⟨⟨d,hc⟩,_⟩:=g kb (lt_of_some h.blk) c;rw[h.blk] at hc;simp at hc
 have p:¬X cr:=fun c=>by obtain⟨⟨d,hc⟩,_⟩:=g cr o1.lt c;obtain⟨v,B,hb,_⟩:=o1;rw[hb] at hc;simp at hc
 refine⟨(f.block kb (lt_of_some h.blk) n1).trans h.blk,h.lo,h.mp.same (f.block cr o1.lt p),cy h.row (fun k hk=>f.block k (cg h.row k hk).2 (fun c=>?_)),h.nd,fun x l=>?_,h.dx.trans ⟨f.os,f.tape,f.output,f.size,fun k hk=>f.block k (aO hk h.dx.size) (fun c=>by have:=(g k (aO hk h.dx.size) c).2.2;omega)⟩⟩
 ·obtain⟨⟨d,hc⟩,_⟩:=g k (cg h.row k hk).2 c;obtain⟨F,q⟩:=d6 h.row k hk;rw[q] at hc;simp at hc
 ·have hl:=h.fl x l;have hk:0<x.2.2.2.length->∀b,x.2.1=some b->w'.heap[b.block]?=w.heap[b.block]?:=fun hp b e=>by obtain⟨n,j,d,i,hb⟩:=hl.2 hp;have o:=e;rw[i] at o;cases o;exact f.block _ (lt_of_some hb) (fun c=>(g _ (lt_of_some hb) c).2.1 ⟨x,l,hp,j,i⟩)
  refine⟨hl.1.keep f.size hk,fun hp=>?_⟩
  obtain⟨n,j,d,i,hb⟩:=hl.2 hp;exact⟨n,j,d,i,(hk hp _ i).trans hb⟩
end
def nm (w0:aw)(b cr pw:Nat)(T:List Int)(M:cP->Int->cP)(n:Nat):Prop:=
 ∀(w:aw)(s:cP)(d:Value)(m:List du)(a:Int),Wk w0 w b cr pw T s d m->eU T s->a∈T->a∉s.1->T.length<=s.1.length+n->
  Calls prog 231 #[am b,ak a] w fun e w'=>∃f c,e=.returned (ak s.1.length)/\Wk w0 w' b cr pw T (M s a) f c/\ff w0 w m w' c
theorem my:(prog.info? 97).map (fun i=>(i.zero,i.size,i.bytes))=some (some (.agg #[ak 0,ak 0]),2,16):=ah
section
variable {w0 w:aw}{kb cr pw n:Nat}{T:List Int}{kd:Int->Int}{sh:Int->List Int}{M:cP->Int->cP}{s:cP}{vn:Value}{m:List du}
theorem Cw (h:Wk w0 w kb cr pw T s vn m)(a:Int)(a0:0<=a)(a1:a<1152921504606846976)(d:T.contains a=false):
 Calls prog 198 #[am kb,ak a] w fun e w'=>∃x,e=.returned (.tuple #[ak x,.bool false])/\w'=w:=by
 obtain⟨c0,c1,c2,lk⟩:=h.cells;obtain⟨D,o1,f,g⟩:=h.mp;have b:=f a;rw[d] at b;have b:=hide b;go_enter func198,ntmps198;go_wp2_with (at_lookup;refine wpList_lookup_own_ok_int _ rfl _ _ 127 rfl 3 3 .i64 iE underlying127 underlying3 (lC _) cr T.length D rfl o1 _ _ rfl (i1 a0 a1) ?_;intro c i j;rw[b.o])
 go_ret2;exact⟨c,rfl,rfl⟩
def lD (s:cP)(a:Int):Int:=if s.1.contains a=true then(s.1.idxOf a:Int) else s.1.length
def lE (M:cP->Int->cP)(s:cP)(a:Int):cP:=if s.1.contains a=true then s else M s a
theorem Cx (hM:nm w0 kb cr pw T M n)(h:Wk w0 w kb cr pw T s vn m)(u:eU T s)(v:T.length<=s.1.length+n)(a:Int)(a0:0<=a)(a1:a<1152921504606846976)(i:a∈T):
 Calls prog 198 #[am kb,ak a] w fun e w'=>∃j d,e=.returned (.tuple #[ak (lD s a),.bool true])/\Wk w0 w' kb cr pw T (lE M s a) j d/\ff w0 w m w' d:=by
 have H:=hide h;have x:=hide hM;obtain⟨c0,c1,c2,lk⟩:=h.cells;obtain⟨D,o1,B,F⟩:=h.mp;have p:=i1 a0 a1;have q:ay (Maps.has D (.int .i64 a)=true):=(B a).trans (by simpa using i)
 have f:=F a i;by_cases b:a∈s.1
 ·rw[Ct b] at f;have g:ay (_=_):=f;have k:lD s a=(s.1.idxOf a:Int):=by unfold lD;rw[aJ (by simpa using b)]
  have l:lE M s a=s:=by unfold lE;rw[aJ (by simpa using b)]
  rw[k,l];generalize s.1.idxOf a=L at g⊢;go_enter func198,ntmps198;go_wp2_with (at_lookup;refine wpList_lookup_own_ok_int _ rfl _ _ 127 rfl 3 3 .i64 iE underlying127 underlying3 (lC _) cr T.length D rfl o1 _ _ rfl p ?_;intro c o N;rw[q.o];(have hc:c=(L:Int):=by have:=o.symm.trans g.o;simpa using this);subst hc)
  go_ret2;exact⟨vn,m,rfl,H.o,ff.refl _ _ _⟩
 ·rw[Cr b] at f;have g:ay (_=_):=f;have k:lD s a=s.1.length:=by unfold lD;rw[aH (by simpa using b)]
  have l:lE M s a=M s a:=by unfold lE;rw[aH (by simpa using b)]
  rw[k,l];have P:=x.o w s vn m a H.o u i b v;generalize M s a=W at P⊢;generalize s.1.length=L at P⊢;go_enter func198,ntmps198;go_wp2_with (at_lookup;refine wpList_lookup_own_ok_int _ rfl _ _ 127 rfl 3 3 .i64 iE underlying127 underlying3 (lC _) cr T.length D rfl o1 _ _ rfl p ?_;intro c o N;rw[q.o];(have hc:c=-1:=by have:=o.symm.trans g.o;simpa using this);subst hc)
  refine P.mono ?_;rintro e w1 ⟨j,d,rfl,S,k1⟩
  have t:=dq S k1;go_wp2_with fail;go_ret2;exact⟨j,d,rfl,t.o.1,t.o.2⟩
theorem wD (x:Int)(h:dk x=3):0<=dA x/\dA x<1152921504606846976:=by
 have h0:dc x=0:=by
  by_cases c:dc x=0
  ·exact c
  ·unfold dk at h;omega
 have b:=(uO x h0).1;rw[h] at b;rw[vh] at b;unfold rc at b;split at b
 ·omega
 ··omega
theorem Cy (hM:nm w0 kb cr pw T M n)(h:Wk w0 w kb cr pw T s vn m)(aF:eU T s)(aR:T.length<=s.1.length+n)(x:Int):
 Calls prog 130 #[am kb,ak x] w fun e w'=>∃ax N,e=.returned (.agg #[ak (dw M T s x).1.1,ak (dw M T s x).1.2])/\Wk w0 w' kb cr pw T (dw M T s x).2 ax N/\ff w0 w m w' N:=by
 have H:ay (Wk w0 w kb cr pw T s vn m):=h;have S:=aq w (.cells #[.int .i64 0,.int .i64 0] 97)
 have W:=aN w (.cells #[.int .i64 0,.int .i64 0] 97)
 have P:=uU x (w.alloc (.cells #[.int .i64 0,.int .i64 0] 97))
 by_cases o:dk x=3
 ·have B:=wD x o;rw[o] at P;cases hT:T.contains (dA x)
  ·have ev:dw M T s x=((0,0),s):=by unfold dw;rw[aJ o,hT,aH ac]
   rw[ev];generalize dA x=a at P B hT;generalize dc x=cc at P;have F:ay (∀w1,Below w.heap.size w w1->Calls prog 198 #[am kb,ak a] w1 fun e w'=>∃x,e=.returned (.tuple #[ak x,.bool false])/\w'=w1):=fun w1 hb=>Cw (H.o.below hb) a B.1 B.2 hT;go_enter func130,ntmps130;go_wp2_with fail;refine P.mono ?_;rintro e w1 ⟨rfl,d⟩
   have g:=(d.block w.heap.size ac).trans W;have q:=S.trans (d.mono ac)
   have ab:=d.size;simp at ab;have t:=aq w1 (.cells #[.int .i64 3,.int .i64 a] 97)
   have j:=q.trans (t.mono aa)
   have i:=(t.block w.heap.size aa).trans g;clear W g S d;go_wp2_with fail;refine(F.o _ j).mono ?_;rintro e w3 ⟨z,rfl,aB⟩
   rw[<-aB] at i j t;have aT:w.heap.size<w3.heap.size:=by rw[aB];simp;omega
   clear aB;have y0:w3.cell? (ao w.heap.size 0)=some (ak 0):=aA i
   have y1:w3.cell? (ao w.heap.size 1)=some (ak 0):=aA i
   have aV:w3.frozen? (ao w.heap.size 0)=false:=aC i
   have a0:w3.frozen? (ao w.heap.size 1)=false:=aC i
   have ad:ay (ff w0 w m w3 m):=ff.of j;have ag:ay (∀ai,Fr (fun k=>k=w.heap.size) w3 ai->_):=fun ai f=>(H.o.below j).but f (fun k _ e=>by have e:=e;rw[e];exact⟨⟨_,i⟩,fun c=>by have:=H.o.fb _ c;omega,H.o.dx.size⟩)
   clear F i t q j H;go_wp2_with fail;obtain⟨b,hW0⟩:∃b,b=(w3.setCell ⟨w.heap.size,0,none⟩ (.int .i64 0)).setCell ⟨w.heap.size,1,none⟩ (.int .i64 0):=⟨_,rfl⟩
   rw[<-hW0];have g0:b.cell? (ao w.heap.size 0)=some (ak 0):=by exact kS
   have g1:b.cell? (ao w.heap.size 1)=some (ak 0):=by exact wi
   have l:Fr (fun k=>k=w.heap.size) w3 b:=by rw[hW0];exact((Fr.refl (fun k=>k=w.heap.size) w3).set w.heap.size 0 _ rfl).set w.heap.size 1 _ rfl
   exact bz (v:=.agg #[ak 0,ak 0]) (by simp[results,results130,go_sem,g0,g1]) rfl ⟨vn,m,rfl,ag.o b l,ad.o.new l (fun k e=>Nat.le_of_eq (Eq.symm e))⟩
  ·have a1:dA x∈T:=by simpa using hT
   have ev:dw M T s x=((3,lD s (dA x)),lE M s (dA x)):=by unfold dw lD lE;rw[aJ o,aJ hT];split<;>rfl
   rw[ev];generalize dA x=a at P B a1⊢;generalize dc x=cc at P;have F:ay (∀w1,Below w.heap.size w w1->_):=fun w1 hb=>Cx hM (H.o.below hb) aF aR a B.1 B.2 a1;generalize lD s a=z at F⊢;generalize lE M s a=bd at F⊢;go_enter func130,ntmps130;go_wp2_with fail;refine P.mono ?_;rintro e w1 ⟨rfl,d⟩
   have g:=(d.block w.heap.size ac).trans W;have q:=S.trans (d.mono ac)
   have ab:=d.size;simp at ab;have t:=aq w1 (.cells #[.int .i64 3,.int .i64 a] 97)
   have j:=q.trans (t.mono aa)
   have i:=(t.block w.heap.size aa).trans g;go_wp2_with fail;refine(F.o _ j).mono ?_;rintro e w3 ⟨ax,N,rfl,a2,ap⟩
   have al:=(ap.1.fR _ _ _ _ i ae ae).trans i;have aT:=ap.1.size;simp at aT;have y0:w3.cell? (ao w.heap.size 0)=some (ak 0):=aA al
   have y1:w3.cell? (ao w.heap.size 1)=some (ak 0):=aA al
   have aV:w3.frozen? (ao w.heap.size 0)=false:=aC al
   have a0:w3.frozen? (ao w.heap.size 1)=false:=aC al
   have a3:¬fF N w.heap.size:=fun c=>(ap.2 _ c).elim (fun c=>by have:=H.o.fb _ c;omega) (fun c=>by simp at c;omega)
   have ad:=hide ((ff.of j).trans ap)
   have ag:ay (∀ai,Fr (fun k=>k=w.heap.size) w3 ai->_):=fun ai f=>a2.but f (fun k _ e=>by have e:=e;rw[e];exact⟨⟨_,al⟩,a3,H.o.dx.size⟩)
   go_wp2_with fail;obtain⟨b,hW0⟩:∃b,b=(w3.setCell ⟨w.heap.size,0,none⟩ (.int .i64 3)).setCell ⟨w.heap.size,1,none⟩ (.int .i64 z):=⟨_,rfl⟩
   rw[<-hW0];have g0:b.cell? (ao w.heap.size 0)=some (ak 3):=by exact kS
   have g1:b.cell? (ao w.heap.size 1)=some (ak z):=by exact wi
   have l:Fr (fun k=>k=w.heap.size) w3 b:=by rw[hW0];exact((Fr.refl (fun k=>k=w.heap.size) w3).set w.heap.size 0 _ rfl).set w.heap.size 1 _ rfl
   exact bz (v:=.agg #[ak 3,ak z]) (by simp[results,results130,go_sem,g0,g1]) rfl ⟨ax,N,rfl,ag.o b l,ad.o.new l (fun k e=>Nat.le_of_eq (Eq.symm e))⟩
 ·have ev:dw M T s x=((dk x,dA x),s):=by unfold dw;rw[aH o]
  rw[ev];have bb:(dk x !=3)=true:=by simpa using o
  clear ev o hM aF aR;generalize dk x=u at P bb⊢;generalize dA x=v at P⊢;generalize dc x=cc at P;go_enter func130,ntmps130;go_wp2_with fail;refine P.mono ?_;clear P;rintro e w1 ⟨rfl,d⟩
  have g:=(d.block w.heap.size ac).trans W;have q:=S.trans (d.mono ac)
  have ab:=d.size;simp at ab;have y0:w1.cell? (ao w.heap.size 0)=some (ak 0):=aA g
  have y1:w1.cell? (ao w.heap.size 1)=some (ak 0):=aA g
  have aV:w1.frozen? (ao w.heap.size 0)=false:=aC g
  have a0:w1.frozen? (ao w.heap.size 1)=false:=aC g
  have l1:w.heap.size<w1.heap.size:=aa;have n1:¬w.heap.size=w1.heap.size:=aa;have be:¬w1.heap.size=w.heap.size:=aa;have g:=hide g;clear W S d;go_wp2_with fail;obtain⟨b,hW0⟩:∃b,b=(w1.setCell ⟨w.heap.size,0,none⟩ (.int .i64 u)).setCell ⟨w.heap.size,1,none⟩ (.int .i64 v):=⟨_,rfl⟩
  rw[<-hW0];have g0:b.cell? (ao w.heap.size 0)=some (ak u):=by exact kS
  have g1:b.cell? (ao w.heap.size 1)=some (ak v):=by exact r5
  have l:Fr (fun k=>k=w.heap.size) w1 b:=by rw[hW0];exact((Fr.refl (fun k=>k=w.heap.size) w1).set w.heap.size 0 _ rfl).set w.heap.size 1 _ rfl
  have bg:b.heap.size=w1.heap.size:=by rw[hW0];simp[World.setCell]
  have ar:=aq b (.cells #[.int .i64 u,.int .i64 v] 97)
  have ag:=((H.o.below q).but l (fun k _ e=>by have e:=e;rw[e];exact⟨⟨_,g.o⟩,fun c=>by have:=H.o.fb _ c;omega,H.o.dx.size⟩)).below ar;have ad:=((ff.of (w0:=w0) (m:=m) q).new l (fun k e=>Nat.le_of_eq (Eq.symm e))).trans (ff.of ar)
  have r0:=(ar.cell (p:=ao w.heap.size 0) (by show w.heap.size<_;omega)).trans g0;have r1:=(ar.cell (p:=ao w.heap.size 1) (by show w.heap.size<_;omega)).trans g1;generalize b.alloc (.cells #[.int .i64 u,.int .i64 v] 97)=bi at*;exact bz (v:=.agg #[ak u,ak v]) (by simp[results,results130,go_sem,r0,r1]) rfl ⟨vn,m,rfl,ag,ad⟩
end
end Go.Proofs.YtpkjkjhanlbcoaaGreat
