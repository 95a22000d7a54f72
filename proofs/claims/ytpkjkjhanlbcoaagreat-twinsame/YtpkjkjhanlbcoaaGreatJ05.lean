import Derived.Test.YtpkjkjhanlbcoaaGreatJ04
import Derived.Maps.OwnSet
namespace Go.Proofs.YtpkjkjhanlbcoaaGreat
set_option maxRecDepth 100000
set_option maxHeartbeats 1000000
open Tryz
open Go.RowKit W
theorem sj {P:Prop}(h:P:=by
 go_wp2_with fail;refine P.mono ?_;clear P;rintro e w1 ⟨rfl,hb1⟩
 have y1:=(hb1.cell (p:=aq pw 0) it).trans c0;go_wp2_with fail;refine(kF.out w1 hb1).mono ?_;rintro e w2 ⟨rfl,W2,F2⟩
 clear y1;go_wp2_with fail;refine(nW.out w2).mono ?_;rintro e w3 ⟨rfl,hb3⟩
 have W3:=W2.out.below hb3;have mO:=F2.out.trans (Fr.of (X:=fun k=>k=p\/k=q\/k=pc\/k=cO) hb3) (fun _ c=>aK c)
 obtain⟨y0,y1,_,_,l3⟩:=W3.cells;clear y0 y1;go_wp2_with fail;go_ret;exact⟨rfl,W3,mO⟩):P:=h
theorem wN {P:Prop}(h:P:=by
 have hl:((ws.drop f).take n).length=n:=by simp;omega
 unfold splice;rw[hl];simp only [List.getD_eq_getElem?_getD];by_cases c:i<t
 ·rw[List.getElem?_append_left (by simp;omega),aG V,List.getElem?_take_of_lt c]
 ·have e1:(ws.take t).length=t:=by simp;omega
  rw[List.getElem?_append_right V,e1];by_cases c2:i<t+n
  ·rw[aI V,List.getElem?_append_left V,List.getElem?_take_of_lt V,List.getElem?_drop,show f+(i-t)=f+i-t by omega]
  ·rw[aG V,List.getElem?_append_right V,hl,List.getElem?_drop,show t+n+(i-t-n)=i by omega]):P:=h
theorem wO {P:Prop}(h:P:=by
 go_enter func92,ntmps92;go_wp2_with fail;refine P.mono ?_;rintro e w1 ⟨rfl,hb1⟩
 have y1:=(hb1.cell (p:=aq pw 0) it).trans hc;go_wp2_with fail;refine(K.out w1 hb1).mono ?_;rintro e w2 ⟨rfl,hb2⟩
 have ed:=hb1.trans (hb2.mono hb1.size)
 go_wp2_with fail;refine(kF.out w2 ed).mono ?_;rintro e w3 ⟨rfl,hb3⟩
 have jK:=ed.trans (hb3.mono ed.size)
 go_wp2_with fail
 go_ret3
 exact⟨rfl,jK⟩):P:=h
theorem p5 {P:Prop}(h:P:=by rw[dW (hZ hi.1 hi.2),dW (hZ hi.1 hi.2),k8 _ _ _ _ _ hlt,aG V,aG V]):P:=h
theorem wP {P:Prop}(h:P:=by
 go_enter func92,ntmps92;go_wp2_with fail;refine P.mono ?_;rintro e w1 ⟨rfl,hb1⟩
 have y1:=(hb1.cell (p:=aq pw 0) it).trans hc;go_wp2_with fail;refine(K.out w1 hb1).mono ?_;rintro e w2 ⟨rfl,hb2⟩
 have ed:=hb1.trans (hb2.mono hb1.size)
 go_wp2_with fail
 go_ret3
 exact⟨rfl,ed⟩):P:=h
theorem sk {P:Prop}(h:P:=by rw[dW (iM hi.1 V),dW (iM hi.1 hi.2),k8 _ _ _ _ _ hlt,aG V,aG V]):P:=h
theorem dj (h:Int):0<=pf h/\pf h<=12:=by
 unfold pf;split
 ·have:=iU _ _ (by assumption)
  omega
 ·omega
theorem mP {N y g:Nat}{ws:List Int}{hi:Int}:∀(k:Nat)(a x:Int),x∈eA N y g ws hi k a->a<=x/\x<hi
 |0,_,_,h=>by simp[eA] at h
 |k+1,a,x,h=>by
  unfold eA at h;split at h
  ·split at h
   ·rcases List.mem_cons.1 h with h|h
    ·rw[h];exact⟨Int.le_refl _,by assumption⟩
    ·have b:=mP k _ x h;have c:=dj (ld N y g ws a)
     omega
   ·simp at h
  ·simp at h
theorem wQ {N O y g:Nat}{ws:List Int}{x:Int}(h:tB N y g ws x=true)(hN:N<=256)(hy:y<=N)(hO:O<=1024)(hg:g<=O):0<=cg x/\cg x<=1280:=by
 unfold tB at h;simp only [Bool.and_eq_true,Bool.or_eq_true,List.contains_iff_mem] at h;rcases h.2 with h|h
 ·have:=mP _ _ _ h;omega
 ·have:=mP _ _ _ h;omega
def ej (N y g:Nat)(ws:List Int)(x i:Int):Int:=
 if tB N y g ws x=true then(if pk (ld N y g ws (cg x))=5 then 2 else if i<0\/iw N y g (cg x) (pf (ld N y g ws (cg x)))<=i then 1 else 0) else 2
section
variable {pw p q N O y g:Nat}{ws:List Int}
theorem wR (x i:Int)(w:ax)(hc:w.cell? (aq pw 0)=some (aj p))(h:At w p q N O y g ws):
 Calls prog 92 #[aj pw,ah x,ah i] w fun e w'=>e=.returned (.tuple #[ah (if ej N y g ws x i=0 then cg x else 0),ah (if ej N y g ws x i=0 then cg x+1+i else 0),ah (ej N y g ws x i)])/\aw w w':=by
 have c:ay (At w p q N O y g ws):=h;have it:=aQ w _ hc;have P:=wL x w hc h;have k1:=h.hN';have l:=h.hy;have m:=h.hO;have n:=h.hg;cases ht:tB N y g ws x
 ·rw[ht] at P;have b:ej N y g ws x i=2:=by unfold ej;rw[ht,aG Z]
  rw[b,aG aa,aG aa];generalize jN N y g ws x=v at P;go_enter func92,ntmps92;go_wp2_with fail;refine P.mono ?_;rintro e w1 ⟨rfl,hb1⟩
  go_wp2_with fail
  go_ret3
  exact⟨rfl,hb1⟩
 ·obtain⟨d,b1⟩:=wQ (O:=O) ht k1 l m n;have j:=dj (ld N y g ws (cg x))
  rw[ht] at P;have ev:jN N y g ws x=cg x:=by simp[jN,ht]
  rw[ev] at P;have b:ej N y g ws x i=if pk (ld N y g ws (cg x))=5 then 2 else if i<0\/iw N y g (cg x) (pf (ld N y g ws (cg x)))<=i then 1 else 0:=by unfold ej;rw[aI ht]
  rw[b];generalize cg x=v at P j d b1;have K:ay (∀w1,aw w w1->_):=fun w1 hb=>gd v w1 (c.out.below hb bW)
  have kF:ay (∀w1,aw w w1->Calls prog 171 #[aj pw,ah v,ah (pf (ld N y g ws v))] w1 fun e w'=>e=.returned (ah (iw N y g v (pf (ld N y g ws v))))/\aw w1 w'):=fun w1 hb=>wM v _ w1 ((hb.cell (p:=aq pw 0) it).trans hc) (c.out.below hb bW) d V;have o:iw N y g v (pf (ld N y g ws v))<=12:=by unfold iw;exact Int.le_trans (Int.min_le_left _ _) j.2
  generalize iw N y g v (pf (ld N y g ws v))=s at kF o⊢;generalize pk (ld N y g ws v)=kd at K⊢;generalize pf (ld N y g ws v)=f at K kF;generalize pc (ld N y g ws v)=cc at K;by_cases k:kd=5
  ·subst k;rw[aI rfl,aG aa,aG aa];exact wP
  ·rw[aG k];by_cases hi:i<0
   ·rw[aI (aK hi),aG aa,aG aa];exact wP
   ·by_cases hs:s<=i
    ·rw[aI (aJ hs),aG aa,aG aa];exact wO
    ·have t:¬(i<0\/s<=i):=V;rw[aG t,aI rfl,aI rfl];exact wO
theorem CV (x i:Int)(w:ax)(hc:w.cell? (aq pw 0)=some (aj p))(h:At w p q N O y g ws):
 Calls prog 45 #[aj pw,ah x,ah i] w fun e w'=>e=.returned (.tuple #[ah (if ej N y g ws x i=0 then ld N y g ws (cg x+1+i) else 0),ah (ej N y g ws x i)])/\aw w w':=by
 have c:=hide h;have d:=aQ w _ hc;have P:=wR x i w hc h;generalize ej N y g ws x i=cd at P⊢;by_cases h0:cd=0
 ·subst h0;rw[aI rfl,aI rfl] at P;rw[aI rfl];generalize cg x+1+i=fl at P⊢;generalize cg x=v at P;go_enter func45,ntmps45;go_wp2_with fail;refine P.mono ?_;rintro e w1 ⟨rfl,b⟩
  have y1:=(b.cell (p:=aq pw 0) d).trans hc;go_wp2_with fail;refine(jJ fl w1 (c.out.below b bW)).mono ?_;rintro e k ⟨rfl,f⟩
  have j:=b.trans (f.mono b.size)
  go_wp2;go_ret2;exact⟨rfl,j⟩
 ·rw[aG h0,aG h0] at P;rw[aG h0];go_enter func45,ntmps45;go_wp2_with fail;refine P.mono ?_;rintro e w1 ⟨rfl,b⟩
  go_wp2;go_ret2;exact⟨rfl,b⟩
end
def d4 (L:Int->Int)(hi:Int):Int->List Int->Prop
 |a,[]=>a=hi
 |a,x::l=>x=a/\pc (L a)=0/\a+(1+pf (L a))<=hi/\d4 L hi (a+(1+pf (L a))) l
section
variable {L L':Int->Int}{hi:Int}
theorem d4.done:d4 L hi hi []:=rfl
theorem d4.step {a:Int}{l:List Int}(h0:pc (L a)=0)(b:a+(1+pf (L a))<=hi)(ht:d4 L hi (a+(1+pf (L a))) l):d4 L hi a (a::l):=⟨rfl,h0,b,ht⟩
theorem d4.mem {a:Int}{l:List Int}(h:d4 L hi a l):∀x∈l,a<=x/\x+(1+pf (L x))<=hi/\pc (L x)=0:=by
 induction l generalizing a with
 |nil=>intro x b;simp at b
 |cons z l c=>
  obtain⟨rfl,h0,d,ht⟩:=h;intro x b;rcases List.mem_cons.1 b with rfl|b
  ·exact⟨Int.le_refl _,d,h0⟩
  ·have:=dj (L z)
   have e:=c ht x b;exact⟨V,e.2⟩
theorem d4.apart {a:Int}{l:List Int}(h:d4 L hi a l):∀x∈l,∀z∈l,x<z->x+(1+pf (L x))<=z:=by
 induction l generalizing a with
 |nil=>intro x b;simp at b
 |cons y l e=>
  obtain⟨rfl,h0,i,ht⟩:=h;intro x b z hz f;rcases List.mem_cons.1 b with ex|d
  ·rcases List.mem_cons.1 hz with g|c
   ·omega
   ·rw[ex];exact(ht.mem z c).1
  ·rcases List.mem_cons.1 hz with g|c
   ·have j:=(ht.mem x d).1;have k:=dj (L y)
    omega
   ·exact e ht x d z c f
theorem d4.heads {a:Int}{l:List Int}(h:d4 L hi a l)(he:∀x∈l,L' x=L x):d4 L' hi a l:=by
 induction l generalizing a with
 |nil=>exact h
 |cons z l b=>
  obtain⟨rfl,h0,c,ht⟩:=h;have e:=he z Z;refine .step (by rw[e];exact h0) (by rw[e];exact c) ?_;rw[e];exact b ht (fun x d=>he x (by simp[d]))
theorem d4.snoc {a:Int}{l:List Int}(h:d4 L hi a l)(he:∀x∈l,L' x=L x){b:Int}(h0:pc (L' hi)=0)(c:b=hi+(1+pf (L' hi))):d4 L' b a (l++[hi]):=by
 have hp:=dj (L' hi)
 induction l generalizing a with
 |nil=>
  have e:=h;subst e;refine .step h0 V ?_;rw[<-c];exact .done
 |cons z l d=>
  obtain⟨rfl,f,i,ht⟩:=h;have e:=he z Z;refine .step (by rw[e];exact f) (by rw[e];omega) ?_;rw[e];exact d ht (fun x g=>he x (by simp[g]))
theorem d4.field {a:Int}{l:List Int}(h:d4 L hi a l){v i:Int}(hv:v∈l)(b:0<=i)(c:i<pf (L v)):v+1+i∉l:=by intro hm;have:=h.apart v hv _ hm V;omega
theorem d4.eA {N y g:Nat}{ws:List Int}{hi a:Int}{l:List Int}(h:d4 (ld N y g ws) hi a l):∀k:Nat,hi-a<=k->eA N y g ws hi k a=l:=by
 induction l generalizing a with
 |nil=>
  have e:a=hi:=h;subst e;intro k _;exact v9 k (Int.le_refl _)
 |cons z l b=>
  obtain⟨rfl,h0,c,ht⟩:=h;intro k hk;have hp:=dj (ld N y g ws z)
  match k,hk with
  |0,hk=>omega
  |k+1,hk=>
   unfold Proofs.YtpkjkjhanlbcoaaGreat.eA;rw[aI V,aI h0,b ht k V]
end
structure d5 (N y g:Nat)(ws:List Int)(Y G:List Int):Prop where
 ty:d4 (ld N y g ws) y 0 Y
 ec:d4 (ld N y g ws) ((N:Int)+g) N G
theorem d5.lists {N O y g:Nat}{ws:List Int}{Y G:List Int}(h:d5 N y g ws Y G)(hN:N<=256)(hy:y<=N)(hO:O<=1024)(hg:g<=O):ei N y g ws=Y/\dD N y g ws=G:=
 ⟨h.ty.eA 2000 V,h.ec.eA 2000 V⟩
theorem d5.start {N:Nat}{ws:List Int}:d5 N 0 0 ws [] []:=⟨.done,by simpa using d4.done (L:=ld N 0 0 ws) (hi:=(N:Int))⟩
theorem bh {p:Prop} [inst:Decidable p]:p -> Decidable.decide p = Bool.true:=decide_eq_true
theorem d5.stands {N y g:Nat}{ws:List Int}{Y G:List Int}(h:d5 N y g ws Y G)(hy:y<=N){v:Int}(hv:v∈Y\/v∈G):iw N y g v (pf (ld N y g ws v))=pf (ld N y g ws v):=by
 have hp:=dj (ld N y g ws v)
 refine Int.min_eq_left ?_;rcases hv with hv|hv
 ·have b:=h.ty.mem v hv;have e:hB N g v=false:=by rw[Bool.eq_false_iff];intro c;have:=js c;omega
  rw[e,aG Z];omega
 ·have b:=h.ec.mem v hv;have e:hB N g v=true:=by exact bh ⟨b.1,V⟩
  rw[e,aI rfl];omega
def k9 (M:List Int)(k:Int):List Int:=if M.contains k then M else M++[k]
theorem sq (M:List Int)(k j:Int):(k9 M k).contains j=(M.contains j||j==k):=by
 unfold k9;by_cases c:M.contains k=true
 ·rw[aI c];by_cases e:j=k
  ·subst e;rw[c];rfl
  ·simp[e]
 ·rw[aG c];by_cases e:j=k<;>simp[e]
theorem CW (M:List Int)(k:Int):(k9 M k).length<=M.length+1:=by unfold k9;split<;>simp
theorem sr:Maps.Keyed prog 173:=Maps.int_keyed Tryz.underlying173
theorem CX (w:ax):(zeroValue 212).run prog w=.ok (.agg #[]) w:=ae
structure Cd (w:ax)(p q:Nat)(B c:Int)(M:List Int):Prop where
 hp:w.heap[p]?=some (.cells #[ah B,.int .u64 c,.map (some q)] 176 (0,0))
 hq:∃D:DataW Unit,w.ownsMap prog 173 unitElem q M.length D/\(∀k:Int,Maps.has D (.int .u64 k)=M.contains k)/\Maps.size D=M.length
theorem ss {H:Type}{P:Program}{k:TypeId}{R:Value->Option _}{w w':ax}{b n:Nat}{D:DataW H}(h:w.ownsMap P k R b n D)(e:w'.heap[b]?=w.heap[b]?):w'.ownsMap P k R b n D:=by obtain⟨c,d,hb,r⟩:=h;exact⟨c,d,e.trans hb,r⟩
theorem su {H:Type}{P:Program}{k:TypeId}{R:Value->Option _}{w:ax}{b n m:Nat}{D:DataW H}(h:w.ownsMap P k R b n D)(e:Maps.size D=m):w.ownsMap P k R b m D:=by obtain⟨c,d,hb,F,hs,rfl⟩:=h;exact⟨c,d,hb,F,by rw[<-e];simp[Maps.size,length_sorted],rfl⟩
theorem Cd.eL {w:ax}{p q:Nat}{B c:Int}{M:List Int}(h:Cd w p q B c M):p<w.heap.size:=lt_of_some h.hp
theorem Cd.eM {w:ax}{p q:Nat}{B c:Int}{M:List Int}(h:Cd w p q B c M):q<w.heap.size:=by obtain⟨D,b,_⟩:=h.hq;exact b.lt
theorem Cd.ne {w:ax}{p q:Nat}{B c:Int}{M:List Int}(h:Cd w p q B c M):p≠q:=by intro e;obtain⟨D,⟨d,f,hb,_⟩,_⟩:=h.hq;have b:=h.hp;rw[e,hb] at b;simp at b
theorem Cd.same {w w':ax}{p q:Nat}{B c:Int}{M:List Int}(h:Cd w p q B c M)(ep:w'.heap[p]?=w.heap[p]?)(eq:w'.heap[q]?=w.heap[q]?):Cd w' p q B c M:=by obtain⟨D,b,d⟩:=h.hq;exact⟨ep.trans h.hp,D,ss b eq,d⟩
theorem Cd.below {w w':ax}{p q X:Nat}{B c:Int}{M:List Int}(h:Cd w p q B c M)(hb:Below X w w')(b:w.heap.size<=X):Cd w' p q B c M:=
 h.same (hb.block p (aM h.eL b)) (hb.block q (aM h.eM b))
theorem Cd.cells {w:ax}{p q:Nat}{B c:Int}{M:List Int}(h:Cd w p q B c M):
 w.cell? (aq p 0)=some (ah B)/\w.cell? (aq p 1)=some (.int .u64 c)/\w.cell? (aq p 2)=some (.map (some q)):=by
 have hp:=h.hp;refine⟨?_,?_,?_⟩<;>simp[World.cell?,hp]
theorem Cd.put {w w':ax}{p q:Nat}{B c k:Int}{M:List Int}{D:DataW Unit}{n:Nat}(h:w.heap[p]?=some (.cells #[.int .i64 B,.int .u64 c,.map (some q)] 176 (0,0)))
 (h0:w.ownsMap prog 173 unitElem q M.length D)(d:∀k:Int,Maps.has D (.int .u64 k)=M.contains k)(f:Maps.size D=M.length)(g:p≠q)
 (l:w'.ownsMap prog 173 unitElem q n (D.put (.int .u64 k) (.agg [])))(b:w.grownBy w' (some q)):Cd w' p q B c (k9 M k)/\c_ p q w w':=by
 have hs:Maps.size (D.put (.int .u64 k) (.agg []))=(k9 M k).length:=by rw[Maps.size_put (h0.tidy sr),d,f];unfold k9;split<;>simp
 refine⟨⟨(b.block p (lt_of_some h) (fun e=>g (by cases e;rfl))).trans h,_,su l hs,fun j=>?_,hs⟩,⟨b.os,b.tape,b.output,b.size,fun i hi _ e=>b.block i hi (fun m=>e (by cases m;rfl))⟩⟩
 rw[sq];by_cases e:j=k
 ·subst e;rw[Maps.has_put_same (k:=.int .u64 j) h0.isMap trivial];simp
 ·rw[Maps.has_put_other (by simpa using e),d];simp[e]
theorem Cd.none {w:ax}{p q:Nat}{B c:Int}(h:w.heap[p]?=some (.cells #[.int .i64 B,.int .u64 c,.map (some q)] 176 (0,0)))(b:w.ownsMap prog 173 unitElem q 0 (.map []:DataW Unit)):Cd w p q B c []:=
 ⟨h,_,b,fun _=>rfl,rfl⟩
def dF (x:Int):Int:=if x<0 then 0 else(x+8-1)/8
def cN (B a:Int):Int:=if a<B then 0 else(a-B)/8
def fZ (B c a:Int):Bool:=decide (B<=a)&&decide ((a-B)/8<c)
theorem CY (x:Int)(w:ax)(h:x<=100000):Calls prog 166 #[ah x] w fun e w'=>e=.returned (.int .u64 (dF x))/\w'=w:=by
 by_cases c:x<0
 ·have e:dF x=0:=by unfold dF;rw[aI c]
  rw[e];go_enter func166,ntmps166;go_wp2;go_ret;exact⟨rfl,rfl⟩
 ·have e:dF x=(x+8-1)/8:=by unfold dF;rw[aG c]
  go_wp2;go_ret;exact⟨rfl,rfl⟩
theorem bq {p:Prop} [Decidable p]:¬p -> Decidable.decide p = Bool.false:=decide_eq_false
theorem wS {p q:Nat}{B c:Int}{M:List Int}(a:Int)(w:ax)(h:Cd w p q B c M)(hB:0<=B)(d:B<=100000)(ha:a<=9223372036854775807):
 Calls prog 175 #[aj p,ah a] w fun e w'=>e=.returned (.tuple #[.int .u64 (cN B a),.bool (fZ B c a)])/\aw w w':=by
 obtain⟨c0,c1,c2⟩:=h.cells;by_cases hc:a<B
 ·have e:fZ B c a=false:=by unfold fZ;rw[bq V];rfl
  have b:cN B a=0:=by unfold cN;rw[aI hc]
  rw[e,b];go_enter func175,ntmps175;go_wp2;go_ret2;exact⟨rfl,aH _ _⟩
 ·have e:fZ B c a=decide ((a-B)/8<c):=by unfold fZ;rw[bh V];rfl
  have b:cN B a=(a-B)/8:=by unfold cN;rw[aG hc]
  rw[e,b];go_enter func175,ntmps175;exact r9
def k_ (B c a:Int)(M:List Int):List Int:=if fZ B c a then k9 M (cN B a) else M
theorem wT {B c a:Int}{M:List Int}(h:fZ B c a=true):k_ B c a M=k9 M (cN B a):=by unfold k_;rw[aI h]
theorem CZ {B c a:Int}{M:List Int}(h:fZ B c a=false):k_ B c a M=M:=by unfold k_;rw[aG (by rw[h];simp)]
theorem wU {B a:Int}(hB:0<=B)(ha:a<=9223372036854775807):(Lit.int .u64 (cN B a)).wf=true:=by
 unfold cN;split
 ·decide
 ·have b:0<=(a-B)/8:=V;exact WalkArith.wf_u64 ⟨b,V⟩
theorem C1 {p q:Nat}{B c:Int}{M:List Int}(a:Int)(w:ax)(h:Cd w p q B c M)(hB:0<=B)(f:B<=100000)(ha:a<=9223372036854775807)(hM:M.length<=100000):
 Calls prog 97 #[aj p,ah a] w fun e w'=>e=.returned (.bool (fZ B c a))/\Cd w' p q B c (k_ B c a M)/\c_ p q w w':=by
 go_enter func97,ntmps97;go_wp2_with fail;refine(wS a _ h hB f ha).mono ?_;rintro e w1 ⟨rfl,d⟩
 have b:=h.below d bW
 obtain⟨c0,c1,c2⟩:=b.cells;obtain⟨D,o1,g,i⟩:=b.hq;cases hc:fZ B c a
 ·go_wp2;go_ret;exact⟨by rw[hc];rfl,by rw[CZ hc];exact b,c_.of d⟩
 ·go_wp2_with (first
   |(at_mapUpdate;refine wpList_mapUpdate_own _ rfl _ _ _ 174 rfl 173 212 sr Tryz.underlying174 _ q M.length D rfl o1 (by unfold maxLen;omega) _ _ _ rfl rfl (Maps.keyOf_int_mk (P:=prog) Tryz.underlying173 (wU (B:=B) (a:=a) hB ha)) _ [] unitElem_mk ?_;intro m j k)
   |go_in)
  go_ret;obtain⟨l,s2⟩:=Cd.put b.hp o1 g i b.ne j k;exact⟨by rw[hc];rfl,by rw[wT hc];exact l,(c_.of d).trans s2⟩
theorem C2 {p q:Nat}{B c:Int}{M:List Int}(a:Int)(w:ax)(h:Cd w p q B c M)(hB:0<=B)(f:B<=100000)(ha:a<=9223372036854775807):
 Calls prog 184 #[aj p,ah a] w fun e w'=>e=.returned (.bool (fZ B c a&&M.contains (cN B a)))/\aw w w':=by
 go_enter func184,ntmps184;go_wp2_with fail;refine(wS a _ h hB f ha).mono ?_;rintro e w1 ⟨rfl,b⟩
 have d:=h.below b bW
 obtain⟨c0,c1,c2⟩:=d.cells;obtain⟨D,o1,g,i⟩:=d.hq;cases hc:fZ B c a
 ·go_wp2;go_ret;exact⟨by rw[hc];rfl,b⟩
 ·go_wp2_with (first
   |(at_lookup;refine wpList_lookup_own_unit _ rfl _ _ 174 rfl 173 212 sr Tryz.underlying174 (CX _) q M.length D rfl o1 _ _ rfl (Maps.keyOf_int_mk Tryz.underlying173 (wU (a:=a) hB ha)) ?_)
   |go_in)
  go_ret;exact⟨by rw[hc];simp,b.alloc b.size _⟩
theorem sv {p:Nat}{B c:Int}{v:Value}(w:ax)(h:w.heap[p]?=some (.cells #[ah B,.int .u64 c,v] 176 (0,0))):
 Calls prog 115 #[aj p] w fun e w'=>e=.returned (.tuple #[])/\Cd w' p w.heap.size B c []/\c_ p p w w':=by
 have b:=@run_makeMap prog;have hp:=lt_of_some h;have d:(w.alloc (.map #[] 0)).frozen? (aq p 2)=false:=by simp[World.frozen?,Below.heap_alloc _ _ _ hp,h]
 have hc:(w.alloc (.map #[] 0)).cell? (aq p 2)=some v:=by simp[World.cell?,Below.heap_alloc _ _ _ hp,h]
 go_enter func115,ntmps115;go_wp2_with fail;go_end0;have hm:=World.ownsMap_made (w.setCell ⟨p,2,none⟩ (.map (some w.heap.size))) prog 173 (unitElem (H:=Unit))
 have hz:(w.setCell ⟨p,2,none⟩ (.map (some w.heap.size))).heap.size=w.heap.size:=by simp[World.setCell]
 rw[hz] at hm;refine⟨rfl,Cd.none ((aS _ _ _ V).trans ?_) hm,(c_.oJ _ _).trans (c_.of (bX.alloc bW _))⟩
 simp only [World.setCell,Array.getElem?_modify,if_true,h,Option.map_some];simp
theorem C3 (B x:Int)(w:ax)(h:x<=100000):
 Calls prog 87 #[ah B,ah x] w fun e w'=>∃p q,e=.returned (aj p)/\Cd w' p q B (dF x) []/\w.heap.size<=p/\w.heap.size<=q/\aw w w':=by
 go_enter func87,ntmps87;go_wp2_with fail;refine(CY x _ h).mono ?_;rintro e w1 ⟨rfl,b⟩
 have b:=b.symm;subst b;go_wp2_with fail;refine(sv (v:=.map none) _ (aN _ _)).mono ?_;rintro e d ⟨rfl,c,s2⟩
 go_wp2_with fail;go_ret;exact⟨_,_,rfl,c,aD _,Z,(bX.alloc bW _).trans (s2.below Z bW bW)⟩
structure h7 (w:ax)(pw p q pc cO N O y g:Nat)(ws:List Int)(c:Int)(M:List Int)(vs vr:Value):Prop where
 blk:w.heap[pw]?=some (.cells #[aj p,aj pc,vs,vr] 55 (0,0))
 ar:At w p q N O y g ws
 cd:Cd w pc cO N c M
section
variable {w w':ax}{pw p q pc cO N O y g:Nat}{ws:List Int}{c:Int}{M:List Int}{vs vr:Value}
theorem h7.cells (h:h7 w pw p q pc cO N O y g ws c M vs vr):w.cell? (aq pw 0)=some (aj p)/\w.cell? (aq pw 1)=some (aj pc)/\w.cell? (aq pw 2)=some vs/\w.cell? (aq pw 3)=some vr/\pw<w.heap.size:=
 ⟨by simp[World.cell?,h.blk],by simp[World.cell?,h.blk],by simp[World.cell?,h.blk],by simp[World.cell?,h.blk],lt_of_some h.blk⟩
theorem h7.apart (h:h7 w pw p q pc cO N O y g ws c M vs vr):pw≠p/\pw≠q/\pw≠pc/\pw≠cO/\p≠pc/\p≠cO/\q≠pc/\q≠cO:=by
 obtain⟨D,⟨j,k,hb,_⟩,_⟩:=h.cd.hq;have b:=h.blk;have d:=h.ar.hp;have f:=h.ar.hq;have i:=h.cd.hp;refine⟨fun e=>?_,fun e=>?_,fun e=>?_,fun e=>?_,fun e=>?_,fun e=>?_,fun e=>?_,fun e=>?_⟩
 ·rw[e,d] at b;simp at b
 ·rw[e,f] at b;simp at b
 ·rw[e,i] at b;simp at b
 ·rw[e,hb] at b;simp at b
 ·rw[e,i] at d;simp at d
 ·rw[e,hb] at d;simp at d
 ·rw[e,i] at f;simp at f
 ·rw[e,hb] at f;simp at f
theorem h7.below (h:h7 w pw p q pc cO N O y g ws c M vs vr)(hb:aw w w'):h7 w' pw p q pc cO N O y g ws c M vs vr:=
 ⟨(hb.block pw (lt_of_some h.blk)).trans h.blk,h.ar.below hb bW,h.cd.below hb bW⟩
theorem h7.arena (h:h7 w pw p q pc cO N O y g ws c M vs vr){b d:Nat}{e:List Int}(ha:At w' p q N O b d e)(s:c_ p q w w'):h7 w' pw p q pc cO N O b d e c M vs vr:=by obtain⟨a1,a2,l,m,f,i,j,k⟩:=h.apart;exact⟨(s.block pw (lt_of_some h.blk) a1 a2).trans h.blk,ha,h.cd.same (s.block pc h.cd.eL (Ne.symm f) (Ne.symm j)) (s.block cO h.cd.eM (Ne.symm i) (Ne.symm k))⟩
theorem h7.cards (h:h7 w pw p q pc cO N O y g ws c M vs vr){b:List Int}(hc:Cd w' pc cO N c b)(s:c_ pc cO w w'):h7 w' pw p q pc cO N O y g ws c b vs vr:=by obtain⟨a1,a2,d,e,f,i,j,k⟩:=h.apart;exact⟨(s.block pw (lt_of_some h.blk) d e).trans h.blk,h.ar.same (s.block p h.ar.eL f i) (s.block q h.ar.eM j k),hc⟩
def ge (N y g:Nat)(ws:List Int)(x i z:Int):List Int:=if ej N y g ws x i=0 then(if dd N y g (cg x+1+i)=true then ws.set (cg x+1+i).toNat z else ws) else ws
def mQ (N y g:Nat)(ws:List Int)(x i z:Int):Bool:=decide (ej N y g ws x i=0)&&(cY z&&hB 0 y (cg z)&&hB N g (cg x))
def stM (N y g:Nat)(ws:List Int)(x i z c:Int)(M:List Int):List Int:=if mQ N y g ws x i z=true then k_ N c (cg x) M else M
theorem C4 (x i z:Int)(h:h7 w pw p q pc cO N O y g ws c M vs vr)(hM:M.length<=100000):
 Calls prog 44 #[aj pw,ah x,ah i,ah z] w fun e w'=>e=.returned (ah (ej N y g ws x i))/\h7 w' pw p q pc cO N O y g (ge N y g ws x i z) c (stM N y g ws x i z c M) vs vr/\Fr (fun k=>k=p\/k=q\/k=pc\/k=cO) w w':=by
 have H:ay (_):=h;obtain⟨c0,c1,_,_,it⟩:=h.cells;have P:=wR x i w c0 h.ar;have k1:=h.ar.hN';have Q:=h.ar.hy;have R:=h.ar.hO;have S:=h.ar.hg;have U:∀{a b:ax},c_ p q a b->Fr (fun k=>k=p\/k=q\/k=pc\/k=cO) a b:=fun s=>⟨s.os,s.tape,s.output,s.size,fun k hk hn=>s.block k hk (fun e=>hn (aK e)) (fun e=>hn (aJ (aK e)))⟩
 have W:∀{a b:ax},c_ pc cO a b->Fr (fun k=>k=p\/k=q\/k=pc\/k=cO) a b:=fun s=>⟨s.os,s.tape,s.output,s.size,fun k hk hn=>s.block k hk (fun e=>hn (aJ (aJ (aK e)))) (fun e=>hn (aJ (aJ (aJ e))))⟩
 clear h;by_cases h0:ej N y g ws x i=0
 ·have ht:tB N y g ws x=true:=by
   cases e:tB N y g ws x
   ·unfold ej at h0;rw[e,aG Z] at h0;omega
   ·rfl
  obtain⟨Y,b1⟩:=wQ (O:=O) ht k1 Q R S;have u:ge N y g ws x i z=if dd N y g (cg x+1+i)=true then ws.set (cg x+1+i).toNat z else ws:=by unfold ge;rw[aI h0]
  have A:stM N y g ws x i z c M=if(cY z&&hB 0 y (cg z)&&hB N g (cg x))=true then k_ N c (cg x) M else M:=by unfold stM mQ;rw[bh h0,Bool.true_and]
  rw[h0,aI rfl,aI rfl] at P;rw[h0,u,A];clear u A h0 ht;generalize cg x+1+i=fl at P⊢;generalize cg x=v at P Y b1⊢;have kF:ay (∀w1,aw w w1->Calls prog 93 #[aj p,ah fl,ah z] w1 fun e w'=>e=.returned (.bool (dd N y g fl))/\ay (h7 w' pw p q pc cO N O y g (if dd N y g fl=true then ws.set fl.toNat z else ws) c M vs vr)/\ay (Fr (fun k=>k=p\/k=q\/k=pc\/k=cO) w w')):=fun w1 hb=>by
   have B:=H.out.below hb;refine(k3 fl z w1 B.ar).mono ?_;rintro e w2 ⟨rfl,ab,s2⟩
   exact⟨rfl,B.arena ab s2,(Fr.of (X:=fun k=>k=p\/k=q\/k=pc\/k=cO) hb).trans (U s2) (fun _ c=>aK c)⟩
  have nW:ay (∀w2,_):=fun w2=>nM z w2;generalize (if dd N y g fl=true then ws.set fl.toNat z else ws)=am at kF⊢;generalize dd N y g fl=an at kF;obtain⟨E,J⟩:∃b,cY z=b:=⟨_,rfl⟩
  rw[J] at nW⊢;clear J;generalize cg z=C at nW⊢;cases hb2:hB 0 y C
  ·rw[Bool.and_false,Bool.false_and,aG Z];cases E
   ·go_enter func44,ntmps44;exact sj
   ·go_enter func44,ntmps44;go_wp2_with fail;refine P.mono ?_;clear P;rintro e w1 ⟨rfl,hb1⟩
    have y1:=(hb1.cell (p:=aq pw 0) it).trans c0;go_wp2_with fail;refine(kF.out w1 hb1).mono ?_;rintro e w2 ⟨rfl,W2,F2⟩
    clear y1;go_wp2_with fail;refine(nW.out w2).mono ?_;rintro e w3 ⟨rfl,hb3⟩
    have W3:=W2.out.below hb3;have mO:=F2.out.trans (Fr.of (X:=fun k=>k=p\/k=q\/k=pc\/k=cO) hb3) (fun _ c=>aK c)
    obtain⟨y0,y1,_,_,l3⟩:=W3.cells;have d:=mK C w3 W3.ar;rw[hb2] at d;go_wp2_with fail;refine d.mono ?_;clear d;rintro e D ⟨rfl,j⟩
    have f:=W3.below j;have n:=mO.trans (Fr.of (X:=fun k=>k=p\/k=q\/k=pc\/k=cO) j) (fun _ c=>aK c)
    obtain⟨z0,o,_,_,K⟩:=f.cells;clear y0 y1;clear z0 o;go_wp2_with fail;go_ret;exact⟨rfl,f,n⟩
  ·rw[Bool.and_true];cases wV:hB N g v
   ·rw[Bool.and_false,aG Z];cases E
    ·go_enter func44,ntmps44;exact sj
    ·go_enter func44,ntmps44;go_wp2_with fail;refine P.mono ?_;clear P;rintro e w1 ⟨rfl,hb1⟩
     have y1:=(hb1.cell (p:=aq pw 0) it).trans c0;go_wp2_with fail;refine(kF.out w1 hb1).mono ?_;rintro e w2 ⟨rfl,W2,F2⟩
     clear y1;go_wp2_with fail;refine(nW.out w2).mono ?_;rintro e w3 ⟨rfl,hb3⟩
     have W3:=W2.out.below hb3;have mO:=F2.out.trans (Fr.of (X:=fun k=>k=p\/k=q\/k=pc\/k=cO) hb3) (fun _ c=>aK c)
     obtain⟨y0,y1,_,_,l3⟩:=W3.cells;have d:=mK C w3 W3.ar;rw[hb2] at d;go_wp2_with fail;refine d.mono ?_;clear d;rintro e D ⟨rfl,j⟩
     have f:=W3.below j;have n:=mO.trans (Fr.of (X:=fun k=>k=p\/k=q\/k=pc\/k=cO) j) (fun _ c=>aK c)
     obtain⟨z0,o,_,_,K⟩:=f.cells;clear y0 y1;have l:=mL v D f.ar;rw[wV] at l;go_wp2_with fail;refine l.mono ?_;clear l;rintro e L ⟨rfl,t⟩
     have m:=f.below t;have F:=n.trans (Fr.of (X:=fun k=>k=p\/k=q\/k=pc\/k=cO) t) (fun _ c=>aK c)
     obtain⟨G,I,_,_,ad⟩:=m.cells;clear z0 o;clear G I;go_wp2_with fail;go_ret;exact⟨rfl,m,F⟩
   ·rw[Bool.and_true];cases E
    ·rw[aG Z];go_enter func44,ntmps44;exact sj
    ·rw[aI rfl];go_enter func44,ntmps44;go_wp2_with fail;refine P.mono ?_;clear P;rintro e w1 ⟨rfl,hb1⟩
     have y1:=(hb1.cell (p:=aq pw 0) it).trans c0;go_wp2_with fail;refine(kF.out w1 hb1).mono ?_;rintro e w2 ⟨rfl,W2,F2⟩
     clear y1;go_wp2_with fail;refine(nW.out w2).mono ?_;rintro e w3 ⟨rfl,hb3⟩
     have W3:=W2.out.below hb3;have mO:=F2.out.trans (Fr.of (X:=fun k=>k=p\/k=q\/k=pc\/k=cO) hb3) (fun _ c=>aK c)
     obtain⟨y0,y1,_,_,l3⟩:=W3.cells;have d:=mK C w3 W3.ar;rw[hb2] at d;go_wp2_with fail;refine d.mono ?_;clear d;rintro e D ⟨rfl,j⟩
     have f:=W3.below j;have n:=mO.trans (Fr.of (X:=fun k=>k=p\/k=q\/k=pc\/k=cO) j) (fun _ c=>aK c)
     obtain⟨z0,o,_,_,K⟩:=f.cells;clear y0 y1;have l:=mL v D f.ar;rw[wV] at l;go_wp2_with fail;refine l.mono ?_;clear l;rintro e L ⟨rfl,t⟩
     have m:=f.below t;have F:=n.trans (Fr.of (X:=fun k=>k=p\/k=q\/k=pc\/k=cO) t) (fun _ c=>aK c)
     obtain⟨G,I,_,_,ad⟩:=m.cells;clear z0 o;go_wp2_with fail;refine(C1 v L m.cd V V V hM).mono ?_;rintro e ao ⟨rfl,ag,s6⟩
     have ai:=m.cards ag s6;have al:=F.trans (W s6) (fun _ c=>aK c)
     clear G I;go_wp2_with fail;go_ret;exact⟨rfl,ai,al⟩
 ·have u:ge N y g ws x i z=ws:=by unfold ge;rw[aG h0]
  have A:stM N y g ws x i z c M=M:=by unfold stM mQ;rw[bq h0];rfl
  rw[aG h0,aG h0] at P;rw[u,A];generalize ej N y g ws x i=cd at P h0⊢;go_enter func44,ntmps44;go_wp2_with fail;refine P.mono ?_;clear P;rintro e w1 ⟨rfl,hb1⟩
  have B:=H.out.below hb1;clear c0 c1;go_wp2_with fail;go_ret;exact⟨rfl,B,Fr.of hb1⟩
end
open Go.ChangeShapes Go.WideShapes Go.ChangeAt Go.RowKit Go.Joins Go.Deep W
namespace oS
theorem p6 (ws:List Int)(t f n i:Nat)(b:t+n<=ws.length)(d:f+n<=ws.length):
 (splice ws t ((ws.drop f).take n)).getD i 0=if t<=i/\i<t+n then ws.getD (f+i-t) 0 else ws.getD i 0:=by
 exact wN
theorem copied {N O y g:Nat}{ws:List Int}{a:Nat}(hl:ws.length=N+O)(hy:y<=N)(hi:dd N y g a=true)(n:Nat)(d:1+(n:Int)<=gg N y g a-a)(f:1+(n:Int)<=(O:Int)-g)(j:Nat)(i:j<=n):
 ld N y (g+(1+n)) (splice ws (N+g) ((ws.drop a).take (1+n))) ((N:Int)+g+j)=ws.getD (a+j) 0/\ld N y (g+(1+n)) (splice ws (N+g) ((ws.drop a).take (1+n))) ((a:Int)+j)=ws.getD (a+j) 0:=by
 have he:gg N y g a<=(N:Int)+g:=by unfold gg;split<;>omega
 constructor
 ·have b:hB N ((g+(1+n):Nat):Int) ((N:Int)+g+j)=true:=by simp[hB];omega
  have hi:dd N y (g+(1+n)) ((N:Int)+g+j)=true:=by unfold dd;rw[b];simp
  unfold ld;rw[aI hi,show((N:Int)+g+j).toNat=N+g+j by omega,p6 _ _ _ _ _ V V,aI V,show a+(N+g+j)-(N+g)=a+j by omega]
 ·have e:dd N y (g+(1+n)) ((a:Int)+j)=true:=by
   unfold gg at d;split at d
   ·rename_i c;have c:=js c;have b:hB 0 y ((a:Int)+j)=true:=by simp[hB];omega
    unfold dd;rw[b];rfl
   ·rename_i c;have c1:hB N g a=true:=by unfold dd at hi;simp only [Bool.not_eq_true] at c;rw[c] at hi;simpa using hi
    have c2:=js c1;have b:hB N ((g+(1+n):Nat):Int) ((a:Int)+j)=true:=by simp[hB];omega
    unfold dd;rw[b];simp
  unfold ld;rw[aI e,show((a:Int)+j).toNat=a+j by omega,p6 _ _ _ _ _ V V,aG V]
end oS
open Go.RowKit W oS
theorem dW {N y g:Nat}{ws:List Int}{a:Int}(h:dd N y g a=true):ld N y g ws a=ws.getD a.toNat 0:=by unfold ld;rw[aI h]
theorem iM {N y g:Nat}{a:Int}(h0:0<=a)(b:a<y):dd N y g a=true:=by unfold dd hB;rw[bh (⟨h0,V⟩:(0:Int)<=a/\a<0+(y:Int))];rfl
theorem hZ {N y g:Nat}{a:Int}(h0:(N:Int)<=a)(b:a<(N:Int)+g):dd N y g a=true:=by unfold dd hB;rw[bh (⟨h0,b⟩:(N:Int)<=a/\a<(N:Int)+g),Bool.or_true]
section
variable {N O y g:Nat}{ws:List Int}{Y G:List Int}
theorem d5.ix (h:d5 N y g ws Y G):∀x∈Y,0<=x/\x<y:=fun x b=>by
 have c:=h.ty.mem x b;have d:=dj (ld N y g ws x)
 omega
theorem d5.io (h:d5 N y g ws Y G):∀x∈G,(N:Int)<=x/\x<(N:Int)+g:=fun x b=>by
 have c:=h.ec.mem x b;have d:=dj (ld N y g ws x)
 omega
theorem d5.make (h:d5 N y g ws Y G)(hl:ws.length=N+O){k f:Int}(hm:iK N y k f=true):d5 N (iW N y k f) g (fq N y k f ws) (Y++[(y:Int)]) G:=by
 obtain⟨c,j⟩:=oQ hm;have l:=iU k f c;have e:iW N y k f=y+1+f.toNat:=by unfold iW;rw[aI hm]
 have i:fq N y k f ws=fC ws y (hw k f) f.toNat:=by unfold fq;rw[aI hm]
 rw[e,i];have hlt:y+f.toNat<ws.length:=V;have d:ld N (y+1+f.toNat) g (fC ws y (hw k f) f.toNat) y=hw k f:=wG _ _ hlt;have hp:=pU k f c;refine⟨h.ty.snoc (fun x b=>?_) (by rw[d];exact hp.2.2) (by rw[d,hp.2.1];omega),h.ec.heads (fun x b=>?_)⟩
 ·have hi:=h.ix x b;exact sk
 ·have hi:=h.io x b;exact p5
theorem d5.copy (h:d5 N y g ws Y G)(hl:ws.length=N+O)(hy:y<=N)(hg:g<=O){a:Int}(hm:iu N O y g ws a=true)(ha:a∈Y\/a∈G):d5 N y (jL N O y g ws a) (jM N O y g ws a) Y (G++[((N+g:Nat):Int)])/\ld N y (jL N O y g ws a) (jM N O y g ws a) ((N+g:Nat):Int)=ld N y g ws a:=by
 obtain⟨f,o,p⟩:=nV hm;have hp:=dj (ld N y g ws a)
 have j:jL N O y g ws a=g+(1+(pf (ld N y g ws a)).toNat):=by unfold jL;rw[aI hm]
 have k:jM N O y g ws a=splice ws (N+g) ((ws.drop a.toNat).take (1+(pf (ld N y g ws a)).toNat)):=by unfold jM;rw[aI hm]
 have l:0<=a/\a+(1+pf (ld N y g ws a))<=(N:Int)+g/\dd N y g a=true:=by
  rcases ha with ha|ha
  ·have m:=h.ty.mem a ha;have b:=h.ix a ha;exact⟨b.1,V,iM b.1 b.2⟩
  ·have m:=h.ec.mem a ha;have b:=h.io a ha;exact⟨V,V,hZ b.1 b.2⟩
 rw[j,k];obtain⟨n,hn⟩:∃n,n=(pf (ld N y g ws a)).toNat:=⟨_,rfl⟩
 rw[<-hn];have c:∀i:Nat,_=_:=fun i=>p6 ws (N+g) a.toNat (1+n) i V V;have d:ld N y (g+(1+n)) (splice ws (N+g) ((ws.drop a.toNat).take (1+n))) ((N+g:Nat):Int)=ld N y g ws a:=by rw[dW (hZ V V),Int.toNat_natCast,c,aI V,Nat.add_sub_cancel,dW l.2.2]
 refine⟨⟨h.ty.heads (fun x e=>?_),?_⟩,d⟩
 ·have hi:=h.ix x e;rw[dW (iM hi.1 hi.2),dW (iM hi.1 hi.2),c,aG V]
 ·have ht:=h.ec;rw[show(N:Int)+g=((N+g:Nat):Int) by omega] at ht;refine ht.snoc (fun x e=>?_) (by rw[d];exact f) (by rw[d];omega)
  have hi:=h.io x e;rw[dW (hZ hi.1 V),dW (hZ hi.1 hi.2),c,aG V]
theorem d5.set (h:d5 N y g ws Y G)(hl:ws.length=N+O)(hy:y<=N)(hg:g<=O){v i z:Int}(hv:v∈Y\/v∈G)(f:0<=i)(j:i<pf (ld N y g ws v)):d5 N y g (ws.set (v+1+i).toNat z) Y G/\∀x,(x∈Y\/x∈G)->ld N y g (ws.set (v+1+i).toNat z) x=ld N y g ws x:=by
 have hb:0<=v/\v+1+i<(N:Int)+g:=by
  rcases hv with hv|hv
  ·have d:=h.ty.mem v hv;have c:=h.ix v hv;omega
  ·have d:=h.ec.mem v hv;have c:=h.io v hv;omega
 have key:∀x,(x∈Y\/x∈G)->ld N y g (ws.set (v+1+i).toNat z) x=ld N y g ws x:=fun x b=>by
  have k:x≠v+1+i:=by
   intro e;rcases hv with hv|hv<;>rcases b with b|b
   ·exact h.ty.field hv f j (by rw[<-e];exact b)
   ·have d:=h.ty.mem v hv;have c:=h.io x b;omega
   ·have d:=h.io v hv;have c:=h.ix x b;omega
   ·exact h.ec.field hv f j (by rw[<-e];exact b)
  have hi:dd N y g x=true/\0<=x:=by
   rcases b with b|b
   ·have c:=h.ix x b;exact⟨iM c.1 c.2,c.1⟩
   ·have c:=h.io x b;exact⟨hZ c.1 c.2,V⟩
  rw[dW hi.1,dW hi.1,j_ _ _ _ _ V,aG V]
 exact⟨⟨h.ty.heads (fun x b=>key x (aK b)),h.ec.heads (fun x b=>key x (aJ b))⟩,key⟩
end
end Go.Proofs.YtpkjkjhanlbcoaaGreat
