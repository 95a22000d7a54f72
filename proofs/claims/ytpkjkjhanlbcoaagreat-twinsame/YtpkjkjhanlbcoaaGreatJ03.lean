import Derived.Test.YtpkjkjhanlbcoaaGreatJ02
import Derived.Maps.OwnSet
namespace Go.Proofs.YtpkjkjhanlbcoaaGreat
set_option maxRecDepth 100000
set_option maxHeartbeats 1000000
open Tryz
open Go.RowKit W
theorem sv {P:Prop}(h:P:=by
 go_wp2_with fail;refine P.mono ?_;clear P;rintro e w1 ⟨rfl,hb1⟩
 have y1:=(hb1.cell (p:=aq pw 0) ir).trans c0;go_wp2_with fail;refine(kE.o w1 hb1).mono ?_;rintro e w2 ⟨rfl,W2,F2⟩
 clear y1;go_wp2_with fail;refine(nV.o w2).mono ?_;rintro e w3 ⟨rfl,hb3⟩
 have W3:=W2.o.below hb3;have mN:=F2.o.trans (Fr.of (X:=fun k=>k=p\/k=q\/k=pc\/k=cO) hb3) (fun _ c=>aK c)
 obtain⟨y0,y1,_,_,l3⟩:=W3.cells;clear y0 y1;go_wp2_with fail;go_ret;exact⟨rfl,W3,mN⟩):P:=h
theorem wQ {P:Prop}(h:P:=by
 have hl:((ws.drop f).take n).length=n:=by simp;omega
 unfold splice;rw[hl];simp only [List.getD_eq_getElem?_getD];by_cases c:i<t
 ·rw[List.getElem?_append_left (by simp;omega),aG V,List.getElem?_take_of_lt c]
 ·have e1:(ws.take t).length=t:=by simp;omega
  rw[List.getElem?_append_right V,e1];by_cases c2:i<t+n
  ·rw[aI V,List.getElem?_append_left V,List.getElem?_take_of_lt V,List.getElem?_drop,show f+(i-t)=f+i-t by omega]
  ·rw[aG V,List.getElem?_append_right V,hl,List.getElem?_drop,show t+n+(i-t-n)=i by omega]):P:=h
theorem wR {P:Prop}(h:P:=by
 go_enter func171,ntmps171;go_wp2_with fail;refine(kC w HA.o).mono ?_;rintro e w1 ⟨rfl,hb1⟩
 have y1:=(hb1.cell (p:=aq pw 0) ir).trans hc;go_wp2_with fail;refine(mL w1 (HA.o.below hb1 bW)).mono ?_;rintro e w2 ⟨rfl,hb2⟩
 have ed:=hb1.trans (hb2.mono hb1.size)
 have y2:=(ed.cell (p:=aq pw 0) ir).trans hc;have P:=mK a w2 (HA.o.below ed bW)
 rw[ho] at P;go_wp2_with fail;refine P.mono ?_;rintro e w3 ⟨rfl,hb3⟩
 have jI:=ed.trans (hb3.mono ed.size)
 go_wp2_with fail;go_ret;exact⟨rfl,jI⟩):P:=h
theorem wS {P:Prop}(h:P:=by
 go_enter func92,ntmps92;go_wp2_with fail;refine P.mono ?_;rintro e w1 ⟨rfl,hb1⟩
 have y1:=(hb1.cell (p:=aq pw 0) ir).trans hc;go_wp2_with fail;refine(K.o w1 hb1).mono ?_;rintro e w2 ⟨rfl,hb2⟩
 have ed:=hb1.trans (hb2.mono hb1.size)
 go_wp2_with fail;refine(kE.o w2 ed).mono ?_;rintro e w3 ⟨rfl,hb3⟩
 have jI:=ed.trans (hb3.mono ed.size)
 go_wp2_with fail
 go_ret3
 exact⟨rfl,jI⟩):P:=h
theorem p7 {P:Prop}(h:P:=by rw[dW (hY hi.1 hi.2),dW (hY hi.1 hi.2),k7 _ _ _ _ _ hlt,aG V,aG V]):P:=h
theorem wT {P:Prop}(h:P:=by
 go_enter func92,ntmps92;go_wp2_with fail;refine P.mono ?_;rintro e w1 ⟨rfl,hb1⟩
 have y1:=(hb1.cell (p:=aq pw 0) ir).trans hc;go_wp2_with fail;refine(K.o w1 hb1).mono ?_;rintro e w2 ⟨rfl,hb2⟩
 have ed:=hb1.trans (hb2.mono hb1.size)
 go_wp2_with fail
 go_ret3
 exact⟨rfl,ed⟩):P:=h
theorem sw {P:Prop}(h:P:=by rw[dW (iK hi.1 V),dW (iK hi.1 hi.2),k7 _ _ _ _ _ hlt,aG V,aG V]):P:=h
theorem bz {α:Type _}{a:α}{«as»:List α}:(a :: «as»).length = «as».length + 1:=List.length_cons ..
theorem iL {N y g:Nat}{ws:List Int}{hi:Int}:∀(k:Nat)(a:Int),(eA N y g ws hi k a).length<=k
 |0,_=>by simp[eA]
 |k+1,a=>by
  have b:=iL (N:=N) (y:=y) (g:=g) (ws:=ws) (hi:=hi) k (a+(1+pf (ld N y g ws a)))
  unfold eA;split
  ·split
   ·rw[bz];omega
   ·simp
  ·simp
section
variable {pw p q N O y g:Nat}{ws:List Int}
theorem wU (x:Int)(w:ax)(hc:w.cell? (aq pw 0)=some (aj p))(h:At w p q N O y g ws):
 Calls prog 101 #[aj pw,ah x] w fun e w'=>e=.returned (.tuple #[ah (jL N y g ws x),.bool (tB N y g ws x)])/\Below w.heap.size w w':=
 CY x w hc h (aT (iL _ _) aa) (aT (iL _ _) aa)
theorem CZ (x:Int)(w:ax)(hc:w.cell? (aq pw 0)=some (aj p))(h:At w p q N O y g ws):
 Calls prog 48 #[aj pw,ah x] w fun e w'=>e=.returned (.tuple #[ah (if tB N y g ws x=true then pk (ld N y g ws (cg x)) else 0),ah (if tB N y g ws x=true then pf (ld N y g ws (cg x)) else 0),ah (if tB N y g ws x=true then pc (ld N y g ws (cg x)) else 2)])/\Below w.heap.size w w':=by
 have c:=hide h;have d:=aQ w _ hc;have P:=wU x w hc h;cases ht:tB N y g ws x
 ·rw[ht] at P;simp only [Bool.false_eq_true,if_false];generalize jL N y g ws x=v at P;go_enter func48,ntmps48;go_wp2_with fail;refine P.mono ?_;rintro e w1 ⟨rfl,b⟩
  go_wp2_with fail
  go_ret3
  exact⟨rfl,b⟩
 ·rw[ht] at P;have ev:jL N y g ws x=cg x:=by simp[jL,ht]
  rw[ev] at P;simp only [if_true];generalize cg x=v at P;go_enter func48,ntmps48;go_wp2_with fail;refine P.mono ?_;rintro e w1 ⟨rfl,b⟩
  have y1:=(b.cell (p:=aq pw 0) d).trans hc;go_wp2_with fail;refine(gd v w1 (c.o.below b bW)).mono ?_;rintro e j ⟨rfl,f⟩
  have i:=b.trans (f.mono b.size)
  go_wp2_with fail
  go_ret3
  exact⟨rfl,i⟩
def iu (N y g:Nat)(a f:Int):Int:=min f ((if hB N g a=true then(N:Int)+g else(y:Int))-a-1)
theorem wV (a f:Int)(w:ax)(hc:w.cell? (aq pw 0)=some (aj p))(h:At w p q N O y g ws)(a0:0<=a)(a1:a<=100000):
 Calls prog 171 #[aj pw,ah a,ah f] w fun e w'=>e=.returned (ah (iu N y g a f))/\Below w.heap.size w w':=by
 have HA:ay (At w p q N O y g ws):=h;have ir:=aQ w _ hc;have k1:=h.hN';have c:=h.hy;have d:=h.hO;have i:=h.hg;clear h;unfold iu;cases ho:hB N g a
 ·simp only [Bool.false_eq_true,if_false];by_cases hm:f<=(y:Int)-a-1
  ·rw[Int.min_eq_left hm];have b:¬((y:Int)-a-1<f):=V;go_enter func171,ntmps171;go_wp2_with fail;refine(kC w HA.o).mono ?_;rintro e w1 ⟨rfl,hb1⟩
   have y1:=(hb1.cell (p:=aq pw 0) ir).trans hc;go_wp2_with fail;refine(mL w1 (HA.o.below hb1 bW)).mono ?_;rintro e w2 ⟨rfl,hb2⟩
   have ed:=hb1.trans (hb2.mono hb1.size)
   have y2:=(ed.cell (p:=aq pw 0) ir).trans hc;clear y1;have P:=mK a w2 (HA.o.below ed bW)
   rw[ho] at P;go_wp2_with fail;refine P.mono ?_;clear P;rintro e w3 ⟨rfl,hb3⟩
   have jI:=ed.trans (hb3.mono ed.size)
   clear y2 hb1 hb2 ed hb3;go_wp2_with fail;go_ret;exact⟨rfl,jI⟩
  ·rw[Int.min_eq_right V];have b:(y:Int)-a-1<f:=V;go_enter func171,ntmps171;go_wp2_with fail;refine(kC w HA.o).mono ?_;rintro e w1 ⟨rfl,hb1⟩
   have y1:=(hb1.cell (p:=aq pw 0) ir).trans hc;go_wp2_with fail;refine(mL w1 (HA.o.below hb1 bW)).mono ?_;rintro e w2 ⟨rfl,hb2⟩
   have ed:=hb1.trans (hb2.mono hb1.size)
   have y2:=(ed.cell (p:=aq pw 0) ir).trans hc;clear y1;have P:=mK a w2 (HA.o.below ed bW)
   rw[ho] at P;go_wp2_with fail;refine P.mono ?_;rintro e w3 ⟨rfl,hb3⟩
   have jI:=ed.trans (hb3.mono ed.size)
   go_wp2_with fail;go_ret;exact⟨rfl,jI⟩
 ·simp only [if_true];by_cases hm:f<=(N:Int)+g-a-1
  ·rw[Int.min_eq_left hm];have b:¬((N:Int)+g-a-1<f):=V;exact wR
  ·rw[Int.min_eq_right V];exact wR
end
theorem dj (h:Int):0<=pf h/\pf h<=12:=by
 unfold pf;split
 ·have:=iS _ _ (by assumption)
  omega
 ·omega
theorem mO {N y g:Nat}{ws:List Int}{hi:Int}:∀(k:Nat)(a x:Int),x∈eA N y g ws hi k a->a<=x/\x<hi
 |0,_,_,h=>by simp[eA] at h
 |k+1,a,x,h=>by
  unfold eA at h;split at h
  ·split at h
   ·rcases List.mem_cons.1 h with h|h
    ·rw[h];exact⟨Int.le_refl _,by assumption⟩
    ·have b:=mO k _ x h;have c:=dj (ld N y g ws a)
     omega
   ·simp at h
  ·simp at h
theorem wW {N O y g:Nat}{ws:List Int}{x:Int}(h:tB N y g ws x=true)(hN:N<=256)(hy:y<=N)(hO:O<=1024)(hg:g<=O):0<=cg x/\cg x<=1280:=by
 unfold tB at h;simp only [Bool.and_eq_true,Bool.or_eq_true,List.contains_iff_mem] at h;rcases h.2 with h|h
 ·have:=mO _ _ _ h;omega
 ·have:=mO _ _ _ h;omega
def ej (N y g:Nat)(ws:List Int)(x i:Int):Int:=
 if tB N y g ws x=true then(if pk (ld N y g ws (cg x))=5 then 2 else if i<0\/iu N y g (cg x) (pf (ld N y g ws (cg x)))<=i then 1 else 0) else 2
section
variable {pw p q N O y g:Nat}{ws:List Int}
theorem wX (x i:Int)(w:ax)(hc:w.cell? (aq pw 0)=some (aj p))(h:At w p q N O y g ws):
 Calls prog 92 #[aj pw,ah x,ah i] w fun e w'=>e=.returned (.tuple #[ah (if ej N y g ws x i=0 then cg x else 0),ah (if ej N y g ws x i=0 then cg x+1+i else 0),ah (ej N y g ws x i)])/\Below w.heap.size w w':=by
 have c:ay (At w p q N O y g ws):=h;have ir:=aQ w _ hc;have P:=wU x w hc h;have k1:=h.hN';have l:=h.hy;have m:=h.hO;have n:=h.hg;cases ht:tB N y g ws x
 ·rw[ht] at P;have b:ej N y g ws x i=2:=by unfold ej;rw[ht,aG Z]
  rw[b,aG aa,aG aa];generalize jL N y g ws x=v at P;go_enter func92,ntmps92;go_wp2_with fail;refine P.mono ?_;rintro e w1 ⟨rfl,hb1⟩
  go_wp2_with fail
  go_ret3
  exact⟨rfl,hb1⟩
 ·obtain⟨d,b1⟩:=wW (O:=O) ht k1 l m n;have j:=dj (ld N y g ws (cg x))
  rw[ht] at P;have ev:jL N y g ws x=cg x:=by simp[jL,ht]
  rw[ev] at P;have b:ej N y g ws x i=if pk (ld N y g ws (cg x))=5 then 2 else if i<0\/iu N y g (cg x) (pf (ld N y g ws (cg x)))<=i then 1 else 0:=by unfold ej;rw[aI ht]
  rw[b];generalize cg x=v at P j d b1;have K:ay (∀w1,Below w.heap.size w w1->_):=fun w1 hb=>gd v w1 (c.o.below hb bW)
  have kE:ay (∀w1,Below w.heap.size w w1->Calls prog 171 #[aj pw,ah v,ah (pf (ld N y g ws v))] w1 fun e w'=>e=.returned (ah (iu N y g v (pf (ld N y g ws v))))/\Below w1.heap.size w1 w'):=fun w1 hb=>wV v _ w1 ((hb.cell (p:=aq pw 0) ir).trans hc) (c.o.below hb bW) d V;have o:iu N y g v (pf (ld N y g ws v))<=12:=by unfold iu;exact Int.le_trans (Int.min_le_left _ _) j.2
  generalize iu N y g v (pf (ld N y g ws v))=s at kE o⊢;generalize pk (ld N y g ws v)=kd at K⊢;generalize pf (ld N y g ws v)=f at K kE;generalize pc (ld N y g ws v)=cc at K;by_cases k:kd=5
  ·subst k;rw[aI rfl,aG aa,aG aa];exact wT
  ·rw[aG k];by_cases hi:i<0
   ·rw[aI (aK hi),aG aa,aG aa];exact wT
   ·by_cases hs:s<=i
    ·rw[aI (aJ hs),aG aa,aG aa];exact wS
    ·have t:¬(i<0\/s<=i):=V;rw[aG t,aI rfl,aI rfl];exact wS
theorem C1 (x i:Int)(w:ax)(hc:w.cell? (aq pw 0)=some (aj p))(h:At w p q N O y g ws):
 Calls prog 45 #[aj pw,ah x,ah i] w fun e w'=>e=.returned (.tuple #[ah (if ej N y g ws x i=0 then ld N y g ws (cg x+1+i) else 0),ah (ej N y g ws x i)])/\Below w.heap.size w w':=by
 have c:=hide h;have d:=aQ w _ hc;have P:=wX x i w hc h;generalize ej N y g ws x i=cd at P⊢;by_cases h0:cd=0
 ·subst h0;rw[aI rfl,aI rfl] at P;rw[aI rfl];generalize cg x+1+i=fl at P⊢;generalize cg x=v at P;go_enter func45,ntmps45;go_wp2_with fail;refine P.mono ?_;rintro e w1 ⟨rfl,b⟩
  have y1:=(b.cell (p:=aq pw 0) d).trans hc;go_wp2_with fail;refine(jH fl w1 (c.o.below b bW)).mono ?_;rintro e k ⟨rfl,f⟩
  have j:=b.trans (f.mono b.size)
  go_wp2;go_ret2;exact⟨rfl,j⟩
 ·rw[aG h0,aG h0] at P;rw[aG h0];go_enter func45,ntmps45;go_wp2_with fail;refine P.mono ?_;rintro e w1 ⟨rfl,b⟩
  go_wp2;go_ret2;exact⟨rfl,b⟩
end
def d4 (L:Int->Int)(hi:Int):Int->List Int->Prop
 |a,[]=>a=hi
 |a,x::l=>x=a/\pc (L a)=0/\a+(1+pf (L a))<=hi/\d4 L hi (a+(1+pf (L a))) l
section
variable {L L':Int->Int}{hi:Int}
theorem d4.done:d4 L hi hi []:=rfl
theorem d4.step {a:Int}{l:List Int}(h0:pc (L a)=0)(b:a+(1+pf (L a))<=hi)(ht:d4 L hi (a+(1+pf (L a))) l):d4 L hi a (a::l):=⟨rfl,h0,b,ht⟩
theorem d4.mem {a:Int}{l:List Int}(h:d4 L hi a l):∀x∈l,a<=x/\x+(1+pf (L x))<=hi/\pc (L x)=0:=by
 induction l generalizing a with
 |nil=>intro x b;simp at b
 |cons z l c=>
  obtain⟨rfl,h0,d,ht⟩:=h;intro x b;rcases List.mem_cons.1 b with rfl|b
  ·exact⟨Int.le_refl _,d,h0⟩
  ·have:=dj (L z)
   have e:=c ht x b;exact⟨V,e.2⟩
theorem d4.apart {a:Int}{l:List Int}(h:d4 L hi a l):∀x∈l,∀z∈l,x<z->x+(1+pf (L x))<=z:=by
 induction l generalizing a with
 |nil=>intro x b;simp at b
 |cons y l e=>
  obtain⟨rfl,h0,i,ht⟩:=h;intro x b z hz f;rcases List.mem_cons.1 b with ex|d
  ·rcases List.mem_cons.1 hz with g|c
   ·omega
   ·rw[ex];exact(ht.mem z c).1
  ·rcases List.mem_cons.1 hz with g|c
   ·have j:=(ht.mem x d).1;have k:=dj (L y)
    omega
   ·exact e ht x d z c f
theorem d4.heads {a:Int}{l:List Int}(h:d4 L hi a l)(he:∀x∈l,L' x=L x):d4 L' hi a l:=by
 induction l generalizing a with
 |nil=>exact h
 |cons z l b=>
  obtain⟨rfl,h0,c,ht⟩:=h;have e:=he z Z;refine .step (by rw[e];exact h0) (by rw[e];exact c) ?_;rw[e];exact b ht (fun x d=>he x (by simp[d]))
theorem d4.snoc {a:Int}{l:List Int}(h:d4 L hi a l)(he:∀x∈l,L' x=L x){b:Int}(h0:pc (L' hi)=0)(c:b=hi+(1+pf (L' hi))):d4 L' b a (l++[hi]):=by
 have hp:=dj (L' hi)
 induction l generalizing a with
 |nil=>
  have e:=h;subst e;refine .step h0 V ?_;rw[<-c];exact .done
 |cons z l d=>
  obtain⟨rfl,f,i,ht⟩:=h;have e:=he z Z;refine .step (by rw[e];exact f) (by rw[e];omega) ?_;rw[e];exact d ht (fun x g=>he x (by simp[g]))
theorem d4.field {a:Int}{l:List Int}(h:d4 L hi a l){v i:Int}(hv:v∈l)(b:0<=i)(c:i<pf (L v)):v+1+i∉l:=by intro hm;have:=h.apart v hv _ hm V;omega
theorem d4.eA {N y g:Nat}{ws:List Int}{hi a:Int}{l:List Int}(h:d4 (ld N y g ws) hi a l):∀k:Nat,hi-a<=k->eA N y g ws hi k a=l:=by
 induction l generalizing a with
 |nil=>
  have e:a=hi:=h;subst e;intro k _;exact wn k (Int.le_refl _)
 |cons z l b=>
  obtain⟨rfl,h0,c,ht⟩:=h;intro k hk;have hp:=dj (ld N y g ws z)
  match k,hk with
  |0,hk=>omega
  |k+1,hk=>
   unfold Proofs.YtpkjkjhanlbcoaaGreat.eA;rw[aI V,aI h0,b ht k V]
end
structure d5 (N y g:Nat)(ws:List Int)(Y G:List Int):Prop where
 ty:d4 (ld N y g ws) y 0 Y
 ec:d4 (ld N y g ws) ((N:Int)+g) N G
theorem d5.lists {N O y g:Nat}{ws:List Int}{Y G:List Int}(h:d5 N y g ws Y G)(hN:N<=256)(hy:y<=N)(hO:O<=1024)(hg:g<=O):ei N y g ws=Y/\dD N y g ws=G:=
 ⟨h.ty.eA 2000 V,h.ec.eA 2000 V⟩
theorem d5.start {N:Nat}{ws:List Int}:d5 N 0 0 ws [] []:=⟨.done,by simpa using d4.done (L:=ld N 0 0 ws) (hi:=(N:Int))⟩
theorem bh {p:Prop} [inst:Decidable p]:p -> Decidable.decide p = Bool.true:=decide_eq_true
theorem d5.stands {N y g:Nat}{ws:List Int}{Y G:List Int}(h:d5 N y g ws Y G)(hy:y<=N){v:Int}(hv:v∈Y\/v∈G):iu N y g v (pf (ld N y g ws v))=pf (ld N y g ws v):=by
 have hp:=dj (ld N y g ws v)
 refine Int.min_eq_left ?_;rcases hv with hv|hv
 ·have b:=h.ty.mem v hv;have e:hB N g v=false:=by rw[Bool.eq_false_iff];intro c;have:=jq c;omega
  rw[e,aG Z];omega
 ·have b:=h.ec.mem v hv;have e:hB N g v=true:=by exact bh ⟨b.1,V⟩
  rw[e,aI rfl];omega
def k8 (M:List Int)(k:Int):List Int:=if M.contains k then M else M++[k]
theorem sx (M:List Int)(k j:Int):(k8 M k).contains j=(M.contains j||j==k):=by
 unfold k8;by_cases c:M.contains k=true
 ·rw[aI c];by_cases e:j=k
  ·subst e;rw[c];rfl
  ·simp[e]
 ·rw[aG c];by_cases e:j=k<;>simp[e]
theorem C2 (M:List Int)(k:Int):(k8 M k).length<=M.length+1:=by unfold k8;split<;>simp
theorem sy:Maps.Keyed prog 173:=Maps.int_keyed underlying173
theorem C3 (w:ax):(zeroValue 212).run prog w=.ok (.agg #[]) w:=ae
structure Cd (w:ax)(p q:Nat)(B c:Int)(M:List Int):Prop where
 hp:w.heap[p]?=some (.cells #[ah B,.int .u64 c,.map (some q)] 176 (0,0))
 hq:∃D:DataW Unit,w.ownsMap prog 173 unitElem q M.length D/\(∀k:Int,Maps.has D (.int .u64 k)=M.contains k)/\Maps.size D=M.length
theorem sA {H:Type}{P:Program}{k:TypeId}{R:Value->Option _}{w w':ax}{b n:Nat}{D:DataW H}(h:w.ownsMap P k R b n D)(e:w'.heap[b]?=w.heap[b]?):w'.ownsMap P k R b n D:=by obtain⟨c,d,hb,r⟩:=h;exact⟨c,d,e.trans hb,r⟩
theorem sB {H:Type}{P:Program}{k:TypeId}{R:Value->Option _}{w:ax}{b n m:Nat}{D:DataW H}(h:w.ownsMap P k R b n D)(e:Maps.size D=m):w.ownsMap P k R b m D:=by obtain⟨c,d,hb,F,hs,rfl⟩:=h;exact⟨c,d,hb,F,by rw[<-e];simp[Maps.size,length_sorted],rfl⟩
theorem Cd.eL {w:ax}{p q:Nat}{B c:Int}{M:List Int}(h:Cd w p q B c M):p<w.heap.size:=lt_of_some h.hp
theorem Cd.eM {w:ax}{p q:Nat}{B c:Int}{M:List Int}(h:Cd w p q B c M):q<w.heap.size:=by obtain⟨D,b,_⟩:=h.hq;exact b.lt
theorem Cd.ne {w:ax}{p q:Nat}{B c:Int}{M:List Int}(h:Cd w p q B c M):p≠q:=by intro e;obtain⟨D,⟨d,f,hb,_⟩,_⟩:=h.hq;have b:=h.hp;rw[e,hb] at b;simp at b
theorem Cd.same {w w':ax}{p q:Nat}{B c:Int}{M:List Int}(h:Cd w p q B c M)(ep:w'.heap[p]?=w.heap[p]?)(eq:w'.heap[q]?=w.heap[q]?):Cd w' p q B c M:=by obtain⟨D,b,d⟩:=h.hq;exact⟨ep.trans h.hp,D,sA b eq,d⟩
theorem Cd.below {w w':ax}{p q X:Nat}{B c:Int}{M:List Int}(h:Cd w p q B c M)(hb:Below X w w')(b:w.heap.size<=X):Cd w' p q B c M:=
 h.same (hb.block p (aM h.eL b)) (hb.block q (aM h.eM b))
theorem Cd.cells {w:ax}{p q:Nat}{B c:Int}{M:List Int}(h:Cd w p q B c M):
 w.cell? (aq p 0)=some (ah B)/\w.cell? (aq p 1)=some (.int .u64 c)/\w.cell? (aq p 2)=some (.map (some q)):=by
 have hp:=h.hp;refine⟨?_,?_,?_⟩<;>simp[World.cell?,hp]
theorem Cd.put {w w':ax}{p q:Nat}{B c k:Int}{M:List Int}{D:DataW Unit}{n:Nat}(h:w.heap[p]?=some (.cells #[.int .i64 B,.int .u64 c,.map (some q)] 176 (0,0)))
 (h0:w.ownsMap prog 173 unitElem q M.length D)(d:∀k:Int,Maps.has D (.int .u64 k)=M.contains k)(f:Maps.size D=M.length)(g:p≠q)
 (l:w'.ownsMap prog 173 unitElem q n (D.put (.int .u64 k) (.agg [])))(b:w.grownBy w' (some q)):Cd w' p q B c (k8 M k)/\c_ p q w w':=by
 have hs:Maps.size (D.put (.int .u64 k) (.agg []))=(k8 M k).length:=by rw[Maps.size_put (h0.tidy sy),d,f];unfold k8;split<;>simp
 refine⟨⟨(b.block p (lt_of_some h) (fun e=>g (by cases e;rfl))).trans h,_,sB l hs,fun j=>?_,hs⟩,⟨b.os,b.tape,b.output,b.size,fun i hi _ e=>b.block i hi (fun m=>e (by cases m;rfl))⟩⟩
 rw[sx];by_cases e:j=k
 ·subst e;rw[Maps.has_put_same (k:=.int .u64 j) h0.isMap trivial];simp
 ·rw[Maps.has_put_other (by simpa using e),d];simp[e]
theorem Cd.none {w:ax}{p q:Nat}{B c:Int}(h:w.heap[p]?=some (.cells #[.int .i64 B,.int .u64 c,.map (some q)] 176 (0,0)))(b:w.ownsMap prog 173 unitElem q 0 (.map []:DataW Unit)):Cd w p q B c []:=
 ⟨h,_,b,fun _=>rfl,rfl⟩
def dF (x:Int):Int:=if x<0 then 0 else(x+8-1)/8
def cN (B a:Int):Int:=if a<B then 0 else(a-B)/8
def fZ (B c a:Int):Bool:=decide (B<=a)&&decide ((a-B)/8<c)
theorem C4 (x:Int)(w:ax)(h:x<=100000):Calls prog 166 #[ah x] w fun e w'=>e=.returned (.int .u64 (dF x))/\w'=w:=by
 by_cases c:x<0
 ·have e:dF x=0:=by unfold dF;rw[aI c]
  rw[e];go_enter func166,ntmps166;go_wp2;go_ret;exact⟨rfl,rfl⟩
 ·have e:dF x=(x+8-1)/8:=by unfold dF;rw[aG c]
  go_wp2;go_ret;exact⟨rfl,rfl⟩
theorem bq {p:Prop} [Decidable p]:¬p -> Decidable.decide p = Bool.false:=decide_eq_false
theorem wY {p q:Nat}{B c:Int}{M:List Int}(a:Int)(w:ax)(h:Cd w p q B c M)(hB:0<=B)(d:B<=100000)(ha:a<=9223372036854775807):
 Calls prog 175 #[aj p,ah a] w fun e w'=>e=.returned (.tuple #[.int .u64 (cN B a),.bool (fZ B c a)])/\Below w.heap.size w w':=by
 obtain⟨c0,c1,c2⟩:=h.cells;by_cases hc:a<B
 ·have e:fZ B c a=false:=by unfold fZ;rw[bq V];rfl
  have b:cN B a=0:=by unfold cN;rw[aI hc]
  rw[e,b];go_enter func175,ntmps175;go_wp2;go_ret2;exact⟨rfl,aH _ _⟩
 ·have e:fZ B c a=decide ((a-B)/8<c):=by unfold fZ;rw[bh V];rfl
  have b:cN B a=(a-B)/8:=by unfold cN;rw[aG hc]
  rw[e,b];go_enter func175,ntmps175;exact r7
def k9 (B c a:Int)(M:List Int):List Int:=if fZ B c a then k8 M (cN B a) else M
theorem wZ {B c a:Int}{M:List Int}(h:fZ B c a=true):k9 B c a M=k8 M (cN B a):=by unfold k9;rw[aI h]
theorem C5 {B c a:Int}{M:List Int}(h:fZ B c a=false):k9 B c a M=M:=by unfold k9;rw[aG (by rw[h];simp)]
theorem w5 {B a:Int}(hB:0<=B)(ha:a<=9223372036854775807):(Lit.int .u64 (cN B a)).wf=true:=by
 unfold cN;split
 ·decide
 ·have b:0<=(a-B)/8:=V;exact WalkArith.wf_u64 ⟨b,V⟩
theorem C7 {p q:Nat}{B c:Int}{M:List Int}(a:Int)(w:ax)(h:Cd w p q B c M)(hB:0<=B)(f:B<=100000)(ha:a<=9223372036854775807)(hM:M.length<=100000):
 Calls prog 97 #[aj p,ah a] w fun e w'=>e=.returned (.bool (fZ B c a))/\Cd w' p q B c (k9 B c a M)/\c_ p q w w':=by
 go_enter func97,ntmps97;go_wp2_with fail;refine(wY a _ h hB f ha).mono ?_;rintro e w1 ⟨rfl,d⟩
 have b:=h.below d bW
 obtain⟨c0,c1,c2⟩:=b.cells;obtain⟨D,o1,g,i⟩:=b.hq;cases hc:fZ B c a
 ·go_wp2;go_ret;exact⟨by rw[hc];rfl,by rw[C5 hc];exact b,c_.of d⟩
 ·go_wp2_with (first
   |(at_mapUpdate;refine wpList_mapUpdate_own _ rfl _ _ _ 174 rfl 173 212 sy underlying174 _ q M.length D rfl o1 (by unfold maxLen;omega) _ _ _ rfl rfl (Maps.keyOf_int_mk (P:=prog) underlying173 (w5 (B:=B) (a:=a) hB ha)) _ [] unitElem_mk ?_;intro m j k)
   |go_in)
  go_ret;obtain⟨l,s2⟩:=Cd.put b.hp o1 g i b.ne j k;exact⟨by rw[hc];rfl,by rw[wZ hc];exact l,(c_.of d).trans s2⟩
theorem C8 {p q:Nat}{B c:Int}{M:List Int}(a:Int)(w:ax)(h:Cd w p q B c M)(hB:0<=B)(f:B<=100000)(ha:a<=9223372036854775807):
 Calls prog 184 #[aj p,ah a] w fun e w'=>e=.returned (.bool (fZ B c a&&M.contains (cN B a)))/\Below w.heap.size w w':=by
 go_enter func184,ntmps184;go_wp2_with fail;refine(wY a _ h hB f ha).mono ?_;rintro e w1 ⟨rfl,b⟩
 have d:=h.below b bW
 obtain⟨c0,c1,c2⟩:=d.cells;obtain⟨D,o1,g,i⟩:=d.hq;cases hc:fZ B c a
 ·go_wp2;go_ret;exact⟨by rw[hc];rfl,b⟩
 ·go_wp2_with (first
   |(at_lookup;refine wpList_lookup_own_unit _ rfl _ _ 174 rfl 173 212 sy underlying174 (C3 _) q M.length D rfl o1 _ _ rfl (Maps.keyOf_int_mk underlying173 (w5 (a:=a) hB ha)) ?_)
   |go_in)
  go_ret;exact⟨by rw[hc];simp,b.alloc b.size _⟩
theorem sC {p:Nat}{B c:Int}{v:Value}(w:ax)(h:w.heap[p]?=some (.cells #[ah B,.int .u64 c,v] 176 (0,0))):
 Calls prog 115 #[aj p] w fun e w'=>e=.returned (.tuple #[])/\Cd w' p w.heap.size B c []/\c_ p p w w':=by
 have b:=@run_makeMap prog;have hp:=lt_of_some h;have d:(w.alloc (.map #[] 0)).frozen? (aq p 2)=false:=by simp[World.frozen?,Below.heap_alloc _ _ _ hp,h]
 have hc:(w.alloc (.map #[] 0)).cell? (aq p 2)=some v:=by simp[World.cell?,Below.heap_alloc _ _ _ hp,h]
 go_enter func115,ntmps115;go_wp2_with fail;go_end0;have hm:=World.ownsMap_made (w.setCell ⟨p,2,none⟩ (.map (some w.heap.size))) prog 173 (unitElem (H:=Unit))
 have hz:(w.setCell ⟨p,2,none⟩ (.map (some w.heap.size))).heap.size=w.heap.size:=by simp[World.setCell]
 rw[hz] at hm;refine⟨rfl,Cd.none ((aS _ _ _ V).trans ?_) hm,(c_.oK _ _).trans (c_.of (bX.alloc bW _))⟩
 simp only [World.setCell,Array.getElem?_modify,if_true,h,Option.map_some];simp
theorem C9 (B x:Int)(w:ax)(h:x<=100000):
 Calls prog 87 #[ah B,ah x] w fun e w'=>∃p q,e=.returned (aj p)/\Cd w' p q B (dF x) []/\w.heap.size<=p/\w.heap.size<=q/\Below w.heap.size w w':=by
 go_enter func87,ntmps87;go_wp2_with fail;refine(C4 x _ h).mono ?_;rintro e w1 ⟨rfl,b⟩
 have b:=b.symm;subst b;go_wp2_with fail;refine(sC (v:=.map none) _ (aN _ _)).mono ?_;rintro e d ⟨rfl,c,s2⟩
 go_wp2_with fail;go_ret;exact⟨_,_,rfl,c,aD _,Z,(bX.alloc bW _).trans (s2.below Z bW bW)⟩
structure hZ (w:ax)(pw p q pc cO N O y g:Nat)(ws:List Int)(c:Int)(M:List Int)(vs vr:Value):Prop where
 blk:w.heap[pw]?=some (.cells #[aj p,aj pc,vs,vr] 55 (0,0))
 ar:At w p q N O y g ws
 cd:Cd w pc cO N c M
section
variable {w w':ax}{pw p q pc cO N O y g:Nat}{ws:List Int}{c:Int}{M:List Int}{vs vr:Value}
theorem hZ.cells (h:hZ w pw p q pc cO N O y g ws c M vs vr):w.cell? (aq pw 0)=some (aj p)/\w.cell? (aq pw 1)=some (aj pc)/\w.cell? (aq pw 2)=some vs/\w.cell? (aq pw 3)=some vr/\pw<w.heap.size:=
 ⟨by simp[World.cell?,h.blk],by simp[World.cell?,h.blk],by simp[World.cell?,h.blk],by simp[World.cell?,h.blk],lt_of_some h.blk⟩
theorem hZ.apart (h:hZ w pw p q pc cO N O y g ws c M vs vr):pw≠p/\pw≠q/\pw≠pc/\pw≠cO/\p≠pc/\p≠cO/\q≠pc/\q≠cO:=by
 obtain⟨D,⟨j,k,hb,_⟩,_⟩:=h.cd.hq;have b:=h.blk;have d:=h.ar.hp;have f:=h.ar.hq;have i:=h.cd.hp;refine⟨fun e=>?_,fun e=>?_,fun e=>?_,fun e=>?_,fun e=>?_,fun e=>?_,fun e=>?_,fun e=>?_⟩
 ·rw[e,d] at b;simp at b
 ·rw[e,f] at b;simp at b
 ·rw[e,i] at b;simp at b
 ·rw[e,hb] at b;simp at b
 ·rw[e,i] at d;simp at d
 ·rw[e,hb] at d;simp at d
 ·rw[e,i] at f;simp at f
 ·rw[e,hb] at f;simp at f
theorem hZ.below (h:hZ w pw p q pc cO N O y g ws c M vs vr)(hb:Below w.heap.size w w'):hZ w' pw p q pc cO N O y g ws c M vs vr:=
 ⟨(hb.block pw (lt_of_some h.blk)).trans h.blk,h.ar.below hb bW,h.cd.below hb bW⟩
theorem hZ.arena (h:hZ w pw p q pc cO N O y g ws c M vs vr){b d:Nat}{e:List Int}(ha:At w' p q N O b d e)(s:c_ p q w w'):hZ w' pw p q pc cO N O b d e c M vs vr:=by obtain⟨a1,a2,l,m,f,i,j,k⟩:=h.apart;exact⟨(s.block pw (lt_of_some h.blk) a1 a2).trans h.blk,ha,h.cd.same (s.block pc h.cd.eL (Ne.symm f) (Ne.symm j)) (s.block cO h.cd.eM (Ne.symm i) (Ne.symm k))⟩
theorem hZ.cards (h:hZ w pw p q pc cO N O y g ws c M vs vr){b:List Int}(hc:Cd w' pc cO N c b)(s:c_ pc cO w w'):hZ w' pw p q pc cO N O y g ws c b vs vr:=by obtain⟨a1,a2,d,e,f,i,j,k⟩:=h.apart;exact⟨(s.block pw (lt_of_some h.blk) d e).trans h.blk,h.ar.same (s.block p h.ar.eL f i) (s.block q h.ar.eM j k),hc⟩
def ge (N y g:Nat)(ws:List Int)(x i z:Int):List Int:=if ej N y g ws x i=0 then(if dd N y g (cg x+1+i)=true then ws.set (cg x+1+i).toNat z else ws) else ws
def mP (N y g:Nat)(ws:List Int)(x i z:Int):Bool:=decide (ej N y g ws x i=0)&&(cY z&&hB 0 y (cg z)&&hB N g (cg x))
def stM (N y g:Nat)(ws:List Int)(x i z c:Int)(M:List Int):List Int:=if mP N y g ws x i z=true then k9 N c (cg x) M else M
theorem C_ (x i z:Int)(h:hZ w pw p q pc cO N O y g ws c M vs vr)(hM:M.length<=100000):
 Calls prog 44 #[aj pw,ah x,ah i,ah z] w fun e w'=>e=.returned (ah (ej N y g ws x i))/\hZ w' pw p q pc cO N O y g (ge N y g ws x i z) c (stM N y g ws x i z c M) vs vr/\Fr (fun k=>k=p\/k=q\/k=pc\/k=cO) w w':=by
 have H:ay (_):=h;obtain⟨c0,c1,_,_,ir⟩:=h.cells;have P:=wX x i w c0 h.ar;have k1:=h.ar.hN';have Q:=h.ar.hy;have R:=h.ar.hO;have S:=h.ar.hg;have U:∀{a b:ax},c_ p q a b->Fr (fun k=>k=p\/k=q\/k=pc\/k=cO) a b:=fun s=>⟨s.os,s.tape,s.output,s.size,fun k hk hn=>s.block k hk (fun e=>hn (aK e)) (fun e=>hn (aJ (aK e)))⟩
 have W:∀{a b:ax},c_ pc cO a b->Fr (fun k=>k=p\/k=q\/k=pc\/k=cO) a b:=fun s=>⟨s.os,s.tape,s.output,s.size,fun k hk hn=>s.block k hk (fun e=>hn (aJ (aJ (aK e)))) (fun e=>hn (aJ (aJ (aJ e))))⟩
 clear h;by_cases h0:ej N y g ws x i=0
 ·have ht:tB N y g ws x=true:=by
   cases e:tB N y g ws x
   ·unfold ej at h0;rw[e,aG Z] at h0;omega
   ·rfl
  obtain⟨Y,b1⟩:=wW (O:=O) ht k1 Q R S;have u:ge N y g ws x i z=if dd N y g (cg x+1+i)=true then ws.set (cg x+1+i).toNat z else ws:=by unfold ge;rw[aI h0]
  have A:stM N y g ws x i z c M=if(cY z&&hB 0 y (cg z)&&hB N g (cg x))=true then k9 N c (cg x) M else M:=by unfold stM mP;rw[bh h0,Bool.true_and]
  rw[h0,aI rfl,aI rfl] at P;rw[h0,u,A];clear u A h0 ht;generalize cg x+1+i=fl at P⊢;generalize cg x=v at P Y b1⊢;have kE:ay (∀w1,Below w.heap.size w w1->Calls prog 93 #[aj p,ah fl,ah z] w1 fun e w'=>e=.returned (.bool (dd N y g fl))/\ay (hZ w' pw p q pc cO N O y g (if dd N y g fl=true then ws.set fl.toNat z else ws) c M vs vr)/\ay (Fr (fun k=>k=p\/k=q\/k=pc\/k=cO) w w')):=fun w1 hb=>by
   have B:=H.o.below hb;refine(kZ fl z w1 B.ar).mono ?_;rintro e w2 ⟨rfl,ab,s2⟩
   exact⟨rfl,B.arena ab s2,(Fr.of (X:=fun k=>k=p\/k=q\/k=pc\/k=cO) hb).trans (U s2) (fun _ c=>aK c)⟩
  have nV:ay (∀w2,_):=fun w2=>nL z w2;generalize (if dd N y g fl=true then ws.set fl.toNat z else ws)=am at kE⊢;generalize dd N y g fl=an at kE;obtain⟨E,J⟩:∃b,cY z=b:=⟨_,rfl⟩
  rw[J] at nV⊢;clear J;generalize cg z=C at nV⊢;cases hb2:hB 0 y C
  ·rw[Bool.and_false,Bool.false_and,aG Z];cases E
   ·go_enter func44,ntmps44;exact sv
   ·go_enter func44,ntmps44;go_wp2_with fail;refine P.mono ?_;clear P;rintro e w1 ⟨rfl,hb1⟩
    have y1:=(hb1.cell (p:=aq pw 0) ir).trans c0;go_wp2_with fail;refine(kE.o w1 hb1).mono ?_;rintro e w2 ⟨rfl,W2,F2⟩
    clear y1;go_wp2_with fail;refine(nV.o w2).mono ?_;rintro e w3 ⟨rfl,hb3⟩
    have W3:=W2.o.below hb3;have mN:=F2.o.trans (Fr.of (X:=fun k=>k=p\/k=q\/k=pc\/k=cO) hb3) (fun _ c=>aK c)
    obtain⟨y0,y1,_,_,l3⟩:=W3.cells;have d:=mJ C w3 W3.ar;rw[hb2] at d;go_wp2_with fail;refine d.mono ?_;clear d;rintro e D ⟨rfl,j⟩
    have f:=W3.below j;have n:=mN.trans (Fr.of (X:=fun k=>k=p\/k=q\/k=pc\/k=cO) j) (fun _ c=>aK c)
    obtain⟨z0,o,_,_,K⟩:=f.cells;clear y0 y1;clear z0 o;go_wp2_with fail;go_ret;exact⟨rfl,f,n⟩
  ·rw[Bool.and_true];cases w6:hB N g v
   ·rw[Bool.and_false,aG Z];cases E
    ·go_enter func44,ntmps44;exact sv
    ·go_enter func44,ntmps44;go_wp2_with fail;refine P.mono ?_;clear P;rintro e w1 ⟨rfl,hb1⟩
     have y1:=(hb1.cell (p:=aq pw 0) ir).trans c0;go_wp2_with fail;refine(kE.o w1 hb1).mono ?_;rintro e w2 ⟨rfl,W2,F2⟩
     clear y1;go_wp2_with fail;refine(nV.o w2).mono ?_;rintro e w3 ⟨rfl,hb3⟩
     have W3:=W2.o.below hb3;have mN:=F2.o.trans (Fr.of (X:=fun k=>k=p\/k=q\/k=pc\/k=cO) hb3) (fun _ c=>aK c)
     obtain⟨y0,y1,_,_,l3⟩:=W3.cells;have d:=mJ C w3 W3.ar;rw[hb2] at d;go_wp2_with fail;refine d.mono ?_;clear d;rintro e D ⟨rfl,j⟩
     have f:=W3.below j;have n:=mN.trans (Fr.of (X:=fun k=>k=p\/k=q\/k=pc\/k=cO) j) (fun _ c=>aK c)
     obtain⟨z0,o,_,_,K⟩:=f.cells;clear y0 y1;have l:=mK v D f.ar;rw[w6] at l;go_wp2_with fail;refine l.mono ?_;clear l;rintro e L ⟨rfl,t⟩
     have m:=f.below t;have F:=n.trans (Fr.of (X:=fun k=>k=p\/k=q\/k=pc\/k=cO) t) (fun _ c=>aK c)
     obtain⟨G,I,_,_,ad⟩:=m.cells;clear z0 o;clear G I;go_wp2_with fail;go_ret;exact⟨rfl,m,F⟩
   ·rw[Bool.and_true];cases E
    ·rw[aG Z];go_enter func44,ntmps44;exact sv
    ·rw[aI rfl];go_enter func44,ntmps44;go_wp2_with fail;refine P.mono ?_;clear P;rintro e w1 ⟨rfl,hb1⟩
     have y1:=(hb1.cell (p:=aq pw 0) ir).trans c0;go_wp2_with fail;refine(kE.o w1 hb1).mono ?_;rintro e w2 ⟨rfl,W2,F2⟩
     clear y1;go_wp2_with fail;refine(nV.o w2).mono ?_;rintro e w3 ⟨rfl,hb3⟩
     have W3:=W2.o.below hb3;have mN:=F2.o.trans (Fr.of (X:=fun k=>k=p\/k=q\/k=pc\/k=cO) hb3) (fun _ c=>aK c)
     obtain⟨y0,y1,_,_,l3⟩:=W3.cells;have d:=mJ C w3 W3.ar;rw[hb2] at d;go_wp2_with fail;refine d.mono ?_;clear d;rintro e D ⟨rfl,j⟩
     have f:=W3.below j;have n:=mN.trans (Fr.of (X:=fun k=>k=p\/k=q\/k=pc\/k=cO) j) (fun _ c=>aK c)
     obtain⟨z0,o,_,_,K⟩:=f.cells;clear y0 y1;have l:=mK v D f.ar;rw[w6] at l;go_wp2_with fail;refine l.mono ?_;clear l;rintro e L ⟨rfl,t⟩
     have m:=f.below t;have F:=n.trans (Fr.of (X:=fun k=>k=p\/k=q\/k=pc\/k=cO) t) (fun _ c=>aK c)
     obtain⟨G,I,_,_,ad⟩:=m.cells;clear z0 o;go_wp2_with fail;refine(C7 v L m.cd V V V hM).mono ?_;rintro e ao ⟨rfl,ag,s6⟩
     have ai:=m.cards ag s6;have al:=F.trans (W s6) (fun _ c=>aK c)
     clear G I;go_wp2_with fail;go_ret;exact⟨rfl,ai,al⟩
 ·have u:ge N y g ws x i z=ws:=by unfold ge;rw[aG h0]
  have A:stM N y g ws x i z c M=M:=by unfold stM mP;rw[bq h0];rfl
  rw[aG h0,aG h0] at P;rw[u,A];generalize ej N y g ws x i=cd at P h0⊢;go_enter func44,ntmps44;go_wp2_with fail;refine P.mono ?_;clear P;rintro e w1 ⟨rfl,hb1⟩
  have B:=H.o.below hb1;clear c0 c1;go_wp2_with fail;go_ret;exact⟨rfl,B,Fr.of hb1⟩
end
open Go.ChangeShapes Go.WideShapes Go.ChangeAt Go.RowKit Go.Joins Go.Deep W
namespace oS
theorem p8 (ws:List Int)(t f n i:Nat)(b:t+n<=ws.length)(d:f+n<=ws.length):
 (splice ws t ((ws.drop f).take n)).getD i 0=if t<=i/\i<t+n then ws.getD (f+i-t) 0 else ws.getD i 0:=by
 exact wQ
theorem copied {N O y g:Nat}{ws:List Int}{a:Nat}(hl:ws.length=N+O)(hy:y<=N)(hi:dd N y g a=true)(n:Nat)(d:1+(n:Int)<=gg N y g a-a)(f:1+(n:Int)<=(O:Int)-g)(j:Nat)(i:j<=n):
 ld N y (g+(1+n)) (splice ws (N+g) ((ws.drop a).take (1+n))) ((N:Int)+g+j)=ws.getD (a+j) 0/\ld N y (g+(1+n)) (splice ws (N+g) ((ws.drop a).take (1+n))) ((a:Int)+j)=ws.getD (a+j) 0:=by
 have he:gg N y g a<=(N:Int)+g:=by unfold gg;split<;>omega
 constructor
 ·have b:hB N ((g+(1+n):Nat):Int) ((N:Int)+g+j)=true:=by simp[hB];omega
  have hi:dd N y (g+(1+n)) ((N:Int)+g+j)=true:=by unfold dd;rw[b];simp
  unfold ld;rw[aI hi,show((N:Int)+g+j).toNat=N+g+j by omega,p8 _ _ _ _ _ V V,aI V,show a+(N+g+j)-(N+g)=a+j by omega]
 ·have e:dd N y (g+(1+n)) ((a:Int)+j)=true:=by
   unfold gg at d;split at d
   ·rename_i c;have c:=jq c;have b:hB 0 y ((a:Int)+j)=true:=by simp[hB];omega
    unfold dd;rw[b];rfl
   ·rename_i c;have c1:hB N g a=true:=by unfold dd at hi;simp only [Bool.not_eq_true] at c;rw[c] at hi;simpa using hi
    have c2:=jq c1;have b:hB N ((g+(1+n):Nat):Int) ((a:Int)+j)=true:=by simp[hB];omega
    unfold dd;rw[b];simp
  unfold ld;rw[aI e,show((a:Int)+j).toNat=a+j by omega,p8 _ _ _ _ _ V V,aG V]
end oS
open Go.RowKit W oS
theorem dW {N y g:Nat}{ws:List Int}{a:Int}(h:dd N y g a=true):ld N y g ws a=ws.getD a.toNat 0:=by unfold ld;rw[aI h]
theorem iK {N y g:Nat}{a:Int}(h0:0<=a)(b:a<y):dd N y g a=true:=by unfold dd hB;rw[bh (⟨h0,V⟩:(0:Int)<=a/\a<0+(y:Int))];rfl
theorem hY {N y g:Nat}{a:Int}(h0:(N:Int)<=a)(b:a<(N:Int)+g):dd N y g a=true:=by unfold dd hB;rw[bh (⟨h0,b⟩:(N:Int)<=a/\a<(N:Int)+g),Bool.or_true]
section
variable {N O y g:Nat}{ws:List Int}{Y G:List Int}
theorem d5.iw (h:d5 N y g ws Y G):∀x∈Y,0<=x/\x<y:=fun x b=>by
 have c:=h.ty.mem x b;have d:=dj (ld N y g ws x)
 omega
theorem d5.io (h:d5 N y g ws Y G):∀x∈G,(N:Int)<=x/\x<(N:Int)+g:=fun x b=>by
 have c:=h.ec.mem x b;have d:=dj (ld N y g ws x)
 omega
theorem d5.make (h:d5 N y g ws Y G)(hl:ws.length=N+O){k f:Int}(hm:iJ N y k f=true):d5 N (iU N y k f) g (fq N y k f ws) (Y++[(y:Int)]) G:=by
 obtain⟨c,j⟩:=oQ hm;have l:=iS k f c;have e:iU N y k f=y+1+f.toNat:=by unfold iU;rw[aI hm]
 have i:fq N y k f ws=fC ws y (hw k f) f.toNat:=by unfold fq;rw[aI hm]
 rw[e,i];have hlt:y+f.toNat<ws.length:=V;have d:ld N (y+1+f.toNat) g (fC ws y (hw k f) f.toNat) y=hw k f:=wM _ _ hlt;have hp:=pU k f c;refine⟨h.ty.snoc (fun x b=>?_) (by rw[d];exact hp.2.2) (by rw[d,hp.2.1];omega),h.ec.heads (fun x b=>?_)⟩
 ·have hi:=h.iw x b;exact sw
 ·have hi:=h.io x b;exact p7
theorem d5.copy (h:d5 N y g ws Y G)(hl:ws.length=N+O)(hy:y<=N)(hg:g<=O){a:Int}(hm:it N O y g ws a=true)(ha:a∈Y\/a∈G):d5 N y (jJ N O y g ws a) (jK N O y g ws a) Y (G++[((N+g:Nat):Int)])/\ld N y (jJ N O y g ws a) (jK N O y g ws a) ((N+g:Nat):Int)=ld N y g ws a:=by
 obtain⟨f,o,p⟩:=nU hm;have hp:=dj (ld N y g ws a)
 have j:jJ N O y g ws a=g+(1+(pf (ld N y g ws a)).toNat):=by unfold jJ;rw[aI hm]
 have k:jK N O y g ws a=splice ws (N+g) ((ws.drop a.toNat).take (1+(pf (ld N y g ws a)).toNat)):=by unfold jK;rw[aI hm]
 have l:0<=a/\a+(1+pf (ld N y g ws a))<=(N:Int)+g/\dd N y g a=true:=by
  rcases ha with ha|ha
  ·have m:=h.ty.mem a ha;have b:=h.iw a ha;exact⟨b.1,V,iK b.1 b.2⟩
  ·have m:=h.ec.mem a ha;have b:=h.io a ha;exact⟨V,V,hY b.1 b.2⟩
 rw[j,k];obtain⟨n,hn⟩:∃n,n=(pf (ld N y g ws a)).toNat:=⟨_,rfl⟩
 rw[<-hn];have c:∀i:Nat,_=_:=fun i=>p8 ws (N+g) a.toNat (1+n) i V V;have d:ld N y (g+(1+n)) (splice ws (N+g) ((ws.drop a.toNat).take (1+n))) ((N+g:Nat):Int)=ld N y g ws a:=by rw[dW (hY V V),Int.toNat_natCast,c,aI V,Nat.add_sub_cancel,dW l.2.2]
 refine⟨⟨h.ty.heads (fun x e=>?_),?_⟩,d⟩
 ·have hi:=h.iw x e;rw[dW (iK hi.1 hi.2),dW (iK hi.1 hi.2),c,aG V]
 ·have ht:=h.ec;rw[show(N:Int)+g=((N+g:Nat):Int) by omega] at ht;refine ht.snoc (fun x e=>?_) (by rw[d];exact f) (by rw[d];omega)
  have hi:=h.io x e;rw[dW (hY hi.1 V),dW (hY hi.1 hi.2),c,aG V]
theorem d5.set (h:d5 N y g ws Y G)(hl:ws.length=N+O)(hy:y<=N)(hg:g<=O){v i z:Int}(hv:v∈Y\/v∈G)(f:0<=i)(j:i<pf (ld N y g ws v)):d5 N y g (ws.set (v+1+i).toNat z) Y G/\∀x,(x∈Y\/x∈G)->ld N y g (ws.set (v+1+i).toNat z) x=ld N y g ws x:=by
 have hb:0<=v/\v+1+i<(N:Int)+g:=by
  rcases hv with hv|hv
  ·have d:=h.ty.mem v hv;have c:=h.iw v hv;omega
  ·have d:=h.ec.mem v hv;have c:=h.io v hv;omega
 have key:∀x,(x∈Y\/x∈G)->ld N y g (ws.set (v+1+i).toNat z) x=ld N y g ws x:=fun x b=>by
  have k:x≠v+1+i:=by
   intro e;rcases hv with hv|hv<;>rcases b with b|b
   ·exact h.ty.field hv f j (by rw[<-e];exact b)
   ·have d:=h.ty.mem v hv;have c:=h.io x b;omega
   ·have d:=h.io v hv;have c:=h.iw x b;omega
   ·exact h.ec.field hv f j (by rw[<-e];exact b)
  have hi:dd N y g x=true/\0<=x:=by
   rcases b with b|b
   ·have c:=h.iw x b;exact⟨iK c.1 c.2,c.1⟩
   ·have c:=h.io x b;exact⟨hY c.1 c.2,V⟩
  rw[dW hi.1,dW hi.1,j9 _ _ _ _ V,aG V]
 exact⟨⟨h.ty.heads (fun x b=>key x (aK b)),h.ec.heads (fun x b=>key x (aJ b))⟩,key⟩
end
open Go.RowKit W Kp cf
structure fJ (σ:Type) extends dr σ where
 p:Nat
 vr:Value
 wt:σ->List b7
 put:σ->List b7->σ
 side:∀{F s w},J F s w->∃ad cap,w.heap[p]?=some (.cells #[vr,.slice ad (wt s).length cap] 153 (0,0))/\iq w ad (wt s) cap/\F p/\(0<(wt s).length->∀z,ad=some z->F z.block)
 set:∀{F s w},J F s w->∀{w1:ax}{q:List b7}{b1 gb:Nat},Below w.heap.size w w1->w1.ownsRow w.heap.size 103 2 (.slice (ak b1) q.length gb) q.length (ev q)->
  J (fun k=>F k\/k=b1) (put s q) (w1.setCell ⟨p,1,none⟩ (.slice (some ⟨b1,0,none⟩) q.length gb))
 p9:∀s q,wt (put s q)=q
theorem iq.keep {w w':ax}{ad:Option Addr}{l:List b7}{cap:Nat}(h:iq w ad l cap)(hs:w.heap.size<=w'.heap.size)(hk:0<l.length->∀a,ad=some a->w'.heap[a.block]?=w.heap[a.block]?):iq w' ad l cap:=⟨h.lp.keep hs hk,h.le,h.nil⟩
theorem iq.below {w w':ax}{ad:Option Addr}{l:List b7}{cap:Nat}(h:iq w ad l cap)(hb:Below w.heap.size w w'):iq w' ad l cap:=⟨h.lp.below hb,h.le,h.nil⟩
def mQ {d:Type}(o:fJ d)(D:Int->Prop)(f:Nat)(b c:Array Value)(kp:d->Int->Int×d):Prop:=
 ∀F t w (x:Int),D x->(o.wt (kp t x).2).length<=90000->o.J F t w->Calls prog f (b.push (ah x)++c) w fun r w'=>∃e,r=.returned (ah (kp t x).1)/\o.J e (kp t x).2 w'/\Fr F w w'/\∀k,e k->F k\/w.heap.size<=k
structure fP where
 f:Nat
 b:Array Value
 c:Array Value
abbrev fP.v (x:fP):Value:=.func (.func x.f) x.b x.c
structure k_ (w:ax)(p bl Da bs:Nat)(fa fk fn:fP):Prop where
 l:w.heap[bl]?=some (.cells #[fa.v,fk.v,fn.v] 145 (0,0))
 g:w.heap[Da]?=some (.cells #[.func (.func 146) #[] #[aj bl]] 101 (0,0))
 s:w.heap[bs]?=some (.cells #[aj p] 52 (0,0))
theorem w7 {i:Type}(o:dr i)(D:Int->Prop)(d:fP)(is:i->Int->Bool)(he:dN d.f)(ha:j8 o D d.f d.b d.c is)(F:Nat->Prop)(s:i)(w:ax)(bl:Nat)(e:b7)(l:D e.1)(j:o.J F s w)(hc:w.cell? (aq bl 0)=some d.v):
 Calls prog 146 #[en e,aj bl] w fun r w'=>r=.returned (.bool (is s e.1))/\Below w.heap.size w w':=by
 obtain⟨g,z⟩:=e;obtain⟨f,b,c⟩:=d;have m:ay (_):=ha;have n:ay (_):=j;have p:=aQ w _ hc;have q:∀(args:Array Value)(w:ax),_=_:=he;clear he ha j;go_enter func146,ntmps146;go_wp2_with fail;have k:=au w (.cells #[.int .i64 g,.int .i64 z] 103)
 refine(m.o F s _ g l (o.below n.o k)).mono ?_;rintro r w1 ⟨rfl,hb⟩
 go_wp2_with fail;go_ret;exact⟨rfl,k.trans (hb.mono Z)⟩
theorem Db {i:Type}(o:dr i)(D:Int->Prop)(d:fP)(is:i->Int->Bool)(he:dN d.f)(ha:j8 o D d.f d.b d.c is)(F:Nat->Prop)(s:i)(w:ax)(bl:Nat)(e:b7)(l:D e.2)(j:o.J F s w)(hc:w.cell? (aq bl 0)=some d.v):
 Calls prog 151 #[en e,aj bl] w fun r w'=>r=.returned (.bool (is s e.2))/\Below w.heap.size w w':=by
 obtain⟨g,z⟩:=e;obtain⟨f,b,c⟩:=d;have m:ay (_):=ha;have n:ay (_):=j;have p:=aQ w _ hc;have q:∀(args:Array Value)(w:ax),_=_:=he;clear he ha j;go_enter func151,ntmps151;go_wp2_with fail;have k:=au w (.cells #[.int .i64 g,.int .i64 z] 103)
 refine(m.o F s _ z l (o.below n.o k)).mono ?_;rintro r w1 ⟨rfl,hb⟩
 go_wp2_with fail;go_ret;exact⟨rfl,k.trans (hb.mono Z)⟩
def cm {b:Type}(o:fJ b)(is:b->Int->Bool)(kp:b->Int->Int×b)(s:b)(e:b7):Bool×b:=
 if is s e.1 then(true,o.put (kp s e.2).2 (o.wt (kp s e.2).2++[(e.1,(kp s e.2).1)])) else(false,s)
theorem mR {b:Type}{o:fJ b}{is:b->Int->Bool}{kp:b->Int->Int×b}{s:b}{e:b7}(h:is s e.1=false):cm o is kp s e=(false,s):=by simp[cm,h]
theorem mS {b:Type}{o:fJ b}{is:b->Int->Bool}{kp:b->Int->Int×b}{s:b}{e:b7}(h:is s e.1=true):cm o is kp s e=(true,o.put (kp s e.2).2 (o.wt (kp s e.2).2++[(e.1,(kp s e.2).1)])):=by simp[cm,h]
theorem a5 (w:ax)(a b:Addr)(v:Value)(h:a ≠ b):(w.setCell a v).cell? b = w.cell? b:=by intros;apply World.cell?_setCell_other<;>assumption
theorem bf (w:ax)(a:Addr)(v:Value){u:Value}(h:w.cell? a = some u):(w.setCell a v).cell? a = some v:=by intros;apply World.cell?_setCell_same<;>assumption
theorem Dc {m:Type}(o:fJ m)(D:Int->Prop)(d fk am:fP)(is:m->Int->Bool)(kp:m->Int->Int×m)(he:dN d.f)(L:dN fk.f)(ha:j8 o.todr D d.f d.b d.c is)(hk:mQ o D fk.f fk.b fk.c kp)
 (F:Nat->Prop)(s:m)(w:ax)(bl v bs:Nat)(e:b7)(M:D e.1/\D e.2)(hn:(o.wt (kp s e.2).2).length<=90000)(N:o.J F s w)(hB:k_ w o.p bl v bs d fk am)(hs:¬F bs):
 Calls prog 147 #[en e,aj v,aj bl,aj bs] w fun r w'=>∃O,r=.returned (.bool (cm o is kp s e).1)/\o.J O (cm o is kp s e).2 w'/\Fr F w w'/\∀k,O k->F k\/w.heap.size<=k:=by
 obtain⟨g,z⟩:=e;have an:ay (j8 o.todr D d.f d.b d.c is):=ha;have ao:ay (mQ o D fk.f fk.b fk.c kp):=hk;have I:ay ((o.wt (kp s z).2).length<=90000):=hn;have ap:ay (dN d.f):=he;have x:ay (o.J F s w):=N;have c0:w.cell? (aq bl 0)=some d.v:=aA hB.l
 have c1:w.cell? (aq bl 1)=some (.func (.func fk.f) fk.b fk.c):=aA hB.l
 have c2:w.cell? (aq v 0)=some (.func (.func 146) #[] #[aj bl]):=aA hB.g
 have c3:w.cell? (aq bs 0)=some (aj o.p):=aA hB.s
 have l1:bl<w.heap.size:=lt_of_some hB.l;have l2:v<w.heap.size:=lt_of_some hB.g;have ar:bs<w.heap.size:=lt_of_some hB.s;have bt:∀(args:Array Value)(w:ax),(callFunc fk.f args).run prog w=.ok (.enter fk.f args) w:=L;clear he ha N hk L hn hB;go_enter func147,ntmps147;go_wp2_with fail;have A:=au w (.cells #[.int .i64 g,.int .i64 z] 103)
 refine(w7 o.todr D d is ap.o an.o F s _ bl (g,z) M.1 (o.below x.o A) ((A.cell l1).trans c0)).mono ?_;rintro r w1 ⟨rfl,hb⟩
 have f:=A.trans (hb.mono Z)
 have aB:w.heap.size<w1.heap.size:=by have:=hb.size;simp at this;omega
 have P:w1.cell? (aq w.heap.size 0)=some (ah g):=(hb.cell Z).trans Z;have y1:w1.cell? (aq w.heap.size 1)=some (ah z):=(hb.cell Z).trans Z;have aF:w1.cell? (aq bl 1)=some (.func (.func fk.f) fk.b fk.c):=(f.cell l1).trans c1;have Q:w1.cell? (aq bs 0)=some (aj o.p):=(f.cell ar).trans c3;have R:w1.frozen? (aq w.heap.size 1)=false:=(hb.frozen Z).trans Z;clear hb A;cases hg:is s g
 ·have n:ay (cm o is kp s (g,z)=(false,s)):=mR hg;go_wp2_with fail;go_ret;rw[n.o];exact⟨F,rfl,o.below x.o f,Fr.of f,fun k h=>aK h⟩
 ·have n:ay (cm o is kp s (g,z)=(true,o.put (kp s z).2 (o.wt (kp s z).2++[(g,(kp s z).1)]))):=mS hg;go_wp2_with fail;refine(ao.o F s _ z M.2 I.o (o.below x.o f)).mono ?_;rintro r b ⟨t,rfl,B,u,C⟩
  generalize (kp s z).1=y at n⊢;generalize (kp s z).2=s1 at n B I;have J:¬F w.heap.size:=fun h=>by have:=o.lt x.o _ h;omega
  have E:¬t w.heap.size:=fun h=>(C _ h).elim J (fun h=>by omega)
  have bx:=u.size;have bY:=f.size;obtain⟨ad,cap,hp,S,G,U⟩:=o.side B;have W:o.p≠w.heap.size:=fun e=>E (by rw[<-e];exact G)
  have bZ:o.p<b.heap.size:=lt_of_some hp;have b0:bs≠o.p:=fun e=>(C bs (by rw[e];exact G)).elim hs (fun h=>by omega)
  have b2:=I.o;have H:=u.block _ aB J;have Y:=u.block bs V hs;have z0:b.cell? (aq w.heap.size 0)=some (ah g):=(aP (a:=⟨w.heap.size,0,none⟩) H).trans P;have ab:b.cell? (aq w.heap.size 1)=some (ah z):=(aP (a:=⟨w.heap.size,1,none⟩) H).trans y1;have aR:b.frozen? (aq w.heap.size 1)=false:=(World.frozen?_of_block (a:=⟨w.heap.size,1,none⟩) H).trans R;have ag:b.cell? (aq bs 0)=some (aj o.p):=(aP (a:=⟨bs,0,none⟩) Y).trans Q;have aV:bs≠w.heap.size:=V;have l:∀k:Nat,k≠w.heap.size->(b.setCell ⟨w.heap.size,1,none⟩ (.int .i64 y)).heap[k]?=b.heap[k]?:=fun k hk=>aU _ _ _ _ hk;have K:(b.setCell ⟨w.heap.size,1,none⟩ (.int .i64 y)).heap.size=b.heap.size:=by simp[World.setCell]
  have a0:(b.setCell ⟨w.heap.size,1,none⟩ (.int .i64 y)).cell? (aq w.heap.size 0)=some (ah g):=(a5 b ⟨w.heap.size,1,none⟩ ⟨w.heap.size,0,none⟩ (ah y) Z).trans z0;have a1:(b.setCell ⟨w.heap.size,1,none⟩ (.int .i64 y)).cell? (aq w.heap.size 1)=some (ah y):=bf _ _ _ ab;have a2:(b.setCell ⟨w.heap.size,1,none⟩ (.int .i64 y)).cell? (aq bs 0)=some (aj o.p):=(aP (a:=⟨bs,0,none⟩) (l bs aV)).trans ag;have bb:(b.setCell ⟨w.heap.size,1,none⟩ (.int .i64 y)).cell? (aq o.p 1)=some (.slice ad (o.wt s1).length cap):=(aP (a:=⟨o.p,1,none⟩) (l o.p W)).trans (by simp[World.cell?,hp])
  have bd:(b.setCell ⟨w.heap.size,1,none⟩ (.int .i64 y)).frozen? (aq o.p 1)=false:=(World.frozen?_of_block (a:=⟨o.p,1,none⟩) (l o.p W)).trans (by simp[World.frozen?,hp])
  have be:o.J t s1 (b.setCell ⟨w.heap.size,1,none⟩ (.int .i64 y)):=o.keep B (by rw[K];exact aD _) (fun k hk=>l k (fun e=>E (by rw[<-e];exact hk)))
  have bg:iq (b.setCell ⟨w.heap.size,1,none⟩ (.int .i64 y)) ad (o.wt s1) cap:=S.keep (by rw[K];exact aD _) (fun hq a e=>l _ (fun bi=>E (by rw[<-bi];exact U hq a e)))
  have bn:Fr F w (b.setCell ⟨w.heap.size,1,none⟩ (.int .i64 y)):=((Fr.of (X:=F) f).trans u (fun _ c=>aK c)).trans ((Fr.refl (fun k=>k=w.heap.size) b).set _ 1 _ rfl) (fun i c=>aJ V)
  have ai:ay (∀k,t k->F k\/w.heap.size<=k):=fun k h=>(C k h).imp id (fun h=>by omega)
  have bo:ay (t o.p):=G;have lo:bs<(b.setCell ⟨w.heap.size,1,none⟩ (.int .i64 y)).heap.size:=V;have lp:o.p<(b.setCell ⟨w.heap.size,1,none⟩ (.int .i64 y)).heap.size:=V;have lw:w.heap.size<(b.setCell ⟨w.heap.size,1,none⟩ (.int .i64 y)).heap.size:=V;clear J E hp S G U H Y ag l u B C P y1 aF Q R K;go_wp2_with fail;generalize b.setCell ⟨w.heap.size,1,none⟩ (.int .i64 y)=b3 at*;clear z0 ab aR
  go_region_with (go_at_call 104;refine(v7 _ ad (o.wt s1) cap g y (bg.below (bX.drew)) V).mono ?_;rintro e bp ⟨b1,gb,rfl,al,j⟩;have b4:=(j.cell (p:=aq w.heap.size 0) lw).trans a0;have b5:=(j.cell (p:=aq w.heap.size 1) lw).trans a1;have b6:=(j.cell (p:=aq bs 0) lo).trans a2;have b8:=(j.cell (p:=aq o.p 1) lp).trans bb;have b9:=(j.frozen (p:=aq o.p 1) lp).trans bd)
  all_goals
   go_wp2_with fail;go_ret;rw[n.o];have br:=o.set (q:=o.wt s1++[(g,y)]) (b1:=b1) (gb:=gb) (o.below be bX.drew) j (by simpa using al)
   refine⟨fun k=>t k\/k=b1,rfl,by simpa using br,(bn.drew.trans (Fr.of (X:=F) j) (fun _ c=>aK c)).trans ((Fr.refl (fun k=>k=o.p) bp).set o.p 1 _ rfl) (fun i c=>by rw[c];exact ai.o _ bo.o),fun k h=>h.elim (ai.o k) (fun h=>aJ (by have:=(cn al b1 rfl).1;simp at this;omega))⟩
def boxed {e:Type}(o:fJ e)(bl d bs:Nat)(f fk g:fP):dr e where
 J F s w:=∃b,o.J b s w/\k_ w o.p bl d bs f fk g/\¬b bl/\¬b d/\¬b bs/\∀k,F k↔(b k\/k=bl\/k=d\/k=bs)
 lt:=by
  rintro F t w ⟨b,h0,hB,_,_,_,c⟩ k hk;rcases(c k).1 hk with h|rfl|rfl|rfl
  ·exact o.lt h0 k h
  ·exact lt_of_some hB.l
  ·exact lt_of_some hB.g
  ·exact lt_of_some hB.s
 keep:=by rintro F t w w' ⟨b,h0,hB,i,j,l,c⟩ hs hk;exact⟨b,o.keep h0 hs (fun k h=>hk k ((c k).2 (aK h))),⟨(hk bl ((c bl).2 Z)).trans hB.l,(hk d ((c d).2 Z)).trans hB.g,(hk bs ((c bs).2 Z)).trans hB.s⟩,i,j,l,c⟩
theorem Dd {c:Type}(o:fJ c)(bl d bs:Nat)(D:Int->Prop)(b fk j:fP)(is:c->Int->Bool)(kp:c->Int->Int×c)(he:dN b.f)(v:dN fk.f)(ha:j8 o.todr D b.f b.b b.c is)(hk:mQ o D fk.f fk.b fk.c kp):
 Looks (boxed o bl d bs b fk j) (fun e=>D e.1/\D e.2) (fun s=>∀x,(o.wt (kp s x).2).length<=90000) 147 #[] #[aj d,aj bl,aj bs] (cm o is kp):=by
 intro F s w e A B C;obtain⟨l,h0,hB,m,n,g,i⟩:=C;refine(Dc o D b fk j is kp he v ha hk l s w bl d bs e A (B e.2) h0 hB g).mono ?_;rintro r w' ⟨p,rfl,E,f,t⟩
 have q:∀k,k<w.heap.size->¬l k->_:=fun k hk hn h=>(t k h).elim hn (fun h=>by omega)
 have lb:=lt_of_some hB.l;have u:=lt_of_some hB.g;have ls:=lt_of_some hB.s;refine⟨fun k=>p k\/k=bl\/k=d\/k=bs,rfl,⟨p,E,⟨(f.block _ lb m).trans hB.l,(f.block _ u n).trans hB.g,(f.block _ ls g).trans hB.s⟩,q _ lb m,q _ u n,q _ ls g,fun k=>Iff.rfl⟩,f.mono (fun k h=>(i k).2 (aK h)),fun k h=>?_⟩
 rcases h with h|h
 ·exact(t k h).imp (fun h=>(i k).2 (aK h)) id
 ·exact aK ((i k).2 (aJ h))
def eB {c:Type}(lk:c->b7->Bool×c):Nat->c->List b7->c×List b7
 |0,s,b=>(s,b)
 |n+1,s,b=>if(pts lk s b).1.length=0 then((pts lk s b).2.2,(pts lk s b).2.1) else eB lk n (pts lk s b).2.2 (pts lk s b).2.1
theorem lQ {c:Type}(lk:c->b7->Bool×c)(n:Nat)(s:c)(b:List b7)(h:(pts lk s b).1.length=0):eB lk (n+1) s b=((pts lk s b).2.2,(pts lk s b).2.1):=by rw[eB,aI h]
theorem lR {c:Type}(lk:c->b7->Bool×c)(n:Nat)(s:c)(b:List b7)(h:¬(pts lk s b).1.length=0):eB lk (n+1) s b=eB lk n (pts lk s b).2.2 (pts lk s b).2.1:=by rw[eB,aG h]
theorem sD {b:Type}(lk:b->b7->Bool×b)(t:b)(l:List b7)(e:b7):(e∈(pts lk t l).1\/e∈(pts lk t l).2.1)->e∈l:=by
 have key:∀(l:List b7)(s:List b7×List b7×b),(e∈(l.foldl (eh lk) s).1\/e∈(l.foldl (eh lk) s).2.1)->e∈s.1\/e∈s.2.1\/e∈l:=by
  intro l
  induction l with
  |nil=>intro s h;rcases h with h|h<;>simp at h<;>simp[h]
  |cons x r c=>
   intro s h;have:=c _ h;unfold eh at this
   split at this<;>simp only [List.mem_append,List.mem_cons] at this⊢<;>grind
 intro h;have:=key l ([],[],t) h;simpa using this
abbrev mT (b bl bs:Nat):Value:=.func (.func 147) #[] #[aj b,aj bl,aj bs]
theorem aZ {α:Type _}{«as» bs:List α}:(«as» ++ bs).length = «as».length + bs.length:=List.length_append ..
theorem sE {b:Type}(o:fJ b)(is:b->Int->Bool)(kp:b->Int->Int×b)(hl:∀s x,(o.wt (kp s x).2).length=(o.wt s).length)(s:b)(l:List b7):(o.wt (pts (cm o is kp) s l).2.2).length=(o.wt s).length+(pts (cm o is kp) s l).1.length:=by
 have key:∀(l:List b7)(t:List b7×List b7×b),(o.wt (l.foldl (eh (cm o is kp)) t).2.2).length+t.1.length=(o.wt t.2.2).length+(l.foldl (eh (cm o is kp)) t).1.length:=by
  intro l
  induction l with
  |nil=>simp
  |cons e r d=>
   intro t;rw[a8];have h:=d (eh (cm o is kp) t e)
   cases hc:is t.2.2 e.1
   ·have c:eh (cm o is kp) t e=(t.1,t.2.1++[e],t.2.2):=by simp[eh,cm,hc]
    rw[c] at h⊢;exact h
   ·have c:eh (cm o is kp) t e=(t.1++[e],t.2.1,o.put (kp t.2.2 e.2).2 (o.wt (kp t.2.2 e.2).2++[(e.1,(kp t.2.2 e.2).1)])):=by simp[eh,cm,hc]
    rw[c] at h⊢;rw[o.p9,aZ,aZ,hl] at h;simp at h;omega
 have:=key l ([],[],s)
 simpa[pts] using this
def ft {b:Type}(o:fJ b)(is:b->Int->Bool)(kp:b->Int->Int×b)(s:b)(r:List b7):b:=(eB (cm o is kp) ((r.filter (fun e=>!is s e.2)).length+1) s (r.filter (fun e=>!is s e.2))).1
def eO {b:Type}(o:fJ b)(is:b->Int->Bool)(kp:b->Int->Int×b)(nw:b->Int->Int)(s:b)(r:List b7):List b7:=((r.filter (fun e=>is s e.2)).filter (fun e=>is (ft o is kp s r) e.1)).map fun e=>(nw (ft o is kp s r) e.1,nw (ft o is kp s r) e.2)
def eP {b:Type}(o:fJ b)(is:b->Int->Bool)(kp:b->Int->Int×b)(nw:b->Int->Int)(s:b)(r:List b7):List b7:=((o.wt (ft o is kp s r)).filter (fun e=>is (ft o is kp s r) e.1)).map fun e=>(nw (ft o is kp s r) e.1,nw (ft o is kp s r) e.2)
structure lS {σ:Type}(o:fJ σ)(D:Int->Prop)(fa fk fn:fP)(is:σ->Int->Bool)(kp:σ->Int->Int×σ)(nw:σ->Int->Int):Prop where
 ea:dN fa.f
 e6:dN fk.f
 en:dN fn.f
 ha:j8 o.todr D fa.f fa.b fa.c is
 hk:mQ o D fk.f fk.b fk.c kp
 ht:k4 o.todr D fn.f fn.b fn.c nw
 hl:∀s x,(o.wt (kp s x).2).length=(o.wt s).length
end Go.Proofs.YtpkjkjhanlbcoaaGreat
