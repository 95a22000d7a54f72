import Derived.Test.YtjpjpjemibgjpaaGreatJ01
import Derived.Maps.OwnSet
import Derived.Test.YtjpjpjemibgjpaaGreatJ04
import Derived.Test.YtjpjpjemibgjpaaGreatJ02
import Derived.Deep.RegionHeld3
import Derived.Test.YtjpjpjemibgjpaaGreatJ00
import Derived.Test.YtjpjpjemibgjpaaGreatJ03
namespace Go.Proofs.YtjpjpjemibgjpaaGreat
set_option maxRecDepth 100000
set_option maxHeartbeats 1000000
open Tryz
open Go.RowKit W
def jj (M:List Int)(k:Int):List Int:=if M.contains k then M else M++[k]
theorem o4 (M:List Int)(k j:Int):(jj M k).contains j=(M.contains j||j==k):=by
 unfold jj;by_cases c:M.contains k=true
 ·rw[aq c];by_cases e:j=k
  ·subst e;rw[c];rfl
  ·simp[e]
 ·rw[ao c];by_cases e:j=k<;>simp[e]
theorem wP (M:List Int)(k:Int):(jj M k).length<=M.length+1:=by unfold jj;split<;>simp
theorem o5:Maps.Keyed prog 150:=Maps.int_keyed Tryz.underlying150
theorem wQ (w:World):(zeroValue 182).run prog w=.ok (.agg #[]) w:=ab
structure Cd (w:World)(p q:Nat)(B c:Int)(M:List Int):Prop where
 hp:w.heap[p]?=some (.cells #[ae B,.int .u64 c,.map (some q)] 153 (0,0))
 hq:∃D:DataW Unit,w.ownsMap prog 150 unitElem q M.length D/\(∀k:Int,Maps.has D (.int .u64 k)=M.contains k)/\Maps.size D=M.length
theorem o6 {H:Type}{P:Program}{k:TypeId}{R:Value->Option (DataW H×List MemPlace)}{w w':World}{b n:Nat}{D:DataW H}(h:w.ownsMap P k R b n D)(e:w'.heap[b]?=w.heap[b]?):w'.ownsMap P k R b n D:=by obtain⟨a,c,d,r⟩:=h;exact⟨a,c,e.trans d,r⟩
theorem o7 {H:Type}{P:Program}{k:TypeId}{R:Value->Option (DataW H×List MemPlace)}{w:World}{b n m:Nat}{D:DataW H}(h:w.ownsMap P k R b n D)(e:Maps.size D=m):w.ownsMap P k R b m D:=by obtain⟨a,c,d,F,hs,rfl⟩:=h;exact⟨a,c,d,F,by rw[<-e];simp[Maps.size,length_sorted],rfl⟩
theorem Cd.ee {w:World}{p q:Nat}{B c:Int}{M:List Int}(h:Cd w p q B c M):p<w.heap.size:=lt_of_some h.hp
theorem Cd.ef {w:World}{p q:Nat}{B c:Int}{M:List Int}(h:Cd w p q B c M):q<w.heap.size:=by obtain⟨D,a,_⟩:=h.hq;exact a.lt
theorem Cd.ne {w:World}{p q:Nat}{B c:Int}{M:List Int}(h:Cd w p q B c M):p≠q:=by intro e;obtain⟨D,⟨d,f,b,_⟩,_⟩:=h.hq;have a:=h.hp;rw[e,b] at a;simp at a
theorem Cd.same {w w':World}{p q:Nat}{B c:Int}{M:List Int}(h:Cd w p q B c M)(ep:w'.heap[p]?=w.heap[p]?)(eq:w'.heap[q]?=w.heap[q]?):Cd w' p q B c M:=by obtain⟨D,a,b⟩:=h.hq;exact⟨ep.trans h.hp,D,o6 a eq,b⟩
theorem Cd.below {w w':World}{p q X:Nat}{B c:Int}{M:List Int}(h:Cd w p q B c M)(a:Below X w w')(b:w.heap.size<=X):Cd w' p q B c M:=
 h.same (a.block p (av h.ee b)) (a.block q (av h.ef b))
theorem Cd.cells {w:World}{p q:Nat}{B c:Int}{M:List Int}(h:Cd w p q B c M):
 w.cell? (ah p 0)=some (ae B)/\w.cell? (ah p 1)=some (.int .u64 c)/\w.cell? (ah p 2)=some (.map (some q)):=by
 have hp:=h.hp;refine⟨?_,?_,?_⟩<;>simp[World.cell?,hp]
theorem Cd.put {w w':World}{p q:Nat}{B c k:Int}{M:List Int}{D:DataW Unit}{n:Nat}(h:w.heap[p]?=some (.cells #[.int .i64 B,.int .u64 c,.map (some q)] 153 (0,0)))
 (h0:w.ownsMap prog 150 unitElem q M.length D)(b:∀k:Int,Maps.has D (.int .u64 k)=M.contains k)(d:Maps.size D=M.length)(f:p≠q)
 (g:w'.ownsMap prog 150 unitElem q n (D.put (.int .u64 k) (.agg [])))(a:w.grownBy w' (some q)):Cd w' p q B c (jj M k)/\cY p q w w':=by
 have hs:Maps.size (D.put (.int .u64 k) (.agg []))=(jj M k).length:=by rw[Maps.size_put (h0.tidy o5),b,d];unfold jj;split<;>simp
 refine⟨⟨(a.block p (lt_of_some h) (fun e=>f (by cases e;rfl))).trans h,_,o7 g hs,fun j=>?_,hs⟩,⟨a.os,a.tape,a.output,a.size,fun i hi _ e=>a.block i hi (fun l=>e (by cases l;rfl))⟩⟩
 rw[o4];by_cases e:j=k
 ·subst e;rw[Maps.has_put_same (k:=.int .u64 j) h0.isMap trivial];simp
 ·rw[Maps.has_put_other (by simpa using e),b];simp[e]
theorem Cd.none {w:World}{p q:Nat}{B c:Int}(h:w.heap[p]?=some (.cells #[.int .i64 B,.int .u64 c,.map (some q)] 153 (0,0)))(a:w.ownsMap prog 150 unitElem q 0 (.map []:DataW Unit)):Cd w p q B c []:=
 ⟨h,_,a,fun _=>rfl,rfl⟩
def dx (x:Int):Int:=if x<0 then 0 else(x+8-1)/8
def cN (B a:Int):Int:=if a<B then 0 else(a-B)/8
def fS (B c a:Int):Bool:=decide (B<=a)&&decide ((a-B)/8<c)
theorem wR (x:Int)(w:World)(h:x<=100000):Calls prog 133 #[ae x] w fun e w'=>e=.returned (.int .u64 (dx x))/\w'=w:=by
 by_cases c:x<0
 ·have e:dx x=0:=by unfold dx;rw[aq c]
  rw[e];go_enter func133,ntmps133;go_wp2_with fail;go_ret;exact⟨rfl,rfl⟩
 ·have e:dx x=(x+8-1)/8:=by unfold dx;rw[ao c]
  rw[e];go_enter func133,ntmps133;go_wp2_with fail;go_ret;exact⟨rfl,rfl⟩
theorem aZ {p:Prop} [Decidable p]:¬p -> Decidable.decide p = Bool.false:=decide_eq_false
theorem a8 {p:Prop} [inst:Decidable p]:p -> Decidable.decide p = Bool.true:=decide_eq_true
theorem rI {p q:Nat}{B c:Int}{M:List Int}(a:Int)(w:World)(h:Cd w p q B c M)(hB:0<=B)(d:B<=100000)(ha:a<=9223372036854775807):
 Calls prog 142 #[af p,ae a] w fun e w'=>e=.returned (.tuple #[.int .u64 (cN B a),.bool (fS B c a)])/\Below w.heap.size w w':=by
 obtain⟨c0,c1,c2⟩:=h.cells;by_cases hc:a<B
 ·have e:fS B c a=false:=by unfold fS;rw[aZ I];rfl
  have b:cN B a=0:=by unfold cN;rw[aq hc]
  rw[e,b];go_enter func142,ntmps142;go_wp2_with fail;go_ret2;exact⟨rfl,Below.refl _ _⟩
 ·have e:fS B c a=decide ((a-B)/8<c):=by unfold fS;rw[a8 I];rfl
  have b:cN B a=(a-B)/8:=by unfold cN;rw[ao hc]
  rw[e,b];go_enter func142,ntmps142;go_wp2_with fail
  go_quiet (fail)
  go_wp2_with fail;go_ret2;exact⟨rfl,below_drewN bK _⟩
def jk (B c a:Int)(M:List Int):List Int:=if fS B c a then jj M (cN B a) else M
theorem rJ {B c a:Int}{M:List Int}(h:fS B c a=true):jk B c a M=jj M (cN B a):=by unfold jk;rw[aq h]
theorem wS {B c a:Int}{M:List Int}(h:fS B c a=false):jk B c a M=M:=by unfold jk;rw[ao (by rw[h];simp)]
theorem rL {B a:Int}(hB:0<=B)(ha:a<=9223372036854775807):(Lit.int .u64 (cN B a)).wf=true:=by
 unfold cN;split
 ·decide
 ·have b:0<=(a-B)/8:=I;exact WalkArith.wf_u64 ⟨b,I⟩
theorem wT {p q:Nat}{B c:Int}{M:List Int}(a:Int)(w:World)(h:Cd w p q B c M)(hB:0<=B)(f:B<=100000)(ha:a<=9223372036854775807)(hM:M.length<=100000):
 Calls prog 72 #[af p,ae a] w fun e w'=>e=.returned (.bool (fS B c a))/\Cd w' p q B c (jk B c a M)/\cY p q w w':=by
 have hk:=Maps.keyOf_int_mk (P:=prog) Tryz.underlying150 (rL (B:=B) (a:=a) hB ha)
 go_enter func72,ntmps72;go_wp2_with fail;refine(rI a _ h hB f ha).mono ?_;rintro e w1 ⟨rfl,d⟩
 have b:=h.below d bJ
 obtain⟨c0,c1,c2⟩:=b.cells;obtain⟨D,o1,g,i⟩:=b.hq;cases hc:fS B c a
 ·go_wp2_with fail;go_ret;exact⟨by rw[hc];rfl,by rw[wS hc];exact b,cY.of d⟩
 ·go_wp2_with (first
   |(at_mapUpdate;refine wpList_mapUpdate_own _ rfl _ _ _ 151 rfl 150 182 o5 Tryz.underlying151 (unitElem (H:=Unit)) q M.length D rfl o1 (by unfold maxLen;omega) _ _ _ rfl rfl hk _ [] unitElem_mk ?_;intro m j k)
   |go_in)
  go_ret;obtain⟨l,s2⟩:=Cd.put b.hp o1 g i b.ne j k;exact⟨by rw[hc];rfl,by rw[rJ hc];exact l,(cY.of d).trans s2⟩
theorem wU {p q:Nat}{B c:Int}{M:List Int}(a:Int)(w:World)(h:Cd w p q B c M)(hB:0<=B)(f:B<=100000)(ha:a<=9223372036854775807):
 Calls prog 151 #[af p,ae a] w fun e w'=>e=.returned (.bool (fS B c a&&M.contains (cN B a)))/\Below w.heap.size w w':=by
 have hk:=Maps.keyOf_int_mk (P:=prog) Tryz.underlying150 (rL (B:=B) (a:=a) hB ha)
 go_enter func151,ntmps151;go_wp2_with fail;refine(rI a _ h hB f ha).mono ?_;rintro e w1 ⟨rfl,b⟩
 have d:=h.below b bJ
 obtain⟨c0,c1,c2⟩:=d.cells;obtain⟨D,o1,g,i⟩:=d.hq;cases hc:fS B c a
 ·go_wp2_with fail;go_ret;exact⟨by rw[hc];rfl,b⟩
 ·go_wp2_with (first
   |(at_lookup;refine wpList_lookup_own_unit _ rfl _ _ 151 rfl 150 182 o5 Tryz.underlying151 (wQ _) q M.length D rfl o1 _ _ rfl hk ?_)
   |go_in)
  go_ret;exact⟨by rw[hc];show Ending.returned (.bool (decide (cN B a∈M)))=_;simp,b.alloc b.size _⟩
theorem wV {p q:Nat}{B c:Int}{M:List Int}(w:World)(h:Cd w p q B c M):
 Calls prog 36 #[af p] w fun e w'=>e=.returned (ae M.length)/\w'=w:=by
 obtain⟨c0,c1,c2⟩:=h.cells;obtain⟨D,o1,a,b⟩:=h.hq;go_enter func36,ntmps36;go_wp2_with (first
  |(at_len;refine wpList_len_own _ rfl _ 151 rfl 150 182 Tryz.underlying151 _ q M.length D rfl o1 ?_)
  |go_in)
 go_ret;exact⟨rfl,rfl⟩
theorem o8 {p:Nat}{B c:Int}{v:Value}(w:World)(h:w.heap[p]?=some (.cells #[ae B,.int .u64 c,v] 153 (0,0))):
 Calls prog 90 #[af p] w fun e w'=>e=.returned (.tuple #[])/\Cd w' p w.heap.size B c []/\cY p p w w':=by
 have a:=@run_makeMap prog;have hp:=lt_of_some h;have b:(w.alloc (.map #[] 0)).frozen? (ah p 2)=false:=by simp[World.frozen?,Below.heap_alloc _ _ _ hp,h]
 have hc:(w.alloc (.map #[] 0)).cell? (ah p 2)=some v:=by simp[World.cell?,Below.heap_alloc _ _ _ hp,h]
 go_enter func90,ntmps90;go_wp2_with fail;go_end0;have hm:=World.ownsMap_made (w.setCell ⟨p,2,none⟩ (.map (some w.heap.size))) prog 150 (unitElem (H:=Unit))
 have hz:(w.setCell ⟨p,2,none⟩ (.map (some w.heap.size))).heap.size=w.heap.size:=by simp[World.setCell]
 rw[hz] at hm;refine⟨rfl,Cd.none ((Below.heap_alloc _ _ _ I).trans ?_) hm,(cY.l4 _ _).trans (cY.of (bK.alloc bJ _))⟩
 simp only [World.setCell,Array.getElem?_modify,if_true,h,Option.map_some];simp
theorem wW (B x:Int)(w:World)(h:x<=100000):
 Calls prog 62 #[ae B,ae x] w fun e w'=>∃p q,e=.returned (af p)/\Cd w' p q B (dx x) []/\w.heap.size<=p/\w.heap.size<=q/\Below w.heap.size w w':=by
 go_enter func62,ntmps62;go_wp2_with fail;refine(wR x _ h).mono ?_;rintro e w1 ⟨rfl,a⟩
 have a:=a.symm;subst a;go_wp2_with fail;refine(o8 (p:=w.heap.size) (B:=B) (c:=dx x) (v:=.map none) _ (aw _ _)).mono ?_;rintro e d ⟨rfl,b,s2⟩
 go_wp2_with fail;go_ret;exact⟨_,_,rfl,b,ak _,V,(bK.alloc bJ _).trans (s2.below V bJ bJ)⟩
structure f0 (w:World)(pw p q pc ct N O y g:Nat)(ws:List Int)(c:Int)(M:List Int)(vs vr:Value):Prop where
 blk:w.heap[pw]?=some (.cells #[af p,af pc,vs,vr] 55 (0,0))
 ar:At w p q N O y g ws
 cd:Cd w pc ct N c M
section
variable {w w':World}{pw p q pc ct N O y g:Nat}{ws:List Int}{c:Int}{M:List Int}{vs vr:Value}
theorem f0.cells (h:f0 w pw p q pc ct N O y g ws c M vs vr):w.cell? (ah pw 0)=some (af p)/\w.cell? (ah pw 1)=some (af pc)/\w.cell? (ah pw 2)=some vs/\w.cell? (ah pw 3)=some vr/\pw<w.heap.size:=
 ⟨by simp[World.cell?,h.blk],by simp[World.cell?,h.blk],by simp[World.cell?,h.blk],by simp[World.cell?,h.blk],lt_of_some h.blk⟩
theorem f0.apart (h:f0 w pw p q pc ct N O y g ws c M vs vr):pw≠p/\pw≠q/\pw≠pc/\pw≠ct/\p≠pc/\p≠ct/\q≠pc/\q≠ct:=by
 obtain⟨D,⟨j,k,f,_⟩,_⟩:=h.cd.hq;have a:=h.blk;have b:=h.ar.hp;have d:=h.ar.hq;have i:=h.cd.hp;refine⟨fun e=>?_,fun e=>?_,fun e=>?_,fun e=>?_,fun e=>?_,fun e=>?_,fun e=>?_,fun e=>?_⟩
 ·rw[e,b] at a;simp at a
 ·rw[e,d] at a;simp at a
 ·rw[e,i] at a;simp at a
 ·rw[e,f] at a;simp at a
 ·rw[e,i] at b;simp at b
 ·rw[e,f] at b;simp at b
 ·rw[e,i] at d;simp at d
 ·rw[e,f] at d;simp at d
theorem f0.below (h:f0 w pw p q pc ct N O y g ws c M vs vr)(a:Below w.heap.size w w'):f0 w' pw p q pc ct N O y g ws c M vs vr:=
 ⟨(a.block pw (lt_of_some h.blk)).trans h.blk,h.ar.below a bJ,h.cd.below a bJ⟩
theorem f0.arena (h:f0 w pw p q pc ct N O y g ws c M vs vr){a b:Nat}{d:List Int}(ha:At w' p q N O a b d)(s:cY p q w w'):f0 w' pw p q pc ct N O a b d c M vs vr:=by obtain⟨a1,a2,k,l,e,f,i,j⟩:=h.apart;exact⟨(s.block pw (lt_of_some h.blk) a1 a2).trans h.blk,ha,h.cd.same (s.block pc h.cd.ee (Ne.symm e) (Ne.symm i)) (s.block ct h.cd.ef (Ne.symm f) (Ne.symm j))⟩
theorem f0.cards (h:f0 w pw p q pc ct N O y g ws c M vs vr){a:List Int}(hc:Cd w' pc ct N c a)(s:cY pc ct w w'):f0 w' pw p q pc ct N O y g ws c a vs vr:=by obtain⟨a1,a2,b,d,e,f,i,j⟩:=h.apart;exact⟨(s.block pw (lt_of_some h.blk) b d).trans h.blk,h.ar.same (s.block p h.ar.ee e f) (s.block q h.ar.ef i j),hc⟩
def fi (N y g:Nat)(ws:List Int)(x i z:Int):List Int:=if dH N y g ws x i=0 then(if cO N y g (bQ x+1+i)=true then ws.set (bQ x+1+i).toNat z else ws) else ws
def ky (N y g:Nat)(ws:List Int)(x i z:Int):Bool:=decide (dH N y g ws x i=0)&&(cI z&&hB 0 y (bQ z)&&hB N g (bQ x))
def stM (N y g:Nat)(ws:List Int)(x i z c:Int)(M:List Int):List Int:=if ky N y g ws x i z=true then jk N c (bQ x) M else M
theorem wX (x i z:Int)(h:f0 w pw p q pc ct N O y g ws c M vs vr)(hM:M.length<=100000):
 Calls prog 27 #[af pw,ae x,ae i,ae z] w fun e w'=>e=.returned (ae (dH N y g ws x i))/\f0 w' pw p q pc ct N O y g (fi N y g ws x i z) c (stM N y g ws x i z c M) vs vr/\Fr (fun k=>k=p\/k=q\/k=pc\/k=ct) w w':=by
 have H:Hid (f0 w pw p q pc ct N O y g ws c M vs vr):=h;obtain⟨c0,c1,_,_,G⟩:=h.cells;have P:=rH x i w c0 h.ar;have k1:=h.ar.hN';have a1:=h.ar.hy;have a2:=h.ar.hO;have a3:=h.ar.hg;have bb:∀{a b:World},cY p q a b->Fr (fun k=>k=p\/k=q\/k=pc\/k=ct) a b:=fun s=>⟨s.os,s.tape,s.output,s.size,fun k hk K=>s.block k hk (fun e=>K (ap e)) (fun e=>K (an (ap e)))⟩
 have bd:∀{a b:World},cY pc ct a b->Fr (fun k=>k=p\/k=q\/k=pc\/k=ct) a b:=fun s=>⟨s.os,s.tape,s.output,s.size,fun k hk K=>s.block k hk (fun e=>K (an (an (ap e)))) (fun e=>K (an (an (an e))))⟩
 clear h;by_cases h0:dH N y g ws x i=0
 ·have ht:tB N y g ws x=true:=by
   cases e:tB N y g ws x
   ·unfold dH at h0;rw[e,ao V] at h0;omega
   ·rfl
  obtain⟨b0,b1⟩:=rG (O:=O) ht k1 a1 a2 a3;have U:fi N y g ws x i z=if cO N y g (bQ x+1+i)=true then ws.set (bQ x+1+i).toNat z else ws:=by unfold fi;rw[aq h0]
  have W:stM N y g ws x i z c M=if(cI z&&hB 0 y (bQ z)&&hB N g (bQ x))=true then jk N c (bQ x) M else M:=by unfold stM ky;rw[a8 h0,Bool.true_and]
  rw[h0,aq rfl,aq rfl] at P;rw[h0,U,W];clear U W h0 ht;generalize bQ x+1+i=fl at P⊢;generalize bQ x=v at P b0 b1⊢;have C:Hid (∀w1,Below w.heap.size w w1->Calls prog 68 #[af p,ae fl,ae z] w1 fun e w'=>e=.returned (.bool (cO N y g fl))/\Hid (f0 w' pw p q pc ct N O y g (if cO N y g fl=true then ws.set fl.toNat z else ws) c M vs vr)/\Hid (Fr (fun k=>k=p\/k=q\/k=pc\/k=ct) w w')):=fun w1 aF=>by
   have Y:=H.out.below aF;refine(jP fl z w1 Y.ar).mono ?_;rintro e j ⟨rfl,be,s2⟩
   exact⟨rfl,Y.arena be s2,(Fr.of (X:=fun k=>k=p\/k=q\/k=pc\/k=ct) aF).trans (bb s2) (fun _ c=>ap c)⟩
  have D:Hid (∀j,Calls prog 69 #[ae z] j fun e w'=>e=.returned (.tuple #[ae (bQ z),.bool (cI z)])/\Below j.heap.size j w'):=fun j=>lu z j;generalize (if cO N y g fl=true then ws.set fl.toNat z else ws)=bo at C⊢;generalize cO N y g fl=bp at C;obtain⟨ai,aR⟩:∃b,cI z=b:=⟨_,rfl⟩
  rw[aR] at D⊢;clear aR;generalize bQ z=u at D⊢;cases hb2:hB 0 y u
  ·rw[Bool.and_false,Bool.false_and,ao V];cases ai
   ·go_enter func27,ntmps27;go_wp2_with fail;refine P.mono ?_;clear P;rintro e w1 ⟨rfl,d⟩
    have y1:=(d.cell (p:=ah pw 0) G).trans c0;go_wp2_with fail;refine(C.out w1 d).mono ?_;rintro e j ⟨rfl,m,n⟩
    clear y1;go_wp2_with fail;refine(D.out j).mono ?_;rintro e w3 ⟨rfl,l⟩
    have f:=m.out.below l;have o:=n.out.trans (Fr.of (X:=fun k=>k=p\/k=q\/k=pc\/k=ct) l) (fun _ c=>ap c)
    obtain⟨t,y1,_,_,L⟩:=f.cells;clear t y1;go_wp2_with fail;go_ret;exact⟨rfl,f,o⟩
   ·go_enter func27,ntmps27;go_wp2_with fail;refine P.mono ?_;clear P;rintro e w1 ⟨rfl,d⟩
    have y1:=(d.cell (p:=ah pw 0) G).trans c0;go_wp2_with fail;refine(C.out w1 d).mono ?_;rintro e j ⟨rfl,m,n⟩
    clear y1;go_wp2_with fail;refine(D.out j).mono ?_;rintro e w3 ⟨rfl,l⟩
    have f:=m.out.below l;have o:=n.out.trans (Fr.of (X:=fun k=>k=p\/k=q\/k=pc\/k=ct) l) (fun _ c=>ap c)
    obtain⟨t,y1,_,_,L⟩:=f.cells;have A:=ks u w3 f.ar;rw[hb2] at A;go_wp2_with fail;refine A.mono ?_;clear A;rintro e ad ⟨rfl,E⟩
    have B:=f.below E;have Q:=o.trans (Fr.of (X:=fun k=>k=p\/k=q\/k=pc\/k=ct) E) (fun _ c=>ap c)
    obtain⟨z0,R,_,_,aT⟩:=B.cells;clear t y1;clear z0 R;go_wp2_with fail;go_ret;exact⟨rfl,B,Q⟩
  ·rw[Bool.and_true];cases rM:hB N g v
   ·rw[Bool.and_false,ao V];cases ai
    ·go_enter func27,ntmps27;go_wp2_with fail;refine P.mono ?_;clear P;rintro e w1 ⟨rfl,d⟩
     have y1:=(d.cell (p:=ah pw 0) G).trans c0;go_wp2_with fail;refine(C.out w1 d).mono ?_;rintro e j ⟨rfl,m,n⟩
     clear y1;go_wp2_with fail;refine(D.out j).mono ?_;rintro e w3 ⟨rfl,l⟩
     have f:=m.out.below l;have o:=n.out.trans (Fr.of (X:=fun k=>k=p\/k=q\/k=pc\/k=ct) l) (fun _ c=>ap c)
     obtain⟨t,y1,_,_,L⟩:=f.cells;clear t y1;go_wp2_with fail;go_ret;exact⟨rfl,f,o⟩
    ·go_enter func27,ntmps27;go_wp2_with fail;refine P.mono ?_;clear P;rintro e w1 ⟨rfl,d⟩
     have y1:=(d.cell (p:=ah pw 0) G).trans c0;go_wp2_with fail;refine(C.out w1 d).mono ?_;rintro e j ⟨rfl,m,n⟩
     clear y1;go_wp2_with fail;refine(D.out j).mono ?_;rintro e w3 ⟨rfl,l⟩
     have f:=m.out.below l;have o:=n.out.trans (Fr.of (X:=fun k=>k=p\/k=q\/k=pc\/k=ct) l) (fun _ c=>ap c)
     obtain⟨t,y1,_,_,L⟩:=f.cells;have A:=ks u w3 f.ar;rw[hb2] at A;go_wp2_with fail;refine A.mono ?_;clear A;rintro e ad ⟨rfl,E⟩
     have B:=f.below E;have Q:=o.trans (Fr.of (X:=fun k=>k=p\/k=q\/k=pc\/k=ct) E) (fun _ c=>ap c)
     obtain⟨z0,R,_,_,aT⟩:=B.cells;clear t y1;have F:=jO v ad B.ar;rw[rM] at F;go_wp2_with fail;refine F.mono ?_;clear F;rintro e a0 ⟨rfl,S⟩
     have J:=B.below S;have al:=Q.trans (Fr.of (X:=fun k=>k=p\/k=q\/k=pc\/k=ct) S) (fun _ c=>ap c)
     obtain⟨ar,ax,_,_,bg⟩:=J.cells;clear z0 R;clear ar ax;go_wp2_with fail;go_ret;exact⟨rfl,J,al⟩
   ·rw[Bool.and_true];cases ai
    ·rw[ao V];go_enter func27,ntmps27;go_wp2_with fail;refine P.mono ?_;clear P;rintro e w1 ⟨rfl,d⟩
     have y1:=(d.cell (p:=ah pw 0) G).trans c0;go_wp2_with fail;refine(C.out w1 d).mono ?_;rintro e j ⟨rfl,m,n⟩
     clear y1;go_wp2_with fail;refine(D.out j).mono ?_;rintro e w3 ⟨rfl,l⟩
     have f:=m.out.below l;have o:=n.out.trans (Fr.of (X:=fun k=>k=p\/k=q\/k=pc\/k=ct) l) (fun _ c=>ap c)
     obtain⟨t,y1,_,_,L⟩:=f.cells;clear t y1;go_wp2_with fail;go_ret;exact⟨rfl,f,o⟩
    ·rw[aq rfl];go_enter func27,ntmps27;go_wp2_with fail;refine P.mono ?_;clear P;rintro e w1 ⟨rfl,d⟩
     have y1:=(d.cell (p:=ah pw 0) G).trans c0;go_wp2_with fail;refine(C.out w1 d).mono ?_;rintro e j ⟨rfl,m,n⟩
     clear y1;go_wp2_with fail;refine(D.out j).mono ?_;rintro e w3 ⟨rfl,l⟩
     have f:=m.out.below l;have o:=n.out.trans (Fr.of (X:=fun k=>k=p\/k=q\/k=pc\/k=ct) l) (fun _ c=>ap c)
     obtain⟨t,y1,_,_,L⟩:=f.cells;have A:=ks u w3 f.ar;rw[hb2] at A;go_wp2_with fail;refine A.mono ?_;clear A;rintro e ad ⟨rfl,E⟩
     have B:=f.below E;have Q:=o.trans (Fr.of (X:=fun k=>k=p\/k=q\/k=pc\/k=ct) E) (fun _ c=>ap c)
     obtain⟨z0,R,_,_,aT⟩:=B.cells;clear t y1;have F:=jO v ad B.ar;rw[rM] at F;go_wp2_with fail;refine F.mono ?_;clear F;rintro e a0 ⟨rfl,S⟩
     have J:=B.below S;have al:=Q.trans (Fr.of (X:=fun k=>k=p\/k=q\/k=pc\/k=ct) S) (fun _ c=>ap c)
     obtain⟨ar,ax,_,_,bg⟩:=J.cells;clear z0 R;go_wp2_with fail;refine(wT v a0 J.cd I I I hM).mono ?_;rintro e br ⟨rfl,bi,s6⟩
     have bl:=J.cards bi s6;have bn:=al.trans (bd s6) (fun _ c=>ap c)
     clear ar ax;go_wp2_with fail;go_ret;exact⟨rfl,bl,bn⟩
 ·have U:fi N y g ws x i z=ws:=by unfold fi;rw[ao h0]
  have W:stM N y g ws x i z c M=M:=by unfold stM ky;rw[aZ h0];rfl
  rw[ao h0,ao h0] at P;rw[U,W];generalize dH N y g ws x i=cd at P h0⊢;go_enter func27,ntmps27;go_wp2_with fail;refine P.mono ?_;clear P;rintro e w1 ⟨rfl,d⟩
  have Y:=H.out.below d;clear c0 c1;go_wp2_with fail;go_ret;exact⟨rfl,Y,Fr.of d⟩
end
open Go.RowKit W Kp bY
def gy (q:List bN)(g:Int):List Int:=(q.filter (fun e=>e.1==g)).map (·.2)
theorem bc {α:Type _}{β:Type _}{f:α -> β}{l₁ l₂:List α}:List.map f (l₁ ++ l₂) = List.map f l₁ ++ List.map f l₂:=List.map_append ..
theorem wY (q:List bN)(g:Int)(j:Nat)(h:j<q.length)(e:(q.getD j (0,0)).1=g):gy (q.take (j+1)) g=gy (q.take j) g++[(q.getD j (0,0)).2]:=by unfold gy;rw[eY q j h (0,0),List.filter_append,bc,List.filter_cons,e];simp
theorem wZ (q:List bN)(g:Int)(j:Nat)(h:j<q.length)(e:¬(q.getD j (0,0)).1=g):gy (q.take (j+1)) g=gy (q.take j) g:=by unfold gy;rw[eY q j h (0,0),List.filter_append,bc,List.filter_cons];rw[ao (by simpa using e)];simp
theorem aY {α:Type _}(p:α -> Bool)(l:List α):(List.filter p l).length <= l.length:=List.length_filter_le ..
theorem rN (q:List bN)(g:Int):(gy q g).length<=q.length:=by unfold gy;rw[aE];exact aY _ _
theorem w2 (w:World)(p:Nat)(v0:Value)(a1:Option Addr)(k1:Nat)(q:List bN)(g:Int)(h:w.heap[p]?=some (.cells #[v0,.slice a1 q.length k1] 128 (0,0)))(hp:cS w a1 q)(hm:q.length<=90000):
 Calls prog 190 #[af p,ae g] w fun e w'=>∃B C,e=.returned (.slice B (gy q g).length C)/\w'.ownsRow w.heap.size 2 1 (.slice B (gy q g).length C) (gy q g).length ((gy q g).map (Value.int .i64))/\Below w.heap.size w w':=by
 obtain⟨G,hi,H,J,K⟩:=info_parts qW;have c1:w.cell? (ah p 1)=some (.slice a1 q.length k1):=by simp[World.cell?,h]
 have L:Hid (cS w a1 q):=hp;clear h hp;go_enter func190,ntmps190;go_wp2_with fail
 go_loopw [5,13] (fun tv iv wr=>∃(j:Nat)(T:List Int)(b:Option Addr)(c:Nat),j<=q.length/\iv=ae j/\Hid (T=gy (q.take j) g)/\tv=.slice b T.length c/\wr.ownsRow w.heap.size 2 1 (.slice b T.length c) T.length (T.map (Value.int .i64))/\Below w.heap.size w wr) (fun _ iv _=>q.length-(intOf iv).toNat)
 case atStart=>exact⟨0,[],none,0,aA _,rfl,rfl,rfl,aO _ _ _ _,Below.refl _ _⟩
 case round=>
  obtain⟨j,T,b,c,f,rfl,i,rfl,d,a⟩:=hrel;have S:T.length<=90000:=by
   have:=rN (q.take j) g;rw[i.out];simp at this
   omega
  by_cases s:j<q.length
  ·obtain⟨b0,U,M,W,hc⟩:=L.out.below a I;obtain⟨t,v⟩:=hc j s;clear hc;subst M;have hs:=a.size;by_cases l:(q.getD j (0,0)).1=g
   ·have n:Hid (T++[(q.getD j (0,0)).2]=gy (q.take (j+1)) g):=by show _=_;rw[wY q g j s l,i.out]
    rw[l] at t;generalize (q.getD j (0,0)).2=z at v n;clear l;have o:=fC d (.cells #[ae g,ae z] 83)
    have m:=a.alloc hs (.cells #[ae g,ae z] 83)
    go_wp2_with (at_builtin;refine wpList_append_own_at _ rfl _ _ 53 rfl w.heap.size 2 G (ae 0) 1 8 Tryz.underlying53 hi H J K rfl Z (.slice b T.length c) T.length (T.map (Value.int .i64)) rfl (fC o _) ⟨wr.heap.size+1,0,none⟩ 1 1 [ae z] rfl rfl ?_ ?_ ?_ ?_ ?_ ?_;(intro j u f;match j,f with|0,f=>(simp at f;subst f;simp[Addr.add]));(intro u D;simp at D;subst D;rfl);(unfold maxLen;omega);omega;(simp;omega);intro X N A E _ O;obtain⟨b4,F,P⟩:=dP A (Nat.succ_pos _);subst P)
    have Q:N.ownsRow w.heap.size 2 1 (.slice (ag b4) (T++[z]).length F) (T++[z]).length ((T++[z]).map (Value.int .i64)):=by simpa using A
    have R:=(m.alloc m.size _).grown E (by simp;omega) (fun k e=>(bR d k e.symm).1)
    clear A E O d o a m t v;go_wp2_with fail;go_roundw
    case rel=>exact⟨j+1,T++[z],ag b4,F,I,ac,n,V,Q,R⟩
    case measure=>simp[intOf];omega
   ·have n:Hid (T=gy (q.take (j+1)) g):=by show _=_;rw[wZ q g j s l,i.out]
    generalize (q.getD j (0,0)).1=x at t l;generalize (q.getD j (0,0)).2=z at v;have o:=fC d (.cells #[.int .i64 x,.int .i64 z] 83)
    have m:=a.alloc hs (.cells #[ae x,ae z] 83)
    clear d a;go_wp2_with fail;go_roundw
    case rel=>exact⟨j+1,T,b,c,I,ac,n,rfl,o,m⟩
    case measure=>simp[intOf];omega
  ·obtain rfl:j=q.length:=I;rw[aP] at i;go_wp2_with fail;go_ret;rw[<-i.out];exact⟨b,c,rfl,d,a⟩
structure Kf (B:Nat)(w w':World):Prop where
 os:w'.os=w.os
 tape:w'.tape=w.tape
 output:w'.output=w.output
 size:w.heap.size<=w'.heap.size
 low:∀k:Nat,k<w.heap.size->k<B->w'.heap[k]?=w.heap[k]?
 eP:∀(k:Nat) cs e m,w.heap[k]?=some (Obj.cells cs e m)->e≠110->e≠87->w'.heap[k]?=w.heap[k]?
section
variable {B:Nat}{w w' w'':World}
theorem Kf.refl (B:Nat)(w:World):Kf B w w:=⟨rfl,rfl,rfl,ak _,fun _ _ _=>rfl,fun _ _ _ _ _ _ _=>rfl⟩
theorem Kf.trans (h:Kf B w w')(k:Kf B w' w''):Kf B w w'':=
 ⟨k.os.trans h.os,k.tape.trans h.tape,k.output.trans h.output,az h.size k.size,fun i hi d=>(k.low i (av hi h.size) d).trans (h.low i hi d),fun i a e m hi b c=>(k.eP i a e m ((h.eP i a e m hi b c).trans hi) b c).trans (h.eP i a e m hi b c)⟩
theorem Kf.of (h:Below w.heap.size w w'):Kf B w w':=⟨h.os,h.tape,h.output,h.size,fun k hk _=>h.block k hk,fun k _ _ _ hi _ _=>h.block k (lt_of_some hi)⟩
theorem Kf.below (h:Kf B w w')(hB:B<=w.heap.size):Below B w w':=⟨h.os,h.tape,h.output,h.size,fun k hk=>h.low k I hk⟩
theorem Kf.set {pk o:Nat}{a:Array Value}{m:Nat×Nat}{e:TypeId}{v:Value}(hp:w.heap[pk]?=some (.cells a e m))(he:e=110\/e=87)(hB:B<=pk):Kf B w (w.setCell ⟨pk,o,none⟩ v):=
 ⟨rfl,rfl,rfl,by simp[World.setCell],fun k _ hk=>Below.heap_setCell _ _ _ _ (fun c=>by have c:k=pk:=c;omega),fun k f g i hk b d=>Below.heap_setCell _ _ _ _ (fun c=>by
  have c:k=pk:=c;rw[c,hp] at hk;simp at hk;rcases he with he|he
  ·exact b (hk.2.1.symm.trans he)
  ·exact d (hk.2.1.symm.trans he))⟩
theorem Kf.grown {row:Option Nat}(g:w.grownBy w' row)(b:∀k,row=some k->B<=k/\∀a e m,w.heap[k]?=some (.cells a e m)->e=110\/e=87):Kf B w w':=
 ⟨g.os,g.tape,g.output,g.size,fun k hk i=>g.block k hk (fun e=>by have:=(b k e.symm).1;omega),fun k a e m hk d f=>g.block k (lt_of_some hk) (fun c=>((b k c.symm).2 a e m hk).elim d f)⟩
theorem fE.kf {c:Option Addr}{l:List (Int×Int)}(h:fE w c l)(k:Kf B w w'):fE w' c l:=by
 have hk:0<l.length->∀b,c=some b->w'.heap[b.block]?=w.heap[b.block]?:=fun hp b e=>by obtain⟨b0,f,g,a,d⟩:=h.2 hp;rw[a] at e;cases e;exact k.eP _ _ _ _ d Z Z
 refine⟨h.1.keep k.size hk,fun hp=>?_⟩
 obtain⟨b0,f,g,a,d⟩:=h.2 hp;exact⟨b0,f,g,a,(hk hp _ a).trans d⟩
end
structure jT (w:World)(pw p q N O y g:Nat)(ws:List Int)(sd:Nat)(v0:Value)(a1:Option Addr)(k1:Nat)(Q:List bN):Prop where
 c0:w.cell? (ah pw 0)=some (af p)
 c2:w.cell? (ah pw 2)=some (af sd)
 ar:At w p q N O y g ws
 hs:w.heap[sd]?=some (.cells #[v0,.slice a1 Q.length k1] 128 (0,0))
 hp:cS w a1 Q
 hm:Q.length<=90000
theorem jT.low {w0 w:World}{pw p q N O y g:Nat}{ws:List Int}{sd:Nat}{v0:Value}{a1:Option Addr}{k1:Nat}{Q:List bN}(h:jT w0 pw p q N O y g ws sd v0 a1 k1 Q)(b:Below w0.heap.size w0 w):jT w pw p q N O y g ws sd v0 a1 k1 Q:=
 ⟨(
  b.cell (p:=ah pw 0) (au w0 _ h.c0)).trans h.c0,(b.cell (p:=ah pw 2) (au w0 _ h.c2)).trans h.c2,h.ar.below b bJ,(b.block sd (lt_of_some h.hs)).trans h.hs,
  h.hp.keep b.size (fun hp a e=>by obtain⟨b0,f,c,d,_⟩:=h.hp hp;rw[c] at e;cases e;exact b.block _ d),h.hm⟩
def nb (ms:List Int)(a:Int):Int:=if ms.contains a=true then(ms.idxOf a:Int) else-1
theorem w4 {ms:List Int}{a:Int}(d:a∉ms)(b:Int):nb (ms++[a]) b=if b=a then(ms.length:Int) else nb ms b:=by
 unfold nb;by_cases e:b=a
 ·subst e;rw[aq rfl,aq V,List.idxOf_append,ao d];simp
 ·rw[ao e];by_cases c:b∈ms
  ·rw[aq (by simp[c]),aq (by simpa using c),List.idxOf_append,aq c]
  ·rw[ao (by simp[c,e]),ao (by simpa using c)]
theorem w5 {ms:List Int}{a:Int}(b:a∉ms):nb ms a=-1:=by unfold nb;rw[ao (by simpa using b)]
theorem w6 {ms:List Int}{a:Int}(h:a∈ms):nb ms a=(ms.idxOf a:Int):=by unfold nb;rw[aq (by simpa using h)]
theorem gz:Maps.Keyed prog 3:=Maps.int_keyed Tryz.underlying3
theorem jm (w:World):(zeroValue 3).run prog w=.ok (ae 0) w:=ab
def Nm (w:World)(bW:Nat)(T ms:List Int):Prop:=
 ∃D:DataW Unit,w.ownsMap prog 3 (plainElem prog 3) bW T.length D/\(∀a:Int,Maps.has D (.int .i64 a)=T.contains a)/\∀a∈T,D.atKey (.int .i64 a) (.lit (.int .i64 0))=.lit (.int .i64 (nb ms a))
theorem Nm.same {w w':World}{bW:Nat}{T ms:List Int}(h:Nm w bW T ms)(e:w'.heap[bW]?=w.heap[bW]?):Nm w' bW T ms:=by obtain⟨D,a,b,c⟩:=h;exact⟨D,o6 a e,b,c⟩
structure Wk (w0 w:World)(pk bW pw:Nat)(T:List Int)(s:ck)(vn:Value)(m:List da):Prop where
 blk:w.heap[pk]?=some (.cells #[af pw,.map (some bW),vn] 110 (0,0))
 lo:w0.heap.size<=pk/\w0.heap.size<=bW
 mp:Nm w bW T s.1
 row:w.ownsRow w0.heap.size 87 2 vn m.length (nv m)
 nd:gt m=s.2
 fl:∀x∈m,fE w x.2.1 x.2.2.2
 df:Below w0.heap.size w0 w
section
variable {w0 w w':World}{pk bW pw:Nat}{T:List Int}{s:ck}{vn:Value}{m:List da}
theorem Wk.below (h:Wk w0 w pk bW pw T s vn m)(a:Below w.heap.size w w'):Wk w0 w' pk bW pw T s vn m:=by obtain⟨D,o1,c,d⟩:=h.mp;exact⟨(a.block pk (lt_of_some h.blk)).trans h.blk,h.lo,h.mp.same (a.block bW o1.lt),ca h.row (fun k hk=>a.block k (bR h.row k hk).2),h.nd,fun x b=>(h.fl x b).kf (Kf.of (B:=0) a),h.df.trans (a.mono h.df.size)⟩
theorem Wk.cells (h:Wk w0 w pk bW pw T s vn m):w.cell? (ah pk 0)=some (af pw)/\w.cell? (ah pk 1)=some (.map (some bW))/\w.cell? (ah pk 2)=some vn/\pk<w.heap.size:=
 ⟨by simp[World.cell?,h.blk],by simp[World.cell?,h.blk],by simp[World.cell?,h.blk],lt_of_some h.blk⟩
theorem Wk.len (h:Wk w0 w pk bW pw T s vn m):m.length=s.2.length:=by rw[<-h.nd];simp[gt]
end
def dj (N y g:Nat)(ws:List Int)(Q:List bN)(a:Int):List Int:=
 if pk (ld N y g ws a)=5 then gy Q (ew 3 a) else(List.range (ge N y g a (pf (ld N y g ws a))).toNat).map (fun i:Nat=>ld N y g ws (a+1+(i:Int)))
theorem rO (N y g:Nat)(ws:List Int)(Q:List bN)(a:Int):(dj N y g ws Q a).length<=Q.length+12:=by
 unfold dj;split
 ·have:=rN Q (ew 3 a)
  omega
 ·have b:ge N y g a (pf (ld N y g ws a))<=12:=by unfold ge;exact Int.le_trans (Int.min_le_left _ _) (cU _).2
  simp;omega
section
variable {w:World}{pw p q N O y g:Nat}{ws:List Int}{sd:Nat}{v0:Value}{a1:Option Addr}{k1:Nat}{Q:List bN}
theorem w7 (h:jT w pw p q N O y g ws sd v0 a1 k1 Q)(d:Nat)(hk:w.cell? (ah d 0)=some (af pw))(a:Int)(l0:0<=a)(l1:a<=100000):
 Calls prog 189 #[af d,ae a,ae (pk (ld N y g ws a)),ae (pf (ld N y g ws a))] w fun e w'=>∃v A,e=.returned (.slice v (dj N y g ws Q a).length A)/\w'.ownsRow w.heap.size 2 1 (.slice v (dj N y g ws Q a).length A) (dj N y g ws Q a).length ((dj N y g ws Q a).map (Value.int .i64))/\Below w.heap.size w w':=by
 obtain⟨ai,hi,al,ar,ax⟩:=info_parts qW;have H:Hid (jT w pw p q N O y g ws sd v0 a1 k1 Q):=h;have c0:=h.c0;have c2:=h.c2;have G:=au w _ c0;have J:=au w _ hk;clear h;by_cases l:pk (ld N y g ws a)=5
 ·have m:dj N y g ws Q a=gy Q (ew 3 a):=by unfold dj;rw[aq l]
  rw[m,l];clear m l;generalize pf (ld N y g ws a)=f;have hd:=(Below.refl w.heap.size w).drew;go_enter func189,ntmps189;go_wp2_with fail
  go_region_held3 (fun w'=>w'.cell? (ah d 0)=some (af pw)/\w'.cell? (ah pw 2)=some (af sd)) (first|exact⟨hk,c2⟩|exact⟨u0,R⟩|exact⟨aB,aF⟩|go_keep)
   (first
     |(have bp:=c;go_at_call 190;refine(w2 _ sd v0 a1 k1 Q (ew 3 a) (H.out.low c).hs (H.out.low c).hp (H.out.low c).hm).mono ?_;rintro e br ⟨v,A,rfl,S,B⟩;have bs:=B.size;have aB:=(B.cell (p:=ah d 0) (av J C)).trans u0;have aF:=(B.cell (p:=ah pw 2) (av G C)).trans R)
     |(go_at_call 25;refine(m8 a _).mono ?_;rintro e w3 ⟨rfl,aR⟩;have c:Below w.heap.size w w3:=hd.trans aR;have C:=c.size;have u0:=(c.cell (p:=ah d 0) J).trans hk;have R:=(c.cell (p:=ah pw 2) G).trans c2))
  go_wp2_with fail;go_ret;exact⟨v,A,rfl,d5 S (fun k e=>az C (bR S k e).1),c.trans (B.mono C)⟩
 ·have m:dj N y g ws Q a=(List.range (ge N y g a (pf (ld N y g ws a))).toNat).map (fun i:Nat=>ld N y g ws (a+1+(i:Int))):=by unfold dj;rw[ao l]
  rw[m];have aT:ge N y g a (pf (ld N y g ws a))<=12:=by unfold ge;exact Int.le_trans (Int.min_le_left _ _) (cU _).2
  have D:=rF a (pf (ld N y g ws a)) w c0 H.out.ar l0 l1;clear m;generalize ge N y g a (pf (ld N y g ws a))=st at D aT⊢;generalize pf (ld N y g ws a)=f at D⊢;generalize pk (ld N y g ws a)=kd at l⊢;have aV:Hid (∀w1 x,Below w.heap.size w w1->Calls prog 73 #[af p,ae x] w1 fun e w'=>e=.returned (ae (ld N y g ws x))/\Below w1.heap.size w1 w'):=fun w1 x b=>h8 x w1 (H.out.low b).ar;clear H;simp only [List.length_map,List.length_range];go_enter func189,ntmps189;go_wp2_with fail;refine D.mono ?_;clear D;rintro e w1 ⟨rfl,U⟩
  go_wp2_with fail
  go_loopw [9,30] (fun tv iv wr=>∃(j:Nat)(n:Option Addr)(o:Nat),j<=st.toNat/\iv=ae j/\tv=.slice n j o/\wr.ownsRow w.heap.size 2 1 (.slice n j o) j (((List.range j).map (fun i:Nat=>ld N y g ws (a+1+(i:Int)))).map (Value.int .i64))/\Below w.heap.size w wr) (fun _ iv _=>st.toNat-(intOf iv).toNat)
  case atStart=>exact⟨0,none,0,aA _,rfl,rfl,aO _ _ _ _,U⟩
  case round=>
   obtain⟨j,n,o,s,rfl,rfl,t,b⟩:=hrel;clear U;by_cases bx:j<st.toNat
   ·have a0:=(b.cell (p:=ah d 0) J).trans hk;have a2:=(b.cell (p:=ah pw 0) G).trans c0;have a3:(j:Int)<st:=I;have bb:=b.size;go_wp2_with fail;refine(aV.out wr (a+1+(j:Int)) b).mono ?_;rintro e bd ⟨rfl,K⟩
    have E:=ca t (fun k e=>K.block k (bR t k e).2)
    have M:=b.trans (K.mono bb)
    have be:=M.size;have W:(((List.range (j+1)).map (fun i:Nat=>ld N y g ws (a+1+(i:Int)))).map (Value.int .i64))=(((List.range j).map (fun i:Nat=>ld N y g ws (a+1+(i:Int)))).map (Value.int .i64))++[ae (ld N y g ws (a+1+(j:Int)))]:=by simp[List.range_succ]
    have F:Hid (_=_):=W;clear W t b K a0 a2;generalize ld N y g ws (a+1+(j:Int))=z at F⊢;generalize ((List.range j).map (fun i:Nat=>ld N y g ws (a+1+(i:Int)))).map (Value.int .i64)=L at E F;go_wp2_with (at_builtin;refine wpList_append_own_at _ rfl _ _ 53 rfl w.heap.size 2 ai (ae 0) 1 8 Tryz.underlying53 hi al ar ax rfl Z (.slice n j o) j L rfl (fC E _) ⟨bd.heap.size,0,none⟩ 1 1 [ae z] rfl rfl ?_ ?_ ?_ ?_ ?_ ?_;(intro j u s;match j,s with|0,s=>(simp at s;subst s;simp[Addr.add]));(intro u X;simp at X;subst X;rfl);(unfold maxLen;omega);omega;(simp;omega);intro bL bg P Y _ bi;obtain⟨b4,ad,bl⟩:=dP P (Nat.succ_pos _);subst bl)
    have bn:bg.ownsRow w.heap.size 2 1 (.slice (ag b4) (j+1) ad) (j+1) (((List.range (j+1)).map (fun i:Nat=>ld N y g ws (a+1+(i:Int)))).map (Value.int .i64)):=by rw[F.out];exact P
    have bo:=(M.alloc be _).grown Y (by simp;omega) (fun k e=>(bR E k e.symm).1)
    clear P Y bi E M F;go_wp2_with fail;go_roundw
    case rel=>exact⟨j+1,ag b4,ad,I,ac,rfl,bn,bo⟩
    case measure=>simp[intOf];omega
   ·obtain rfl:j=st.toNat:=I;have a3:¬((st.toNat:Nat):Int)<st:=I;go_wp2_with fail;go_ret;exact⟨n,o,rfl,by rw[List.map_map] at t;exact t,b⟩
end
end Go.Proofs.YtjpjpjemibgjpaaGreat
