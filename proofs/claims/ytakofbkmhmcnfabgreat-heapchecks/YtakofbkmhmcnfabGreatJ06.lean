/- Joined: Cd, Cd1, Wo4, Opens, Apart2, Wl2. -/
import Derived.Test.YtakofbkmhmcnfabGreatJ01
import Derived.Maps.OwnSet
import Derived.Test.YtakofbkmhmcnfabGreatJ05
import Derived.Test.YtakofbkmhmcnfabGreatJ03
import Derived.Deep.Slices
import Derived.Lib.SmallJoins
/- Cards in memory: a struct of its own block, the numbers of those that are marked a map in another; lemmas on both. -/
namespace Go.Proofs.YtakofbkmhmcnfabGreat
open Go.RowKit W

/-- A number goes to the end of a list, if it is not yet there. -/
def addM (M : List Int) (k : Int) : List Int := if M.contains k then M else M ++ [k]
theorem has_addM (M : List Int) (k j : Int) : (addM M k).contains j = (M.contains j || j == k) := by
  unfold addM
  by_cases c : M.contains k = true
  · rw [if_pos c]
    by_cases e : j = k
    · subst e; rw [c]; rfl
    · simp [e]
  · rw [if_neg c]
    by_cases e : j = k <;> simp [e]
theorem len_addM (M : List Int) (k : Int) : (addM M k).length ≤ M.length + 1 := by
  unfold addM; split <;> simp

theorem lawU : Maps.Keyed Tryz.prog 119 := Maps.int_keyed Tryz.underlying119
theorem zeroU (w : World) : (zeroValue 141).run Tryz.prog w = .ok (.agg #[]) w := by kernel_rfl

/-- Cards: their struct is the block p, their marks the block q; from the place B on there are c; those numbered M are marked. -/
structure Cd (w : World) (p q : Nat) (B c : Int) (M : List Int) : Prop where
  hp : w.heap[p]? = some (.cells #[.int .i64 B, .int .u64 c, .map (some q)] 122 (0, 0))
  hq : ∃ D : DataW Unit, w.ownsMap Tryz.prog 119 unitElem q M.length D ∧ (∀ k : Int, Maps.has D (.int .u64 k) = M.contains k) ∧ Maps.size D = M.length

theorem own_same {H : Type} {P : Program} {k : TypeId} {R : Value → Option (DataW H × List MemPlace)} {w w' : World} {b n : Nat} {D : DataW H} (h : w.ownsMap P k R b n D) (e : w'.heap[b]? = w.heap[b]?) : w'.ownsMap P k R b n D := by
  obtain ⟨es, clock, hb, r⟩ := h
  exact ⟨es, clock, e.trans hb, r⟩
theorem own_tight {H : Type} {P : Program} {k : TypeId} {R : Value → Option (DataW H × List MemPlace)} {w : World} {b n m : Nat} {D : DataW H} (h : w.ownsMap P k R b n D) (e : Maps.size D = m) : w.ownsMap P k R b m D := by
  obtain ⟨es, clock, hb, F, hs, rfl⟩ := h
  exact ⟨es, clock, hb, F, by rw [← e]; simp [Maps.size, length_sorted], rfl⟩

theorem Cd.ltp {w : World} {p q : Nat} {B c : Int} {M : List Int} (h : Cd w p q B c M) : p < w.heap.size := lt_of_some h.hp
theorem Cd.ltq {w : World} {p q : Nat} {B c : Int} {M : List Int} (h : Cd w p q B c M) : q < w.heap.size := by
  obtain ⟨D, h1, _⟩ := h.hq
  exact h1.lt
theorem Cd.ne {w : World} {p q : Nat} {B c : Int} {M : List Int} (h : Cd w p q B c M) : p ≠ q := by
  intro e
  obtain ⟨D, ⟨es, clock, hb, _⟩, _⟩ := h.hq
  have h1 := h.hp
  rw [e, hb] at h1
  simp at h1
theorem Cd.same {w w' : World} {p q : Nat} {B c : Int} {M : List Int} (h : Cd w p q B c M) (ep : w'.heap[p]? = w.heap[p]?) (eq : w'.heap[q]? = w.heap[q]?) : Cd w' p q B c M := by
  obtain ⟨D, h1, h2⟩ := h.hq
  exact ⟨ep.trans h.hp, D, own_same h1 eq, h2⟩
theorem Cd.below {w w' : World} {p q X : Nat} {B c : Int} {M : List Int} (h : Cd w p q B c M) (hb : Below X w w') (hX : w.heap.size ≤ X) : Cd w' p q B c M :=
  h.same (hb.block p (Nat.lt_of_lt_of_le h.ltp hX)) (hb.block q (Nat.lt_of_lt_of_le h.ltq hX))
theorem Cd.alloc {w : World} {p q : Nat} {B c : Int} {M : List Int} (h : Cd w p q B c M) (o : Obj) : Cd (w.alloc o) p q B c M :=
  h.same (Below.heap_alloc _ _ _ h.ltp) (Below.heap_alloc _ _ _ h.ltq)
theorem Cd.drew {w : World} {p q : Nat} {B c : Int} {M : List Int} (h : Cd w p q B c M) : Cd w.drew p q B c M := h.same rfl rfl
theorem Cd.cells {w : World} {p q : Nat} {B c : Int} {M : List Int} (h : Cd w p q B c M) :
    w.cell? ⟨p, 0, none⟩ = some (.int .i64 B) ∧ w.cell? ⟨p, 1, none⟩ = some (.int .u64 c) ∧ w.cell? ⟨p, 2, none⟩ = some (.map (some q)) := by
  have hp := h.hp
  refine ⟨?_, ?_, ?_⟩ <;> simp [World.cell?, hp]
theorem Cd.frozen {w : World} {p q : Nat} {B c : Int} {M : List Int} (h : Cd w p q B c M) (o : Nat) : w.frozen? ⟨p, o, none⟩ = false := by
  have hp := h.hp
  simp [World.frozen?, hp]

/-- A card is marked: behind the store the map reads so. -/
theorem Cd.put {w w' : World} {p q : Nat} {B c k : Int} {M : List Int} {D : DataW Unit} {n : Nat} (h : w.heap[p]? = some (.cells #[.int .i64 B, .int .u64 c, .map (some q)] 122 (0, 0)))
    (h0 : w.ownsMap Tryz.prog 119 unitElem q M.length D) (h1 : ∀ k : Int, Maps.has D (.int .u64 k) = M.contains k) (h2 : Maps.size D = M.length) (hne : p ≠ q)
    (h3 : w'.ownsMap Tryz.prog 119 unitElem q n (D.put (.int .u64 k) (.agg []))) (h4 : w.grownBy w' (some q)) : Cd w' p q B c (addM M k) ∧ Sv p q w w' := by
  have hs : Maps.size (D.put (.int .u64 k) (.agg [])) = (addM M k).length := by
    rw [Maps.size_put (h0.tidy lawU), h1, h2]
    unfold addM
    split <;> simp
  refine ⟨⟨(h4.block p (lt_of_some h) (fun e => hne (by cases e; rfl))).trans h, _, own_tight h3 hs, fun j => ?_, hs⟩, ⟨h4.os, h4.tape, h4.output, h4.size, fun i hi _ e => h4.block i hi (fun e' => e (by cases e'; rfl))⟩⟩
  rw [has_addM]
  by_cases e : j = k
  · subst e
    rw [Maps.has_put_same (k := .int .u64 j) h0.isMap trivial]
    simp
  · rw [Maps.has_put_other (by simpa using e), h1]
    simp [e]
/-- None is marked. -/
theorem Cd.none {w : World} {p q : Nat} {B c : Int} (h : w.heap[p]? = some (.cells #[.int .i64 B, .int .u64 c, .map (some q)] 122 (0, 0))) (h1 : w.ownsMap Tryz.prog 119 unitElem q 0 (.map [] : DataW Unit)) : Cd w p q B c [] :=
  ⟨h, _, h1, fun _ => rfl, rfl⟩

end Go.Proofs.YtakofbkmhmcnfabGreat

/- What the functions of package cards do: contracts, over the seat's own translation; no block but the cards' turns. -/
namespace Go.Proofs.YtakofbkmhmcnfabGreat
open Go.RowKit W

/-- How many cards so many words begin. -/
def nC (x : Int) : Int := if x < 0 then 0 else (x + 8 - 1) / 8
/-- The number of a place's card. -/
def cN (B a : Int) : Int := if a < B then 0 else (a - B) / 8
/-- Has a place a card? -/
def cB (B c a : Int) : Bool := decide (B ≤ a) && decide ((a - B) / 8 < c)

set_option maxRecDepth 100000 in
set_option maxHeartbeats 400000 in
theorem begunC_any (x : Int) (w : World) (h : x ≤ 100000) : Calls Tryz.prog 168 #[.int .i64 x] w fun e w' => e = .returned (.int .u64 (nC x)) ∧ w' = w := by
  by_cases c : x < 0
  · have e : nC x = 0 := by unfold nC; rw [if_pos c]
    rw [e]
    go_enter Tryz.func168, Tryz.ntmps168
    go_wp2_with fail
    go_ret
    exact ⟨rfl, rfl⟩
  · have e : nC x = (x + 8 - 1) / 8 := by unfold nC; rw [if_neg c]
    rw [e]
    go_enter Tryz.func168, Tryz.ntmps168
    go_wp2_with fail
    go_ret
    exact ⟨rfl, rfl⟩

set_option maxRecDepth 100000 in
set_option maxHeartbeats 400000 in
theorem card_any {p q : Nat} {B c : Int} {M : List Int} (a : Int) (w : World) (h : Cd w p q B c M) (hB : 0 ≤ B) (hB' : B ≤ 100000) (ha : a ≤ 9223372036854775807) :
    Calls Tryz.prog 83 #[.pointer (some ⟨p, 0, none⟩), .int .i64 a] w fun e w' => e = .returned (.tuple #[.int .u64 (cN B a), .bool (cB B c a)]) ∧ Below w.heap.size w w' := by
  obtain ⟨c0, c1, c2⟩ := h.cells
  by_cases hc : a < B
  · have e : cB B c a = false := by unfold cB; rw [decide_eq_false (by omega)]; rfl
    have e2 : cN B a = 0 := by unfold cN; rw [if_pos hc]
    rw [e, e2]
    go_enter Tryz.func83, Tryz.ntmps83
    go_wp2_with fail
    go_ret2
    exact ⟨rfl, Below.refl _ _⟩
  · have e : cB B c a = decide ((a - B) / 8 < c) := by unfold cB; rw [decide_eq_true (by omega)]; rfl
    have e2 : cN B a = (a - B) / 8 := by unfold cN; rw [if_neg hc]
    rw [e, e2]
    go_enter Tryz.func83, Tryz.ntmps83
    go_wp2_with fail
    go_quiet (fail)
    go_wp2_with fail
    go_ret2
    exact ⟨rfl, below_drewN (Below.refl _ _) _⟩

/-- What is marked behind a mark. -/
def mkM (B c a : Int) (M : List Int) : List Int := if cB B c a then addM M (cN B a) else M
theorem mkM_yes {B c a : Int} {M : List Int} (h : cB B c a = true) : mkM B c a M = addM M (cN B a) := by unfold mkM; rw [if_pos h]
theorem mkM_no {B c a : Int} {M : List Int} (h : cB B c a = false) : mkM B c a M = M := by unfold mkM; rw [if_neg (by rw [h]; simp)]

theorem cN_fits {B a : Int} (hB : 0 ≤ B) (ha : a ≤ 9223372036854775807) : (Lit.int .u64 (cN B a)).wf = true := by
  unfold cN
  split
  · decide
  · have h1 : 0 ≤ (a - B) / 8 := by omega
    exact WalkArith.wf_u64 ⟨h1, by omega⟩

set_option maxRecDepth 100000 in
set_option maxHeartbeats 400000 in
theorem mark_any {p q : Nat} {B c : Int} {M : List Int} (a : Int) (w : World) (h : Cd w p q B c M) (hB : 0 ≤ B) (hB' : B ≤ 100000) (ha : a ≤ 9223372036854775807) (hM : M.length ≤ 100000) :
    Calls Tryz.prog 111 #[.pointer (some ⟨p, 0, none⟩), .int .i64 a] w fun e w' => e = .returned (.bool (cB B c a)) ∧ Cd w' p q B c (mkM B c a M) ∧ Sv p q w w' := by
  have hk := Maps.keyOf_int_mk (P := Tryz.prog) Tryz.underlying119 (cN_fits (B := B) (a := a) hB ha)
  go_enter Tryz.func111, Tryz.ntmps111
  go_wp2_with fail
  refine (card_any a _ h hB hB' ha).mono ?_
  rintro e w1 ⟨rfl, hb1⟩
  have h1 := h.below hb1 (Nat.le_refl _)
  obtain ⟨c0, c1, c2⟩ := h1.cells
  obtain ⟨D, o1, o2, o3⟩ := h1.hq
  cases hc : cB B c a
  · go_wp2_with fail
    go_ret
    exact ⟨by rw [hc]; rfl, by rw [mkM_no hc]; exact h1, Sv.of hb1⟩
  · go_wp2_with (first
      | (at_mapUpdate; refine wpList_mapUpdate_own _ rfl _ _ _ 120 rfl 119 141 lawU Tryz.underlying120 (unitElem (H := Unit)) q M.length D rfl o1 (by unfold maxLen; omega) _ _ _ rfl rfl hk _ [] unitElem_mk ?_; intro w2 hown2 hgrow2)
      | go_in)
    go_ret
    obtain ⟨h2, s2⟩ := Cd.put h1.hp o1 o2 o3 h1.ne hown2 hgrow2
    exact ⟨by rw [hc]; rfl, by rw [mkM_yes hc]; exact h2, (Sv.of hb1).trans s2⟩

set_option maxRecDepth 100000 in
set_option maxHeartbeats 400000 in
theorem dirty_any {p q : Nat} {B c : Int} {M : List Int} (a : Int) (w : World) (h : Cd w p q B c M) (hB : 0 ≤ B) (hB' : B ≤ 100000) (ha : a ≤ 9223372036854775807) :
    Calls Tryz.prog 29 #[.pointer (some ⟨p, 0, none⟩), .int .i64 a] w fun e w' => e = .returned (.bool (cB B c a && M.contains (cN B a))) ∧ Below w.heap.size w w' := by
  have hk := Maps.keyOf_int_mk (P := Tryz.prog) Tryz.underlying119 (cN_fits (B := B) (a := a) hB ha)
  go_enter Tryz.func29, Tryz.ntmps29
  go_wp2_with fail
  refine (card_any a _ h hB hB' ha).mono ?_
  rintro e w1 ⟨rfl, hb1⟩
  have h1 := h.below hb1 (Nat.le_refl _)
  obtain ⟨c0, c1, c2⟩ := h1.cells
  obtain ⟨D, o1, o2, o3⟩ := h1.hq
  cases hc : cB B c a
  · go_wp2_with fail
    go_ret
    exact ⟨by rw [hc]; rfl, hb1⟩
  · go_wp2_with (first
      | (at_lookup; refine wpList_lookup_own_unit _ rfl _ _ 120 rfl 119 141 lawU Tryz.underlying120 (zeroU _) q M.length D rfl o1 _ _ rfl hk ?_)
      | go_in)
    go_ret
    exact ⟨by rw [hc]; show Ending.returned (.bool (decide (cN B a ∈ M))) = _; simp, hb1.alloc hb1.size _⟩

set_option maxRecDepth 100000 in
set_option maxHeartbeats 400000 in
theorem count_any {p q : Nat} {B c : Int} {M : List Int} (w : World) (h : Cd w p q B c M) :
    Calls Tryz.prog 18 #[.pointer (some ⟨p, 0, none⟩)] w fun e w' => e = .returned (.int .i64 M.length) ∧ w' = w := by
  obtain ⟨c0, c1, c2⟩ := h.cells
  obtain ⟨D, o1, o2, o3⟩ := h.hq
  go_enter Tryz.func18, Tryz.ntmps18
  go_wp2_with (first
      | (at_len; refine wpList_len_own _ rfl _ 120 rfl 119 141 Tryz.underlying120 _ q M.length D rfl o1 ?_)
      | go_in)
  go_ret
  exact ⟨rfl, rfl⟩

set_option maxRecDepth 100000 in
set_option maxHeartbeats 400000 in
/-- Clear, of whatever marks there are: a map of its own is the marks' from then on. -/
theorem clearC_any {p : Nat} {B c : Int} {v : Value} (w : World) (h : w.heap[p]? = some (.cells #[.int .i64 B, .int .u64 c, v] 122 (0, 0))) :
    Calls Tryz.prog 69 #[.pointer (some ⟨p, 0, none⟩)] w fun e w' => e = .returned (.tuple #[]) ∧ Cd w' p w.heap.size B c [] ∧ Sv p p w w' := by
  have hmm := @run_makeMap Tryz.prog
  have hp := lt_of_some h
  have hf : (w.alloc (.map #[] 0)).frozen? ⟨p, 2, none⟩ = false := by
    simp [World.frozen?, Below.heap_alloc _ _ _ hp, h]
  have hc : (w.alloc (.map #[] 0)).cell? ⟨p, 2, none⟩ = some v := by
    simp [World.cell?, Below.heap_alloc _ _ _ hp, h]
  go_enter Tryz.func69, Tryz.ntmps69
  go_wp2_with fail
  go_end0
  have hm := World.ownsMap_made (w.setCell ⟨p, 2, none⟩ (.map (some w.heap.size))) Tryz.prog 119 (unitElem (H := Unit))
  have hz : (w.setCell ⟨p, 2, none⟩ (.map (some w.heap.size))).heap.size = w.heap.size := by simp [World.setCell]
  rw [hz] at hm
  refine ⟨rfl, Cd.none ((Below.heap_alloc _ _ _ (by omega)).trans ?_) hm, (Sv.setp _ _).trans (Sv.of ((Below.refl _ _).alloc (Nat.le_refl _) _))⟩
  simp only [World.setCell, Array.getElem?_modify, if_true, h, Option.map_some]
  simp

set_option maxRecDepth 100000 in
set_option maxHeartbeats 400000 in
theorem newC_any (B x : Int) (w : World) (h : x ≤ 100000) :
    Calls Tryz.prog 106 #[.int .i64 B, .int .i64 x] w fun e w' => ∃ p q, e = .returned (.pointer (some ⟨p, 0, none⟩)) ∧ Cd w' p q B (nC x) [] ∧ w.heap.size ≤ p ∧ w.heap.size ≤ q ∧ Below w.heap.size w w' := by
  go_enter Tryz.func106, Tryz.ntmps106
  go_wp2_with fail
  refine (begunC_any x _ h).mono ?_
  rintro e w1 ⟨rfl, hw1⟩
  have hw1 := hw1.symm
  subst hw1
  go_wp2_with fail
  refine (clearC_any (p := w.heap.size) (B := B) (c := nC x) (v := .map none) _ (heap_alloc_new _ _)).mono ?_
  rintro e w2 ⟨rfl, h2, s2⟩
  go_wp2_with fail
  go_ret
  exact ⟨_, _, rfl, h2, Nat.le_refl _, by simp, ((Below.refl _ _).alloc (Nat.le_refl _) _).trans (s2.below (by simp) (Nat.le_refl _) (Nat.le_refl _))⟩

end Go.Proofs.YtakofbkmhmcnfabGreat

/- A wood: Set: a contract. -/
namespace Go.Proofs.YtakofbkmhmcnfabGreat
open Go.RowKit W

/-- A wood's own block, its arena, its cards. -/
structure Wod (w : World) (pw p q pc pq N O y g : Nat) (ws : List Int) (c : Int) (M : List Int) (vs vr : Value) : Prop where
  blk : w.heap[pw]? = some (.cells #[.pointer (some ⟨p, 0, none⟩), .pointer (some ⟨pc, 0, none⟩), vs, vr] 44 (0, 0))
  ar : At w p q N O y g ws
  cd : Cd w pc pq N c M

section
variable {w w' : World} {pw p q pc pq N O y g : Nat} {ws : List Int} {c : Int} {M : List Int} {vs vr : Value}

theorem Wod.cells (h : Wod w pw p q pc pq N O y g ws c M vs vr) : w.cell? ⟨pw, 0, none⟩ = some (.pointer (some ⟨p, 0, none⟩)) ∧ w.cell? ⟨pw, 1, none⟩ = some (.pointer (some ⟨pc, 0, none⟩)) ∧ w.cell? ⟨pw, 2, none⟩ = some vs ∧ w.cell? ⟨pw, 3, none⟩ = some vr ∧ pw < w.heap.size :=
  ⟨by simp [World.cell?, h.blk], by simp [World.cell?, h.blk], by simp [World.cell?, h.blk], by simp [World.cell?, h.blk], lt_of_some h.blk⟩
/-- Its blocks are apart. -/
theorem Wod.apart (h : Wod w pw p q pc pq N O y g ws c M vs vr) : pw ≠ p ∧ pw ≠ q ∧ pw ≠ pc ∧ pw ≠ pq ∧ p ≠ pc ∧ p ≠ pq ∧ q ≠ pc ∧ q ≠ pq := by
  obtain ⟨D, ⟨es, clock, hb, _⟩, _⟩ := h.cd.hq
  have h1 := h.blk
  have h2 := h.ar.hp
  have h3 := h.ar.hq
  have h4 := h.cd.hp
  refine ⟨fun e => ?_, fun e => ?_, fun e => ?_, fun e => ?_, fun e => ?_, fun e => ?_, fun e => ?_, fun e => ?_⟩
  · rw [e, h2] at h1; simp at h1
  · rw [e, h3] at h1; simp at h1
  · rw [e, h4] at h1; simp at h1
  · rw [e, hb] at h1; simp at h1
  · rw [e, h4] at h2; simp at h2
  · rw [e, hb] at h2; simp at h2
  · rw [e, h4] at h3; simp at h3
  · rw [e, hb] at h3; simp at h3
theorem Wod.below (h : Wod w pw p q pc pq N O y g ws c M vs vr) (hb : Below w.heap.size w w') : Wod w' pw p q pc pq N O y g ws c M vs vr :=
  ⟨(hb.block pw (lt_of_some h.blk)).trans h.blk, h.ar.below hb (Nat.le_refl _), h.cd.below hb (Nat.le_refl _)⟩
/-- The arena alone turns. -/
theorem Wod.arena (h : Wod w pw p q pc pq N O y g ws c M vs vr) {y' g' : Nat} {ws' : List Int} (ha : At w' p q N O y' g' ws') (s : Sv p q w w') : Wod w' pw p q pc pq N O y' g' ws' c M vs vr := by
  obtain ⟨a1, a2, a3, a4, a5, a6, a7, a8⟩ := h.apart
  exact ⟨(s.block pw (lt_of_some h.blk) a1 a2).trans h.blk, ha, h.cd.same (s.block pc h.cd.ltp (Ne.symm a5) (Ne.symm a7)) (s.block pq h.cd.ltq (Ne.symm a6) (Ne.symm a8))⟩
/-- The cards alone turn. -/
theorem Wod.cards (h : Wod w pw p q pc pq N O y g ws c M vs vr) {M' : List Int} (hc : Cd w' pc pq N c M') (s : Sv pc pq w w') : Wod w' pw p q pc pq N O y g ws c M' vs vr := by
  obtain ⟨a1, a2, a3, a4, a5, a6, a7, a8⟩ := h.apart
  exact ⟨(s.block pw (lt_of_some h.blk) a3 a4).trans h.blk, h.ar.same (s.block p h.ar.ltp a5 a6) (s.block q h.ar.ltq a7 a8), hc⟩

/-- What Set makes of the words. -/
def stW (N y g : Nat) (ws : List Int) (x i z : Int) : List Int := if fcC N y g ws x i = 0 then (if iB N y g (aV x + 1 + i) = true then ws.set (aV x + 1 + i).toNat z else ws) else ws
/-- Does Set mark a card? -/
def stB (N y g : Nat) (ws : List Int) (x i z : Int) : Bool := decide (fcC N y g ws x i = 0) && (aB z && hB 0 y (aV z) && hB N g (aV x))
/-- What Set makes of the marks. -/
def stM (N y g : Nat) (ws : List Int) (x i z c : Int) (M : List Int) : List Int := if stB N y g ws x i z = true then mkM N c (aV x) M else M

set_option maxRecDepth 100000 in
set_option maxHeartbeats 1000000 in
theorem set_any (x i z : Int) (h : Wod w pw p q pc pq N O y g ws c M vs vr) (hM : M.length ≤ 100000) :
    Calls Tryz.prog 53 #[.pointer (some ⟨pw, 0, none⟩), .int .i64 x, .int .i64 i, .int .i64 z] w fun e w' => e = .returned (.int .i64 (fcC N y g ws x i)) ∧ Wod w' pw p q pc pq N O y g (stW N y g ws x i z) c (stM N y g ws x i z c M) vs vr ∧ Fr (fun k => k = p ∨ k = q ∨ k = pc ∨ k = pq) w w' := by
  have H : Hid (Wod w pw p q pc pq N O y g ws c M vs vr) := h
  obtain ⟨c0, c1, _, _, lpw⟩ := h.cells
  have P := fieldAt_any x i w c0 h.ar
  have k1 := h.ar.hN'
  have k2 := h.ar.hy
  have k3 := h.ar.hO
  have k4 := h.ar.hg
  have frA : ∀ {a b : World}, Sv p q a b → Fr (fun k => k = p ∨ k = q ∨ k = pc ∨ k = pq) a b := fun s => ⟨s.os, s.tape, s.output, s.size, fun k hk hn => s.block k hk (fun e => hn (Or.inl e)) (fun e => hn (Or.inr (Or.inl e)))⟩
  have frC : ∀ {a b : World}, Sv pc pq a b → Fr (fun k => k = p ∨ k = q ∨ k = pc ∨ k = pq) a b := fun s => ⟨s.os, s.tape, s.output, s.size, fun k hk hn => s.block k hk (fun e => hn (Or.inr (Or.inr (Or.inl e)))) (fun e => hn (Or.inr (Or.inr (Or.inr e))))⟩
  clear h
  by_cases h0 : fcC N y g ws x i = 0
  · have ht : tB N y g ws x = true := by
      cases e : tB N y g ws x
      · unfold fcC at h0
        rw [e, if_neg (by simp)] at h0
        omega
      · rfl
    obtain ⟨b0, b1⟩ := tB_bd (O := O) ht k1 k2 k3 k4
    have eW : stW N y g ws x i z = if iB N y g (aV x + 1 + i) = true then ws.set (aV x + 1 + i).toNat z else ws := by unfold stW; rw [if_pos h0]
    have eM : stM N y g ws x i z c M = if (aB z && hB 0 y (aV z) && hB N g (aV x)) = true then mkM N c (aV x) M else M := by unfold stM stB; rw [decide_eq_true h0, Bool.true_and]
    rw [h0, if_pos rfl, if_pos rfl] at P
    rw [h0, eW, eM]
    clear eW eM h0 ht
    generalize aV x + 1 + i = fl at P ⊢
    generalize aV x = v at P b0 b1 ⊢
    have KS : Hid (∀ w1, Below w.heap.size w w1 → Calls Tryz.prog 34 #[.pointer (some ⟨p, 0, none⟩), .int .i64 fl, .int .i64 z] w1 fun e w' => e = .returned (.bool (iB N y g fl)) ∧ Hid (Wod w' pw p q pc pq N O y g (if iB N y g fl = true then ws.set fl.toNat z else ws) c M vs vr) ∧ Hid (Fr (fun k => k = p ∨ k = q ∨ k = pc ∨ k = pq) w w')) := fun w1 hb => by
      have hW := H.out.below hb
      refine (store_any fl z w1 hW.ar).mono ?_
      rintro e w2 ⟨rfl, ha2, s2⟩
      exact ⟨rfl, hW.arena ha2 s2, (Fr.of (X := fun k => k = p ∨ k = q ∨ k = pc ∨ k = pq) hb).trans (frA s2) (fun _ c => Or.inl c)⟩
    have KA : Hid (∀ w2, Calls Tryz.prog 26 #[.int .i64 z] w2 fun e w' => e = .returned (.tuple #[.int .i64 (aV z), .bool (aB z)]) ∧ Below w2.heap.size w2 w') := fun w2 => at_any z w2
    generalize (if iB N y g fl = true then ws.set fl.toNat z else ws) = ws2 at KS ⊢
    generalize iB N y g fl = ib at KS
    obtain ⟨b1', hb1'⟩ : ∃ b, aB z = b := ⟨_, rfl⟩
    rw [hb1'] at KA ⊢
    clear hb1'
    generalize aV z = u at KA ⊢
    cases hb2 : hB 0 y u
    · rw [Bool.and_false, Bool.false_and, if_neg (by simp)]
      cases b1'
      · go_enter Tryz.func53, Tryz.ntmps53
        go_wp2_with fail
        refine P.mono ?_
        clear P
        rintro e w1 ⟨rfl, hb1⟩
        have y1 := (hb1.cell (p := ⟨pw, 0, none⟩) lpw).trans c0
        go_wp2_with fail
        refine (KS.out w1 hb1).mono ?_
        rintro e w2 ⟨rfl, W2, F2⟩
        clear y1
        go_wp2_with fail
        refine (KA.out w2).mono ?_
        rintro e w3 ⟨rfl, hb3⟩
        have W3 := W2.out.below hb3
        have F3 := F2.out.trans (Fr.of (X := fun k => k = p ∨ k = q ∨ k = pc ∨ k = pq) hb3) (fun _ c => Or.inl c)
        obtain ⟨y0, y1, _, _, l3⟩ := W3.cells
        clear y0 y1
        go_wp2_with fail
        go_ret
        exact ⟨rfl, W3, F3⟩
      · go_enter Tryz.func53, Tryz.ntmps53
        go_wp2_with fail
        refine P.mono ?_
        clear P
        rintro e w1 ⟨rfl, hb1⟩
        have y1 := (hb1.cell (p := ⟨pw, 0, none⟩) lpw).trans c0
        go_wp2_with fail
        refine (KS.out w1 hb1).mono ?_
        rintro e w2 ⟨rfl, W2, F2⟩
        clear y1
        go_wp2_with fail
        refine (KA.out w2).mono ?_
        rintro e w3 ⟨rfl, hb3⟩
        have W3 := W2.out.below hb3
        have F3 := F2.out.trans (Fr.of (X := fun k => k = p ∨ k = q ∨ k = pc ∨ k = pq) hb3) (fun _ c => Or.inl c)
        obtain ⟨y0, y1, _, _, l3⟩ := W3.cells
        have KY := young_any u w3 W3.ar
        rw [hb2] at KY
        go_wp2_with fail
        refine KY.mono ?_
        clear KY
        rintro e w4 ⟨rfl, hb4⟩
        have W4 := W3.below hb4
        have F4 := F3.trans (Fr.of (X := fun k => k = p ∨ k = q ∨ k = pc ∨ k = pq) hb4) (fun _ c => Or.inl c)
        obtain ⟨z0, z1, _, _, l4⟩ := W4.cells
        clear y0 y1
        clear z0 z1
        go_wp2_with fail
        go_ret
        exact ⟨rfl, W4, F4⟩
    · rw [Bool.and_true]
      cases hb3' : hB N g v
      · rw [Bool.and_false, if_neg (by simp)]
        cases b1'
        · go_enter Tryz.func53, Tryz.ntmps53
          go_wp2_with fail
          refine P.mono ?_
          clear P
          rintro e w1 ⟨rfl, hb1⟩
          have y1 := (hb1.cell (p := ⟨pw, 0, none⟩) lpw).trans c0
          go_wp2_with fail
          refine (KS.out w1 hb1).mono ?_
          rintro e w2 ⟨rfl, W2, F2⟩
          clear y1
          go_wp2_with fail
          refine (KA.out w2).mono ?_
          rintro e w3 ⟨rfl, hb3⟩
          have W3 := W2.out.below hb3
          have F3 := F2.out.trans (Fr.of (X := fun k => k = p ∨ k = q ∨ k = pc ∨ k = pq) hb3) (fun _ c => Or.inl c)
          obtain ⟨y0, y1, _, _, l3⟩ := W3.cells
          clear y0 y1
          go_wp2_with fail
          go_ret
          exact ⟨rfl, W3, F3⟩
        · go_enter Tryz.func53, Tryz.ntmps53
          go_wp2_with fail
          refine P.mono ?_
          clear P
          rintro e w1 ⟨rfl, hb1⟩
          have y1 := (hb1.cell (p := ⟨pw, 0, none⟩) lpw).trans c0
          go_wp2_with fail
          refine (KS.out w1 hb1).mono ?_
          rintro e w2 ⟨rfl, W2, F2⟩
          clear y1
          go_wp2_with fail
          refine (KA.out w2).mono ?_
          rintro e w3 ⟨rfl, hb3⟩
          have W3 := W2.out.below hb3
          have F3 := F2.out.trans (Fr.of (X := fun k => k = p ∨ k = q ∨ k = pc ∨ k = pq) hb3) (fun _ c => Or.inl c)
          obtain ⟨y0, y1, _, _, l3⟩ := W3.cells
          have KY := young_any u w3 W3.ar
          rw [hb2] at KY
          go_wp2_with fail
          refine KY.mono ?_
          clear KY
          rintro e w4 ⟨rfl, hb4⟩
          have W4 := W3.below hb4
          have F4 := F3.trans (Fr.of (X := fun k => k = p ∨ k = q ∨ k = pc ∨ k = pq) hb4) (fun _ c => Or.inl c)
          obtain ⟨z0, z1, _, _, l4⟩ := W4.cells
          clear y0 y1
          have KO := old_any v w4 W4.ar
          rw [hb3'] at KO
          go_wp2_with fail
          refine KO.mono ?_
          clear KO
          rintro e w5 ⟨rfl, hb5⟩
          have W5 := W4.below hb5
          have F5 := F4.trans (Fr.of (X := fun k => k = p ∨ k = q ∨ k = pc ∨ k = pq) hb5) (fun _ c => Or.inl c)
          obtain ⟨x0, x1, _, _, l5⟩ := W5.cells
          clear z0 z1
          clear x0 x1
          go_wp2_with fail
          go_ret
          exact ⟨rfl, W5, F5⟩
      · rw [Bool.and_true]
        cases b1'
        · rw [if_neg (by simp)]
          go_enter Tryz.func53, Tryz.ntmps53
          go_wp2_with fail
          refine P.mono ?_
          clear P
          rintro e w1 ⟨rfl, hb1⟩
          have y1 := (hb1.cell (p := ⟨pw, 0, none⟩) lpw).trans c0
          go_wp2_with fail
          refine (KS.out w1 hb1).mono ?_
          rintro e w2 ⟨rfl, W2, F2⟩
          clear y1
          go_wp2_with fail
          refine (KA.out w2).mono ?_
          rintro e w3 ⟨rfl, hb3⟩
          have W3 := W2.out.below hb3
          have F3 := F2.out.trans (Fr.of (X := fun k => k = p ∨ k = q ∨ k = pc ∨ k = pq) hb3) (fun _ c => Or.inl c)
          obtain ⟨y0, y1, _, _, l3⟩ := W3.cells
          clear y0 y1
          go_wp2_with fail
          go_ret
          exact ⟨rfl, W3, F3⟩
        · rw [if_pos rfl]
          go_enter Tryz.func53, Tryz.ntmps53
          go_wp2_with fail
          refine P.mono ?_
          clear P
          rintro e w1 ⟨rfl, hb1⟩
          have y1 := (hb1.cell (p := ⟨pw, 0, none⟩) lpw).trans c0
          go_wp2_with fail
          refine (KS.out w1 hb1).mono ?_
          rintro e w2 ⟨rfl, W2, F2⟩
          clear y1
          go_wp2_with fail
          refine (KA.out w2).mono ?_
          rintro e w3 ⟨rfl, hb3⟩
          have W3 := W2.out.below hb3
          have F3 := F2.out.trans (Fr.of (X := fun k => k = p ∨ k = q ∨ k = pc ∨ k = pq) hb3) (fun _ c => Or.inl c)
          obtain ⟨y0, y1, _, _, l3⟩ := W3.cells
          have KY := young_any u w3 W3.ar
          rw [hb2] at KY
          go_wp2_with fail
          refine KY.mono ?_
          clear KY
          rintro e w4 ⟨rfl, hb4⟩
          have W4 := W3.below hb4
          have F4 := F3.trans (Fr.of (X := fun k => k = p ∨ k = q ∨ k = pc ∨ k = pq) hb4) (fun _ c => Or.inl c)
          obtain ⟨z0, z1, _, _, l4⟩ := W4.cells
          clear y0 y1
          have KO := old_any v w4 W4.ar
          rw [hb3'] at KO
          go_wp2_with fail
          refine KO.mono ?_
          clear KO
          rintro e w5 ⟨rfl, hb5⟩
          have W5 := W4.below hb5
          have F5 := F4.trans (Fr.of (X := fun k => k = p ∨ k = q ∨ k = pc ∨ k = pq) hb5) (fun _ c => Or.inl c)
          obtain ⟨x0, x1, _, _, l5⟩ := W5.cells
          clear z0 z1
          go_wp2_with fail
          refine (mark_any v w5 W5.cd (by omega) (by omega) (by omega) hM).mono ?_
          rintro e w6 ⟨rfl, hc6, s6⟩
          have W6 := W5.cards hc6 s6
          have F6 := F5.trans (frC s6) (fun _ c => Or.inl c)
          clear x0 x1
          go_wp2_with fail
          go_ret
          exact ⟨rfl, W6, F6⟩
  · have eW : stW N y g ws x i z = ws := by unfold stW; rw [if_neg h0]
    have eM : stM N y g ws x i z c M = M := by unfold stM stB; rw [decide_eq_false h0]; rfl
    rw [if_neg h0, if_neg h0] at P
    rw [eW, eM]
    generalize fcC N y g ws x i = cd at P h0 ⊢
    go_enter Tryz.func53, Tryz.ntmps53
    go_wp2_with fail
    refine P.mono ?_
    clear P
    rintro e w1 ⟨rfl, hb1⟩
    have hW := H.out.below hb1
    clear c0 c1
    go_wp2_with fail
    go_ret
    exact ⟨rfl, hW, Fr.of hb1⟩
end

end Go.Proofs.YtakofbkmhmcnfabGreat

/- A list of steps, or of words, that came in, opened: what a walk is told of it. -/
namespace Go.Proofs.YtakofbkmhmcnfabGreat
open Go.ChangeShapes Go.WideShapes Go.ChangeAt Go.RowKit Go.Joins Go.Deep W

/-- A list of words that came in. -/
def IsWords (w : World) (ad : Option Addr) (n : Nat) (S : Nat → Int) : Prop :=
  0 < n → ∃ b o, ad = some ⟨b, o, none⟩ ∧ b < w.heap.size ∧ ∀ i, i < n → w.cell? ⟨b, o + i, none⟩ = some (.int .i64 (S i))

end Go.Proofs.YtakofbkmhmcnfabGreat

/- ArenaApart's walk: it returns true at whatever spaces and steps, in whatever memory; nothing that was in memory turns. -/
namespace Go.Proofs.YtakofbkmhmcnfabGreat.Apart2
open Go.RowKit W

theorem ld_field {N y g : Nat} {ws : List Int} (hd : Int) (f j : Nat) (h : y + f < ws.length) (hj : j < f) : ld N (y + 1 + f) g (fil ws y hd f) ((y : Int) + 1 + j) = 2 := by
  have hh : hB 0 ((y + 1 + f : Nat) : Int) ((y : Int) + 1 + j) = true := by simp [hB]; omega
  have hi : iB N (y + 1 + f) g ((y : Int) + 1 + j) = true := by unfold iB; rw [hh]; rfl
  unfold ld
  rw [if_pos hi, show ((y : Int) + 1 + j).toNat = y + 1 + j by omega, fil_get _ _ _ _ _ h, if_neg (by omega), if_pos (by omega)]

theorem splice_get (ws : List Int) (t f n i : Nat) (h1 : t + n ≤ ws.length) (h2 : f + n ≤ ws.length) :
    (splice ws t ((ws.drop f).take n)).getD i 0 = if t ≤ i ∧ i < t + n then ws.getD (f + i - t) 0 else ws.getD i 0 := by
  have hl : ((ws.drop f).take n).length = n := by simp; omega
  unfold splice
  rw [hl]
  simp only [List.getD_eq_getElem?_getD]
  by_cases c : i < t
  · rw [List.getElem?_append_left (by simp; omega), if_neg (by omega), List.getElem?_take_of_lt c]
  · have e1 : (ws.take t).length = t := by simp; omega
    rw [List.getElem?_append_right (by omega), e1]
    by_cases c2 : i < t + n
    · rw [if_pos (by omega), List.getElem?_append_left (by omega), List.getElem?_take_of_lt (by omega), List.getElem?_drop, show f + (i - t) = f + i - t by omega]
    · rw [if_neg (by omega), List.getElem?_append_right (by omega), hl, List.getElem?_drop, show t + n + (i - t - n) = i by omega]

/-- What a copy's words are, and that those that it was made of are as they were. -/
theorem copied {N O y g : Nat} {ws : List Int} {a : Nat} (hl : ws.length = N + O) (hy : y ≤ N) (hi : iB N y g a = true) (n : Nat) (h1 : 1 + (n : Int) ≤ endA N y g a - a) (h2 : 1 + (n : Int) ≤ (O : Int) - g) (j : Nat) (hj : j ≤ n) :
    ld N y (g + (1 + n)) (splice ws (N + g) ((ws.drop a).take (1 + n))) ((N : Int) + g + j) = ws.getD (a + j) 0 ∧ ld N y (g + (1 + n)) (splice ws (N + g) ((ws.drop a).take (1 + n))) ((a : Int) + j) = ws.getD (a + j) 0 := by
  have he : endA N y g a ≤ (N : Int) + g := by unfold endA; split <;> omega
  constructor
  · have hh : hB N ((g + (1 + n) : Nat) : Int) ((N : Int) + g + j) = true := by simp [hB]; omega
    have hi : iB N y (g + (1 + n)) ((N : Int) + g + j) = true := by unfold iB; rw [hh]; simp
    unfold ld
    rw [if_pos hi, show ((N : Int) + g + j).toNat = N + g + j by omega, splice_get _ _ _ _ _ (by omega) (by omega), if_pos (by omega), show a + (N + g + j) - (N + g) = a + j by omega]
  · have hi2 : iB N y (g + (1 + n)) ((a : Int) + j) = true := by
      unfold endA at h1
      split at h1
      · rename_i c
        have c := hB_yes c
        have hh : hB 0 y ((a : Int) + j) = true := by simp [hB]; omega
        unfold iB; rw [hh]; rfl
      · rename_i c
        have c1 : hB N g a = true := by
          unfold iB at hi
          simp only [Bool.not_eq_true] at c
          rw [c] at hi
          simpa using hi
        have c2 := hB_yes c1
        have hh : hB N ((g + (1 + n) : Nat) : Int) ((a : Int) + j) = true := by simp [hB]; omega
        unfold iB; rw [hh]; simp
    unfold ld
    rw [if_pos hi2, show ((a : Int) + j).toNat = a + j by omega, splice_get _ _ _ _ _ (by omega) (by omega), if_neg (by omega)]

end Go.Proofs.YtakofbkmhmcnfabGreat.Apart2

/- Things one behind the other: what Make, Copy and Set leave of them. -/
namespace Go.Proofs.YtakofbkmhmcnfabGreat
open Go.RowKit W Apart2

theorem ld_in {N y g : Nat} {ws : List Int} {a : Int} (h : iB N y g a = true) : ld N y g ws a = ws.getD a.toNat 0 := by unfold ld; rw [if_pos h]
theorem iB_y {N y g : Nat} {a : Int} (h0 : 0 ≤ a) (h1 : a < y) : iB N y g a = true := by
  unfold iB hB
  rw [decide_eq_true (⟨h0, by omega⟩ : (0 : Int) ≤ a ∧ a < 0 + (y : Int))]
  rfl
theorem iB_o {N y g : Nat} {a : Int} (h0 : (N : Int) ≤ a) (h1 : a < (N : Int) + g) : iB N y g a = true := by
  unfold iB hB
  rw [decide_eq_true (⟨h0, h1⟩ : (N : Int) ≤ a ∧ a < (N : Int) + g), Bool.or_true]

section
variable {N O y g : Nat} {ws : List Int} {Y G : List Int}

theorem Full2.iy (h : Full2 N y g ws Y G) : ∀ x ∈ Y, 0 ≤ x ∧ x < y := fun x hx => by
  have h1 := h.ty.mem x hx
  have h2 := pf_bd (ld N y g ws x)
  omega
theorem Full2.io (h : Full2 N y g ws Y G) : ∀ x ∈ G, (N : Int) ≤ x ∧ x < (N : Int) + g := fun x hx => by
  have h1 := h.to.mem x hx
  have h2 := pf_bd (ld N y g ws x)
  omega

/-- A thing is made: it stands behind the young ones. -/
theorem Full2.make (h : Full2 N y g ws Y G) (hl : ws.length = N + O) {k f : Int} (hm : mkB N y k f = true) : Full2 N (mkY N y k f) g (mkW N y k f ws) (Y ++ [(y : Int)]) G := by
  obtain ⟨h1, h2⟩ := mkB_yes hm
  have hf := hc_bd k f h1
  have eY : mkY N y k f = y + 1 + f.toNat := by unfold mkY; rw [if_pos hm]
  have eW : mkW N y k f ws = fil ws y (hw k f) f.toNat := by unfold mkW; rw [if_pos hm]
  rw [eY, eW]
  have hlt : y + f.toNat < ws.length := by omega
  have hh : ld N (y + 1 + f.toNat) g (fil ws y (hw k f) f.toNat) y = hw k f := ld_head _ _ hlt
  have hp := parts_head k f h1
  refine ⟨h.ty.snoc (fun x hx => ?_) (by rw [hh]; exact hp.2.2) (by rw [hh, hp.2.1]; omega), h.to.heads (fun x hx => ?_)⟩
  · have hi := h.iy x hx
    rw [ld_in (iB_y hi.1 (by omega)), ld_in (iB_y hi.1 hi.2), fil_get _ _ _ _ _ hlt, if_neg (by omega), if_neg (by omega)]
  · have hi := h.io x hx
    rw [ld_in (iB_o hi.1 hi.2), ld_in (iB_o hi.1 hi.2), fil_get _ _ _ _ _ hlt, if_neg (by omega), if_neg (by omega)]

/-- A thing is copied: it stands behind the old ones. -/
theorem Full2.copy (h : Full2 N y g ws Y G) (hl : ws.length = N + O) (hy : y ≤ N) (hg : g ≤ O) {a : Int} (hm : cpB N O y g ws a = true) (ha : a ∈ Y ∨ a ∈ G) : Full2 N y (cpG N O y g ws a) (cpW N O y g ws a) Y (G ++ [((N + g : Nat) : Int)]) ∧ ld N y (cpG N O y g ws a) (cpW N O y g ws a) ((N + g : Nat) : Int) = ld N y g ws a := by
  obtain ⟨h1, h2, h3⟩ := cpB_yes hm
  have hp := pf_bd (ld N y g ws a)
  have eG : cpG N O y g ws a = g + (1 + (pf (ld N y g ws a)).toNat) := by unfold cpG; rw [if_pos hm]
  have eW : cpW N O y g ws a = splice ws (N + g) ((ws.drop a.toNat).take (1 + (pf (ld N y g ws a)).toNat)) := by unfold cpW; rw [if_pos hm]
  have hia : 0 ≤ a ∧ a + (1 + pf (ld N y g ws a)) ≤ (N : Int) + g ∧ iB N y g a = true := by
    rcases ha with ha | ha
    · have h4 := h.ty.mem a ha
      have h5 := h.iy a ha
      exact ⟨h5.1, by omega, iB_y h5.1 h5.2⟩
    · have h4 := h.to.mem a ha
      have h5 := h.io a ha
      exact ⟨by omega, by omega, iB_o h5.1 h5.2⟩
  rw [eG, eW]
  obtain ⟨n, hn⟩ : ∃ n, n = (pf (ld N y g ws a)).toNat := ⟨_, rfl⟩
  rw [← hn]
  have sg : ∀ i : Nat, (splice ws (N + g) ((ws.drop a.toNat).take (1 + n))).getD i 0 = if N + g ≤ i ∧ i < N + g + (1 + n) then ws.getD (a.toNat + i - (N + g)) 0 else ws.getD i 0 := fun i => splice_get ws (N + g) a.toNat (1 + n) i (by omega) (by omega)
  have hh : ld N y (g + (1 + n)) (splice ws (N + g) ((ws.drop a.toNat).take (1 + n))) ((N + g : Nat) : Int) = ld N y g ws a := by
    rw [ld_in (iB_o (by omega) (by omega)), Int.toNat_natCast, sg, if_pos (by omega), Nat.add_sub_cancel, ld_in hia.2.2]
  refine ⟨⟨h.ty.heads (fun x hx => ?_), ?_⟩, hh⟩
  · have hi := h.iy x hx
    rw [ld_in (iB_y hi.1 hi.2), ld_in (iB_y hi.1 hi.2), sg, if_neg (by omega)]
  · have ht := h.to
    rw [show (N : Int) + g = ((N + g : Nat) : Int) by omega] at ht
    refine ht.snoc (fun x hx => ?_) (by rw [hh]; exact h1) (by rw [hh]; omega)
    have hi := h.io x hx
    rw [ld_in (iB_o hi.1 (by omega)), ld_in (iB_o hi.1 hi.2), sg, if_neg (by omega)]

/-- A field is set: the things are what they were. -/
theorem Full2.set (h : Full2 N y g ws Y G) (hl : ws.length = N + O) (hy : y ≤ N) (hg : g ≤ O) {v i z : Int} (hv : v ∈ Y ∨ v ∈ G) (i0 : 0 ≤ i) (i1 : i < pf (ld N y g ws v)) : Full2 N y g (ws.set (v + 1 + i).toNat z) Y G ∧ ∀ x, (x ∈ Y ∨ x ∈ G) → ld N y g (ws.set (v + 1 + i).toNat z) x = ld N y g ws x := by
  have hb : 0 ≤ v ∧ v + 1 + i < (N : Int) + g := by
    rcases hv with hv | hv
    · have h4 := h.ty.mem v hv
      have h5 := h.iy v hv
      omega
    · have h4 := h.to.mem v hv
      have h5 := h.io v hv
      omega
  have key : ∀ x, (x ∈ Y ∨ x ∈ G) → ld N y g (ws.set (v + 1 + i).toNat z) x = ld N y g ws x := fun x hx => by
    have hne : x ≠ v + 1 + i := by
      intro e
      rcases hv with hv | hv <;> rcases hx with hx | hx
      · exact h.ty.field hv i0 i1 (by rw [← e]; exact hx)
      · have h4 := h.ty.mem v hv
        have h5 := h.io x hx
        omega
      · have h4 := h.io v hv
        have h5 := h.iy x hx
        omega
      · exact h.to.field hv i0 i1 (by rw [← e]; exact hx)
    have hi : iB N y g x = true ∧ 0 ≤ x := by
      rcases hx with hx | hx
      · have h5 := h.iy x hx
        exact ⟨iB_y h5.1 h5.2, h5.1⟩
      · have h5 := h.io x hx
        exact ⟨iB_o h5.1 h5.2, by omega⟩
    rw [ld_in hi.1, ld_in hi.1, getD_set _ _ _ _ (by omega), if_neg (by omega)]
  exact ⟨⟨h.ty.heads (fun x hx => key x (Or.inl hx)), h.to.heads (fun x hx => key x (Or.inr hx))⟩, key⟩
end

end Go.Proofs.YtakofbkmhmcnfabGreat
