/- What the functions of package cards do: contracts, over the seat's own translation; no block but the cards' turns. -/
import Derived.Test.YtglddgjljohkiabCd
namespace Go.Proofs.Ytglddgjljohkiab
open Go.RowKit W

/-- How many cards so many words begin. -/
def nC (x : Int) : Int := if x < 0 then 0 else (x + 8 - 1) / 8
/-- The number of a place's card. -/
def cN (B a : Int) : Int := if a < B then 0 else (a - B) / 8
/-- Has a place a card? -/
def cB (B c a : Int) : Bool := decide (B ≤ a) && decide ((a - B) / 8 < c)

set_option maxRecDepth 100000 in
set_option maxHeartbeats 400000 in
theorem begunC_any (x : Int) (w : World) (h : x ≤ 100000) : Calls Try.prog 87 #[.int .i64 x] w fun e w' => e = .returned (.int .u64 (nC x)) ∧ w' = w := by
  by_cases c : x < 0
  · have e : nC x = 0 := by unfold nC; rw [if_pos c]
    rw [e]
    go_enter Try.func87, Try.ntmps87
    go_wp2_with fail
    go_ret
    exact ⟨rfl, rfl⟩
  · have e : nC x = (x + 8 - 1) / 8 := by unfold nC; rw [if_neg c]
    rw [e]
    go_enter Try.func87, Try.ntmps87
    go_wp2_with fail
    go_ret
    exact ⟨rfl, rfl⟩

set_option maxRecDepth 100000 in
set_option maxHeartbeats 400000 in
theorem card_any {p q : Nat} {B c : Int} {M : List Int} (a : Int) (w : World) (h : Cd w p q B c M) (hB : 0 ≤ B) (hB' : B ≤ 100000) (ha : a ≤ 9223372036854775807) :
    Calls Try.prog 98 #[.pointer (some ⟨p, 0, none⟩), .int .i64 a] w fun e w' => e = .returned (.tuple #[.int .u64 (cN B a), .bool (cB B c a)]) ∧ Below w.heap.size w w' := by
  obtain ⟨c0, c1, c2⟩ := h.cells
  by_cases hc : a < B
  · have e : cB B c a = false := by unfold cB; rw [decide_eq_false (by omega)]; rfl
    have e2 : cN B a = 0 := by unfold cN; rw [if_pos hc]
    rw [e, e2]
    go_enter Try.func98, Try.ntmps98
    go_wp2_with fail
    go_ret2
    exact ⟨rfl, Below.refl _ _⟩
  · have e : cB B c a = decide ((a - B) / 8 < c) := by unfold cB; rw [decide_eq_true (by omega)]; rfl
    have e2 : cN B a = (a - B) / 8 := by unfold cN; rw [if_neg hc]
    rw [e, e2]
    go_enter Try.func98, Try.ntmps98
    go_wp2_with fail
    go_quiet (fail)
    go_wp2_with fail
    go_ret2
    exact ⟨rfl, below_drewN (Below.refl _ _) _⟩

/-- What is marked behind a mark. -/
def mkM (B c a : Int) (M : List Int) : List Int := if cB B c a then addM M (cN B a) else M
theorem mkM_yes {B c a : Int} {M : List Int} (h : cB B c a = true) : mkM B c a M = addM M (cN B a) := by unfold mkM; rw [if_pos h]
theorem mkM_no {B c a : Int} {M : List Int} (h : cB B c a = false) : mkM B c a M = M := by unfold mkM; rw [if_neg (by rw [h]; simp)]

theorem cN_fits {B a : Int} (hB : 0 ≤ B) (ha : a ≤ 9223372036854775807) : (Lit.int .u64 (cN B a)).wf = true := by
  unfold cN
  split
  · decide
  · have h1 : 0 ≤ (a - B) / 8 := by omega
    exact WalkArith.wf_u64 ⟨h1, by omega⟩

set_option maxRecDepth 100000 in
set_option maxHeartbeats 400000 in
theorem mark_any {p q : Nat} {B c : Int} {M : List Int} (a : Int) (w : World) (h : Cd w p q B c M) (hB : 0 ≤ B) (hB' : B ≤ 100000) (ha : a ≤ 9223372036854775807) (hM : M.length ≤ 100000) :
    Calls Try.prog 74 #[.pointer (some ⟨p, 0, none⟩), .int .i64 a] w fun e w' => e = .returned (.bool (cB B c a)) ∧ Cd w' p q B c (mkM B c a M) ∧ Sv p q w w' := by
  have hk := Maps.keyOf_int_mk (P := Try.prog) Try.underlying118 (cN_fits (B := B) (a := a) hB ha)
  go_enter Try.func74, Try.ntmps74
  go_wp2_with fail
  refine (card_any a _ h hB hB' ha).mono ?_
  rintro e w1 ⟨rfl, hb1⟩
  have h1 := h.below hb1 (Nat.le_refl _)
  obtain ⟨c0, c1, c2⟩ := h1.cells
  obtain ⟨D, o1, o2, o3⟩ := h1.hq
  cases hc : cB B c a
  · go_wp2_with fail
    go_ret
    exact ⟨by rw [hc]; rfl, by rw [mkM_no hc]; exact h1, Sv.of hb1⟩
  · go_wp2_with (first
      | (at_mapUpdate; refine wpList_mapUpdate_own _ rfl _ _ _ 119 rfl 118 144 lawU Try.underlying119 (unitElem (H := Unit)) q M.length D rfl o1 (by unfold maxLen; omega) _ _ _ rfl rfl hk _ [] unitElem_mk ?_; intro w2 hown2 hgrow2)
      | go_in)
    go_ret
    obtain ⟨h2, s2⟩ := Cd.put h1.hp o1 o2 o3 h1.ne hown2 hgrow2
    exact ⟨by rw [hc]; rfl, by rw [mkM_yes hc]; exact h2, (Sv.of hb1).trans s2⟩

set_option maxRecDepth 100000 in
set_option maxHeartbeats 400000 in
theorem count_any {p q : Nat} {B c : Int} {M : List Int} (w : World) (h : Cd w p q B c M) :
    Calls Try.prog 32 #[.pointer (some ⟨p, 0, none⟩)] w fun e w' => e = .returned (.int .i64 M.length) ∧ w' = w := by
  obtain ⟨c0, c1, c2⟩ := h.cells
  obtain ⟨D, o1, o2, o3⟩ := h.hq
  go_enter Try.func32, Try.ntmps32
  go_wp2_with (first
      | (at_len; refine wpList_len_own _ rfl _ 119 rfl 118 144 Try.underlying119 _ q M.length D rfl o1 ?_)
      | go_in)
  go_ret
  exact ⟨rfl, rfl⟩

set_option maxRecDepth 100000 in
set_option maxHeartbeats 400000 in
/-- Clear, of whatever marks there are: a map of its own is the marks' from then on. -/
theorem clearC_any {p : Nat} {B c : Int} {v : Value} (w : World) (h : w.heap[p]? = some (.cells #[.int .i64 B, .int .u64 c, v] 121 (0, 0))) :
    Calls Try.prog 88 #[.pointer (some ⟨p, 0, none⟩)] w fun e w' => e = .returned (.tuple #[]) ∧ Cd w' p w.heap.size B c [] ∧ Sv p p w w' := by
  have hmm := @run_makeMap Try.prog
  have hp := lt_of_some h
  have hf : (w.alloc (.map #[] 0)).frozen? ⟨p, 2, none⟩ = false := by
    simp [World.frozen?, Below.heap_alloc _ _ _ hp, h]
  have hc : (w.alloc (.map #[] 0)).cell? ⟨p, 2, none⟩ = some v := by
    simp [World.cell?, Below.heap_alloc _ _ _ hp, h]
  go_enter Try.func88, Try.ntmps88
  go_wp2_with fail
  go_end0
  have hm := World.ownsMap_made (w.setCell ⟨p, 2, none⟩ (.map (some w.heap.size))) Try.prog 118 (unitElem (H := Unit))
  have hz : (w.setCell ⟨p, 2, none⟩ (.map (some w.heap.size))).heap.size = w.heap.size := by simp [World.setCell]
  rw [hz] at hm
  refine ⟨rfl, Cd.none ((Below.heap_alloc _ _ _ (by omega)).trans ?_) hm, (Sv.setp _ _).trans (Sv.of ((Below.refl _ _).alloc (Nat.le_refl _) _))⟩
  simp only [World.setCell, Array.getElem?_modify, if_true, h, Option.map_some]
  simp

set_option maxRecDepth 100000 in
set_option maxHeartbeats 400000 in
theorem newC_any (B x : Int) (w : World) (h : x ≤ 100000) :
    Calls Try.prog 55 #[.int .i64 B, .int .i64 x] w fun e w' => ∃ p q, e = .returned (.pointer (some ⟨p, 0, none⟩)) ∧ Cd w' p q B (nC x) [] ∧ w.heap.size ≤ p ∧ w.heap.size ≤ q ∧ Below w.heap.size w w' := by
  go_enter Try.func55, Try.ntmps55
  go_wp2_with fail
  refine (begunC_any x _ h).mono ?_
  rintro e w1 ⟨rfl, hw1⟩
  have hw1 := hw1.symm
  subst hw1
  go_wp2_with fail
  refine (clearC_any (p := w.heap.size) (B := B) (c := nC x) (v := .map none) _ (heap_alloc_new _ _)).mono ?_
  rintro e w2 ⟨rfl, h2, s2⟩
  go_wp2_with fail
  go_ret
  exact ⟨_, _, rfl, h2, Nat.le_refl _, by simp, ((Below.refl _ _).alloc (Nat.le_refl _) _).trans (s2.below (by simp) (Nat.le_refl _) (Nat.le_refl _))⟩

end Go.Proofs.Ytglddgjljohkiab
