/- A wood: Kind, standing, fieldAt, Get: contracts. -/
import Derived.Test.YtglddgjljohkiabWo1
namespace Go.Proofs.Ytglddgjljohkiab
open Go.RowKit W

/-- How many things there are at most. -/
theorem ths_le {N y g : Nat} {ws : List Int} {hi : Int} : ∀ (k : Nat) (a : Int), (ths N y g ws hi k a).length ≤ k
  | 0, _ => by simp [ths]
  | k + 1, a => by
    have ih := ths_le (N := N) (y := y) (g := g) (ws := ws) (hi := hi) k (a + (1 + pf (ld N y g ws a)))
    unfold ths
    split
    · split
      · rw [List.length_cons]
        omega
      · simp
    · simp

section
variable {pw p q N O y g : Nat} {ws : List Int}

theorem thingAt_any' (x : Int) (w : World) (hc : w.cell? ⟨pw, 0, none⟩ = some (.pointer (some ⟨p, 0, none⟩))) (h : At w p q N O y g ws) :
    Calls Try.prog 75 #[.pointer (some ⟨pw, 0, none⟩), .int .i64 x] w fun e w' => e = .returned (.tuple #[.int .i64 (tV N y g ws x), .bool (tB N y g ws x)]) ∧ Below w.heap.size w w' :=
  thingAt_any x w hc h (Nat.le_trans (ths_le _ _) (by decide)) (Nat.le_trans (ths_le _ _) (by decide))

set_option maxRecDepth 100000 in
set_option maxHeartbeats 400000 in
theorem kind_any (x : Int) (w : World) (hc : w.cell? ⟨pw, 0, none⟩ = some (.pointer (some ⟨p, 0, none⟩))) (h : At w p q N O y g ws) :
    Calls Try.prog 33 #[.pointer (some ⟨pw, 0, none⟩), .int .i64 x] w fun e w' => e = .returned (.tuple #[.int .i64 (if tB N y g ws x = true then pk (ld N y g ws (aV x)) else 0), .int .i64 (if tB N y g ws x = true then pf (ld N y g ws (aV x)) else 0), .int .i64 (if tB N y g ws x = true then pc (ld N y g ws (aV x)) else 2)]) ∧ Below w.heap.size w w' := by
  have HA : Hid (At w p q N O y g ws) := h
  have lpw := World.block_lt_of_cell? w _ hc
  have P := thingAt_any' x w hc h
  clear h
  cases ht : tB N y g ws x
  · rw [ht] at P
    simp only [Bool.false_eq_true, if_false]
    generalize tV N y g ws x = v at P
    go_enter Try.func33, Try.ntmps33
    go_wp2_with fail
    refine P.mono ?_
    clear P
    rintro e w1 ⟨rfl, hb1⟩
    go_wp2_with fail
    go_ret3
    exact ⟨rfl, hb1⟩
  · rw [ht] at P
    have ev : tV N y g ws x = aV x := by simp [tV, ht]
    rw [ev] at P
    simp only [if_true]
    generalize aV x = v at P
    go_enter Try.func33, Try.ntmps33
    go_wp2_with fail
    refine P.mono ?_
    clear P
    rintro e w1 ⟨rfl, hb1⟩
    have y1 := (hb1.cell (p := ⟨pw, 0, none⟩) lpw).trans hc
    go_wp2_with fail
    refine (thing_any v w1 (HA.out.below hb1 (Nat.le_refl _))).mono ?_
    rintro e w2 ⟨rfl, hb2⟩
    have hb12 := hb1.trans (hb2.mono hb1.size)
    clear y1 hb1 hb2
    go_wp2_with fail
    go_ret3
    exact ⟨rfl, hb12⟩

/-- How many fields of a thing stand. -/
def stN (N y g : Nat) (a f : Int) : Int := min f ((if hB N g a = true then (N : Int) + g else (y : Int)) - a - 1)

set_option maxRecDepth 100000 in
set_option maxHeartbeats 400000 in
theorem standing_any (a f : Int) (w : World) (hc : w.cell? ⟨pw, 0, none⟩ = some (.pointer (some ⟨p, 0, none⟩))) (h : At w p q N O y g ws) (a0 : 0 ≤ a) (a1 : a ≤ 100000) :
    Calls Try.prog 95 #[.pointer (some ⟨pw, 0, none⟩), .int .i64 a, .int .i64 f] w fun e w' => e = .returned (.int .i64 (stN N y g a f)) ∧ Below w.heap.size w w' := by
  have HA : Hid (At w p q N O y g ws) := h
  have lpw := World.block_lt_of_cell? w _ hc
  have k1 := h.hN'
  have k2 := h.hy
  have k3 := h.hO
  have k4 := h.hg
  clear h
  unfold stN
  cases ho : hB N g a
  · simp only [Bool.false_eq_true, if_false]
    by_cases hm : f ≤ (y : Int) - a - 1
    · rw [Int.min_eq_left hm]
      have hm2 : ¬ ((y : Int) - a - 1 < f) := by omega
      go_enter Try.func95, Try.ntmps95
      go_wp2_with fail
      refine (used_any w HA.out).mono ?_
      rintro e w1 ⟨rfl, hb1⟩
      have y1 := (hb1.cell (p := ⟨pw, 0, none⟩) lpw).trans hc
      go_wp2_with fail
      refine (bounds_any w1 (HA.out.below hb1 (Nat.le_refl _))).mono ?_
      rintro e w2 ⟨rfl, hb2⟩
      have hb12 := hb1.trans (hb2.mono hb1.size)
      have y2 := (hb12.cell (p := ⟨pw, 0, none⟩) lpw).trans hc
      clear y1
      have P := old_any a w2 (HA.out.below hb12 (Nat.le_refl _))
      rw [ho] at P
      go_wp2_with fail
      refine P.mono ?_
      clear P
      rintro e w3 ⟨rfl, hb3⟩
      have hb13 := hb12.trans (hb3.mono hb12.size)
      clear y2 hb1 hb2 hb12 hb3
      go_wp2_with fail
      go_ret
      exact ⟨rfl, hb13⟩
    · rw [Int.min_eq_right (by omega)]
      have hm2 : (y : Int) - a - 1 < f := by omega
      go_enter Try.func95, Try.ntmps95
      go_wp2_with fail
      refine (used_any w HA.out).mono ?_
      rintro e w1 ⟨rfl, hb1⟩
      have y1 := (hb1.cell (p := ⟨pw, 0, none⟩) lpw).trans hc
      go_wp2_with fail
      refine (bounds_any w1 (HA.out.below hb1 (Nat.le_refl _))).mono ?_
      rintro e w2 ⟨rfl, hb2⟩
      have hb12 := hb1.trans (hb2.mono hb1.size)
      have y2 := (hb12.cell (p := ⟨pw, 0, none⟩) lpw).trans hc
      clear y1
      have P := old_any a w2 (HA.out.below hb12 (Nat.le_refl _))
      rw [ho] at P
      go_wp2_with fail
      refine P.mono ?_
      clear P
      rintro e w3 ⟨rfl, hb3⟩
      have hb13 := hb12.trans (hb3.mono hb12.size)
      clear y2 hb1 hb2 hb12 hb3
      go_wp2_with fail
      go_ret
      exact ⟨rfl, hb13⟩
  · simp only [if_true]
    by_cases hm : f ≤ (N : Int) + g - a - 1
    · rw [Int.min_eq_left hm]
      have hm2 : ¬ ((N : Int) + g - a - 1 < f) := by omega
      go_enter Try.func95, Try.ntmps95
      go_wp2_with fail
      refine (used_any w HA.out).mono ?_
      rintro e w1 ⟨rfl, hb1⟩
      have y1 := (hb1.cell (p := ⟨pw, 0, none⟩) lpw).trans hc
      go_wp2_with fail
      refine (bounds_any w1 (HA.out.below hb1 (Nat.le_refl _))).mono ?_
      rintro e w2 ⟨rfl, hb2⟩
      have hb12 := hb1.trans (hb2.mono hb1.size)
      have y2 := (hb12.cell (p := ⟨pw, 0, none⟩) lpw).trans hc
      clear y1
      have P := old_any a w2 (HA.out.below hb12 (Nat.le_refl _))
      rw [ho] at P
      go_wp2_with fail
      refine P.mono ?_
      clear P
      rintro e w3 ⟨rfl, hb3⟩
      have hb13 := hb12.trans (hb3.mono hb12.size)
      clear y2 hb1 hb2 hb12 hb3
      go_wp2_with fail
      go_ret
      exact ⟨rfl, hb13⟩
    · rw [Int.min_eq_right (by omega)]
      have hm2 : (N : Int) + g - a - 1 < f := by omega
      go_enter Try.func95, Try.ntmps95
      go_wp2_with fail
      refine (used_any w HA.out).mono ?_
      rintro e w1 ⟨rfl, hb1⟩
      have y1 := (hb1.cell (p := ⟨pw, 0, none⟩) lpw).trans hc
      go_wp2_with fail
      refine (bounds_any w1 (HA.out.below hb1 (Nat.le_refl _))).mono ?_
      rintro e w2 ⟨rfl, hb2⟩
      have hb12 := hb1.trans (hb2.mono hb1.size)
      have y2 := (hb12.cell (p := ⟨pw, 0, none⟩) lpw).trans hc
      clear y1
      have P := old_any a w2 (HA.out.below hb12 (Nat.le_refl _))
      rw [ho] at P
      go_wp2_with fail
      refine P.mono ?_
      clear P
      rintro e w3 ⟨rfl, hb3⟩
      have hb13 := hb12.trans (hb3.mono hb12.size)
      clear y2 hb1 hb2 hb12 hb3
      go_wp2_with fail
      go_ret
      exact ⟨rfl, hb13⟩
end

end Go.Proofs.Ytglddgjljohkiab
