/- A wood: where a word leads; Kind: contracts. -/
import Derived.Test.YtglddgjljohkiabJb
import Derived.Test.YtglddgjljohkiabJf
namespace Go.Proofs.Ytglddgjljohkiab
open Go.RowKit W

set_option maxRecDepth 100000 in
set_option maxHeartbeats 400000 in
theorem indexI_any (w : World) (ad : Option Addr) (l : List Int) (cap : Nat) (v : Int) (h : Ls w ad l) (hm : l.length ≤ 100000) :
    Calls Try.prog 110 #[.slice ad l.length cap, .int .i64 v] w fun e w' => ∃ a : Int, e = .returned (.int .i64 a) ∧ decide (0 ≤ a) = l.contains v ∧ Below w.heap.size w w' := by
  have H : Hid (Ls w ad l) := h
  clear h
  go_enter Try.func110, Try.ntmps110
  go_wp2_with fail
  go_loopw [8] (fun iv wr => ∃ j : Nat, j ≤ l.length ∧ iv = .int .i64 j ∧ Hid (∀ i, i < j → ¬ l.getD i 0 = v) ∧ Below w.heap.size w wr) (fun iv _ => l.length - (intOf iv).toNat)
  case atStart => exact ⟨0, Nat.zero_le _, rfl, fun i h => by omega, Below.refl _ _⟩
  case round =>
    obtain ⟨j, hj, rfl, HN, hb⟩ := hrel
    by_cases hlt : j < l.length
    · obtain ⟨b0, o0, e0, hb0, hc⟩ := H.out.below hb (by omega)
      have x1 := hc j hlt
      subst e0
      have j0 : (0 : Int) ≤ (j : Int) := by omega
      have j1 : (j : Int) < (l.length : Int) := by omega
      by_cases hv : l.getD j 0 = v
      · have hin : l.contains v = true := by
          rw [List.contains_iff_mem, ← hv, List.getD_eq_getElem?_getD, List.getElem?_eq_getElem hlt]
          exact List.getElem_mem _
        rw [hv] at x1
        clear hc
        go_wp2_with fail
        go_ret
        exact ⟨j, rfl, by rw [hin]; simp, hb⟩
      · have HN' : Hid (∀ i, i < j + 1 → ¬ l.getD i 0 = v) := fun i hi => by
          by_cases c : i = j
          · rw [c]; exact hv
          · exact HN.out i (by omega)
        generalize l.getD j 0 = u at x1 hv
        have hv' : ¬ v = u := fun e => hv e.symm
        clear hc
        go_wp2_with fail
        go_roundw
        case rel => exact ⟨j + 1, by omega, by go_num, HN', hb⟩
        case measure => simp [intOf]; omega
    · obtain rfl : j = l.length := by omega
      have hin : l.contains v = false := by
        rw [Bool.eq_false_iff]
        intro hc
        rw [List.contains_iff_mem] at hc
        obtain ⟨i, hi, e⟩ := List.mem_iff_getElem.1 hc
        exact HN.out i hi (by simp [List.getElem?_eq_getElem hi, e])
      go_wp2_with fail
      go_ret
      exact ⟨-1, rfl, by rw [hin]; rfl, hb⟩

set_option maxRecDepth 100000 in
set_option maxHeartbeats 400000 in
theorem containsI_any (w : World) (ad : Option Addr) (l : List Int) (cap : Nat) (v : Int) (h : Ls w ad l) (hm : l.length ≤ 100000) :
    Calls Try.prog 100 #[.slice ad l.length cap, .int .i64 v] w fun e w' => e = .returned (.bool (l.contains v)) ∧ Below w.heap.size w w' := by
  have P := indexI_any w ad l cap v h hm
  clear h
  go_enter Try.func100, Try.ntmps100
  go_wp2_with fail
  refine P.mono ?_
  clear P
  rintro e w1 ⟨a, rfl, ha, hb1⟩
  have HA : Hid (decide (0 ≤ a) = l.contains v) := ha
  clear ha
  go_wp2_with fail
  go_ret
  exact ⟨by rw [← HA.out]; rfl, hb1⟩

/-- Does a word lead to a thing? -/
def tB (N y g : Nat) (ws : List Int) (x : Int) : Bool := aB x && ((thY N y g ws).contains (aV x) || (thO N y g ws).contains (aV x))
/-- Where it begins. -/
def tV (N y g : Nat) (ws : List Int) (x : Int) : Int := if tB N y g ws x = true then aV x else 0

set_option maxRecDepth 100000 in
set_option maxHeartbeats 400000 in
theorem thingAt_any {pw p q N O y g : Nat} {ws : List Int} (x : Int) (w : World) (hc : w.cell? ⟨pw, 0, none⟩ = some (.pointer (some ⟨p, 0, none⟩))) (h : At w p q N O y g ws) (hY : (thY N y g ws).length ≤ 100000) (hO : (thO N y g ws).length ≤ 100000) :
    Calls Try.prog 75 #[.pointer (some ⟨pw, 0, none⟩), .int .i64 x] w fun e w' => e = .returned (.tuple #[.int .i64 (tV N y g ws x), .bool (tB N y g ws x)]) ∧ Below w.heap.size w w' := by
  have HA : Hid (At w p q N O y g ws) := h
  have lpw := World.block_lt_of_cell? w _ hc
  clear h
  have P := at_any x w
  cases ha : aB x
  · have e1 : tB N y g ws x = false := by simp [tB, ha]
    have e2 : tV N y g ws x = 0 := by simp [tV, e1]
    rw [e1, e2]
    rw [ha] at P
    go_enter Try.func75, Try.ntmps75
    go_wp2_with fail
    refine P.mono ?_
    clear P
    rintro e w1 ⟨rfl, hb1⟩
    go_wp2_with fail
    go_ret2
    exact ⟨rfl, hb1⟩
  · rw [ha] at P
    have e1 : tB N y g ws x = ((thY N y g ws).contains (aV x) || (thO N y g ws).contains (aV x)) := by simp [tB, ha]
    have e2 : tV N y g ws x = if ((thY N y g ws).contains (aV x) || (thO N y g ws).contains (aV x)) = true then aV x else 0 := by unfold tV; rw [e1]
    rw [e1, e2]
    clear e1 e2
    generalize aV x = v at P
    obtain ⟨c1, hc1⟩ : ∃ b, (thY N y g ws).contains v = b := ⟨_, rfl⟩
    obtain ⟨c2, hc2⟩ : ∃ b, (thO N y g ws).contains v = b := ⟨_, rfl⟩
    rw [hc1, hc2]
    have HC1 : Hid ((thY N y g ws).contains v = c1) := hc1
    have HC2 : Hid ((thO N y g ws).contains v = c2) := hc2
    clear hc1 hc2
    have K : ∀ w1, Below w.heap.size w w1 → Calls Try.prog 99 #[.pointer (some ⟨p, 0, none⟩)] w1 fun e w' => ∃ d1 f1 d2 f2, e = .returned (.tuple #[.slice d1 (thY N y g ws).length f1, .slice d2 (thO N y g ws).length f2]) ∧ Hid (∀ w3, Below w'.heap.size w' w3 → Calls Try.prog 100 #[.slice d1 (thY N y g ws).length f1, .int .i64 v] w3 fun e w4 => e = .returned (.bool c1) ∧ Below w3.heap.size w3 w4) ∧ Hid (∀ w3, Below w'.heap.size w' w3 → Calls Try.prog 100 #[.slice d2 (thO N y g ws).length f2, .int .i64 v] w3 fun e w4 => e = .returned (.bool c2) ∧ Below w3.heap.size w3 w4) ∧ Below w1.heap.size w1 w' := fun w1 hb1 => by
      refine (things_any w1 (HA.out.below hb1 (Nat.le_refl _))).mono ?_
      rintro e w2 ⟨v1, v2, rfl, ho1, ho2, hb2⟩
      obtain ⟨d1, f1, rfl⟩ := row_slice ho1
      obtain ⟨d2, f2, rfl⟩ := row_slice ho2
      refine ⟨d1, f1, d2, f2, rfl, fun w3 hb3 => ?_, fun w3 hb3 => ?_, hb2⟩
      · rw [← HC1.out]
        exact containsI_any w3 d1 (thY N y g ws) f1 v ((row_ints ho1).below hb3) hY
      · rw [← HC2.out]
        exact containsI_any w3 d2 (thO N y g ws) f2 v ((row_ints ho2).below hb3) hO
    have HK : Hid (∀ w1, Below w.heap.size w w1 → _) := K
    clear K HC1 HC2
    cases c1
    · cases c2
      · simp only [Bool.or_self, Bool.false_eq_true, if_false]
        go_enter Try.func75, Try.ntmps75
        go_wp2_with fail
        refine P.mono ?_
        clear P
        rintro e w1 ⟨rfl, hb1⟩
        have y1 := (hb1.cell (p := ⟨pw, 0, none⟩) lpw).trans hc
        go_wp2_with fail
        refine (HK.out w1 hb1).mono ?_
        rintro e w2 ⟨d1, f1, d2, f2, rfl, L1, L2, hb2⟩
        have hb12 := hb1.trans (hb2.mono hb1.size)
        clear y1 hb1 hb2 HK
        go_wp2_with fail
        refine (L1.out w2 (Below.refl _ _)).mono ?_
        rintro e w3 ⟨rfl, hb3⟩
        have hb13 := hb12.trans (hb3.mono hb12.size)
        go_wp2_with fail
        refine (L2.out w3 hb3).mono ?_
        rintro e w4 ⟨rfl, hb4⟩
        have hb14 := hb13.trans (hb4.mono hb13.size)
        clear L1 L2 hb12 hb3 hb13 hb4
        go_wp2_with fail
        go_ret2
        exact ⟨rfl, hb14⟩
      · simp only [Bool.false_or, if_true]
        go_enter Try.func75, Try.ntmps75
        go_wp2_with fail
        refine P.mono ?_
        clear P
        rintro e w1 ⟨rfl, hb1⟩
        have y1 := (hb1.cell (p := ⟨pw, 0, none⟩) lpw).trans hc
        go_wp2_with fail
        refine (HK.out w1 hb1).mono ?_
        rintro e w2 ⟨d1, f1, d2, f2, rfl, L1, L2, hb2⟩
        have hb12 := hb1.trans (hb2.mono hb1.size)
        clear y1 hb1 hb2 HK
        go_wp2_with fail
        refine (L1.out w2 (Below.refl _ _)).mono ?_
        rintro e w3 ⟨rfl, hb3⟩
        have hb13 := hb12.trans (hb3.mono hb12.size)
        go_wp2_with fail
        refine (L2.out w3 hb3).mono ?_
        rintro e w4 ⟨rfl, hb4⟩
        have hb14 := hb13.trans (hb4.mono hb13.size)
        clear L1 L2 hb12 hb3 hb13 hb4
        go_wp2_with fail
        go_ret2
        exact ⟨rfl, hb14⟩
    · simp only [Bool.true_or, if_true]
      go_enter Try.func75, Try.ntmps75
      go_wp2_with fail
      refine P.mono ?_
      clear P
      rintro e w1 ⟨rfl, hb1⟩
      have y1 := (hb1.cell (p := ⟨pw, 0, none⟩) lpw).trans hc
      go_wp2_with fail
      refine (HK.out w1 hb1).mono ?_
      rintro e w2 ⟨d1, f1, d2, f2, rfl, L1, L2, hb2⟩
      have hb12 := hb1.trans (hb2.mono hb1.size)
      clear y1 hb1 hb2 HK
      go_wp2_with fail
      refine (L1.out w2 (Below.refl _ _)).mono ?_
      rintro e w3 ⟨rfl, hb3⟩
      have hb13 := hb12.trans (hb3.mono hb12.size)
      clear L1 L2 hb12 hb3
      go_wp2_with fail
      go_ret2
      exact ⟨rfl, hb13⟩

end Go.Proofs.Ytglddgjljohkiab
