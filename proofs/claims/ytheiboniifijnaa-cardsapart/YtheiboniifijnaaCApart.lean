/- CardsApart's walk: it returns true at whatever numbers, in whatever memory; nothing that was in memory turns. -/
import Derived.Test.YtheiboniifijnaaCd2
namespace Go.Proofs.Ytheiboniifijnaa.CApart
open Go.RowKit W

theorem one_has (k j : Int) : [k].contains j = decide (j = k) := by
  by_cases e : j = k <;> simp [e]

set_option maxRecDepth 100000 in
set_option maxHeartbeats 2000000 in
theorem walk (B x a b : Int) (w : World) :
    Calls Try.prog 11 #[.int .i64 B, .int .i64 x, .int .i64 a, .int .i64 b] w fun e w' => e = .returned (.bool true) ∧ Below w.heap.size w w' := by
  by_cases hno : B < 0 ∨ 100000 < B ∨ x < 0 ∨ 5000 < x ∨ a < 0 ∨ 1099511627776 < a ∨ b < 0 ∨ 1099511627776 < b
  · go_enter Try.func11, Try.ntmps11
    go_wp2_with fail
    refine (begunCards_any _).mono ?_
    rintro e w1 ⟨rfl, hb1⟩
    go_wp2_with fail
    all_goals
      go_ret
      exact ⟨rfl, hb1⟩
  have hB : 0 ≤ B := by omega
  have hB' : B ≤ 100000 := by omega
  have hx : 0 ≤ x := by omega
  have hx' : x ≤ 5000 := by omega
  have ha : 0 ≤ a := by omega
  have ha' : a ≤ 1099511627776 := by omega
  have hb : 0 ≤ b := by omega
  have hb' : b ≤ 1099511627776 := by omega
  clear hno
  go_enter Try.func11, Try.ntmps11
  go_wp2_with fail
  refine (begunCards_any _).mono ?_
  rintro e w1 ⟨rfl, hb1⟩
  go_wp2_with fail
  refine (newC_any B x _ (by omega)).mono ?_
  rintro e w2 ⟨p, q, rfl, h2, hp, hq, hb2⟩
  have hp' : w.heap.size ≤ p := Nat.le_trans hb1.size hp
  have hq' : w.heap.size ≤ q := Nat.le_trans hb1.size hq
  have hB2 : Below w.heap.size w w2 := hb1.trans (hb2.mono hb1.size)
  generalize nC x = c at h2
  clear hp hq hb1 hb2 hx hx'
  go_wp2_with fail
  refine (mark_any a _ h2 hB hB' (by omega) (by decide)).mono ?_
  rintro e w3 ⟨rfl, h3, s3⟩
  have hB3 := hB2.trans (s3.below hB2.size hp' hq')
  clear hB2 h2 s3
  cases hc : cB B c a
  · rw [mkM_no hc] at h3
    go_wp2_with fail
    refine (dirty_any a _ h3 hB hB' (by omega)).mono ?_
    rintro e w4 ⟨rfl, hb4⟩
    have h4 := h3.below hb4 (Nat.le_refl _)
    have hB4 := hB3.trans (hb4.mono hB3.size)
    clear h3 hB3 hb4
    rw [hc, Bool.false_and]
    go_wp2_with fail
    refine (count_any _ h4).mono ?_
    rintro e w5 ⟨rfl, hw5⟩
    have hw5 := hw5.symm
    subst hw5
    go_wp2_with fail
    refine (dirty_any b _ h4 hB hB' (by omega)).mono ?_
    rintro e w6 ⟨rfl, hb6⟩
    have h6 := h4.below hb6 (Nat.le_refl _)
    have hB6 := hB4.trans (hb6.mono hB4.size)
    clear h4 hB4 hb6
    have e1 : (cB B c b && ([] : List Int).contains (cN B b)) = false := by simp
    rw [e1]
    clear e1
    go_wp2_with fail
    go_loopw [12, 13] (fun n i wr => ∃ k : Nat, k ≤ 8 ∧ i = .int .i64 k ∧ n = .int .i64 0 ∧ Cd wr p q B c [] ∧ Below w.heap.size w wr) (fun _ i _ => 8 - (intOf i).toNat)
    case atStart => exact ⟨0, Nat.zero_le _, rfl, rfl, h6, hB6⟩
    case round =>
      clear h6 hB6
      obtain ⟨k, hk, rfl, rfl, hA, hBb⟩ := hrel
      by_cases hlt : k < 8
      · go_wp2_with fail
        refine (dirty_any (b + k) _ hA hB hB' (by omega)).mono ?_
        rintro e w7 ⟨rfl, hb7⟩
        have h7 := hA.below hb7 (Nat.le_refl _)
        have hB7 := hBb.trans (hb7.mono hBb.size)
        have e1 : (cB B c (b + k) && ([] : List Int).contains (cN B (b + k))) = false := by simp
        rw [e1]
        clear e1 hb7
        go_wp2_with fail
        go_roundw
        case rel => exact ⟨k + 1, by omega, by go_num, rfl, h7, hB7⟩
        case measure => simp [intOf]; omega
      · go_wp2_with fail
        go_ret
        exact ⟨rfl, hBb⟩
  · rw [mkM_yes hc] at h3
    have e0 : addM [] (cN B a) = [cN B a] := rfl
    rw [e0] at h3
    clear e0
    have hca : B ≤ a ∧ (a - B) / 8 < c := by
      have h := hc
      unfold cB at h
      simpa using h
    have ecN : cN B a = (a - B) / 8 := by unfold cN; rw [if_neg (by omega)]
    go_wp2_with fail
    refine (dirty_any a _ h3 hB hB' (by omega)).mono ?_
    rintro e w4 ⟨rfl, hb4⟩
    have h4 := h3.below hb4 (Nat.le_refl _)
    have hB4 := hB3.trans (hb4.mono hB3.size)
    clear h3 hB3 hb4
    have e1 : (cB B c a && [cN B a].contains (cN B a)) = true := by rw [hc, one_has]; simp
    rw [e1]
    clear e1
    go_wp2_with fail
    refine (count_any _ h4).mono ?_
    rintro e w5 ⟨rfl, hw5⟩
    have hw5 := hw5.symm
    subst hw5
    by_cases hbB : b < B
    · go_wp2_with fail
      refine (dirty_any b _ h4 hB hB' (by omega)).mono ?_
      rintro e w6 ⟨rfl, hb6⟩
      have h6 := h4.below hb6 (Nat.le_refl _)
      have hB6 := hB4.trans (hb6.mono hB4.size)
      clear h4 hB4 hb6
      have e1 : (cB B c b && [cN B a].contains (cN B b)) = false := by
        unfold cB
        rw [decide_eq_false (by omega)]
        rfl
      rw [e1]
      clear e1
      go_wp2_with fail
      go_loopw [12, 13] (fun n i wr => ∃ k m : Nat, k ≤ 8 ∧ m ≤ k ∧ i = .int .i64 k ∧ n = .int .i64 m ∧ Cd wr p q B c [cN B a] ∧ Below w.heap.size w wr) (fun _ i _ => 8 - (intOf i).toNat)
      case atStart => exact ⟨0, 0, Nat.zero_le _, Nat.le_refl _, rfl, rfl, h6, hB6⟩
      case round =>
        clear h6 hB6
        obtain ⟨k, m, hk, hmk, rfl, rfl, hA, hBb⟩ := hrel
        by_cases hlt : k < 8
        · go_wp2_with fail
          refine (dirty_any (b + k) _ hA hB hB' (by omega)).mono ?_
          rintro e w7 ⟨rfl, hb7⟩
          have h7 := hA.below hb7 (Nat.le_refl _)
          have hB7 := hBb.trans (hb7.mono hBb.size)
          cases (cB B c (b + k) && [cN B a].contains (cN B (b + k)))
          · go_wp2_with fail
            go_roundw
            case rel => exact ⟨k + 1, m, by omega, by omega, by go_num, rfl, h7, hB7⟩
            case measure => simp [intOf]; omega
          · go_wp2_with fail
            go_roundw
            case rel => exact ⟨k + 1, m + 1, by omega, by omega, by go_num, by go_num, h7, hB7⟩
            case measure => simp [intOf]; omega
        · go_wp2_with fail
          all_goals
            go_ret
            exact ⟨rfl, hBb⟩
    · have hbB' : B ≤ b := by omega
      by_cases hsame : (b - B) / 8 = (a - B) / 8
      · go_wp2_with fail
        refine (dirty_any b _ h4 hB hB' (by omega)).mono ?_
        rintro e w6 ⟨rfl, hb6⟩
        have h6 := h4.below hb6 (Nat.le_refl _)
        have hB6 := hB4.trans (hb6.mono hB4.size)
        clear h4 hB4 hb6
        have e1 : (cB B c b && [cN B a].contains (cN B b)) = true := by
          have ec : cN B b = (b - B) / 8 := by unfold cN; rw [if_neg (by omega)]
          unfold cB
          rw [one_has, ec, ecN, decide_eq_true hbB', decide_eq_true hsame, decide_eq_true (by omega)]
          rfl
        rw [e1]
        clear e1
        go_wp2_with fail
        clear hsame
        go_loopw [12, 13] (fun n i wr => ∃ k m : Nat, k ≤ 8 ∧ m ≤ k ∧ i = .int .i64 k ∧ n = .int .i64 m ∧ Cd wr p q B c [cN B a] ∧ Below w.heap.size w wr) (fun _ i _ => 8 - (intOf i).toNat)
        case atStart => exact ⟨0, 0, Nat.zero_le _, Nat.le_refl _, rfl, rfl, h6, hB6⟩
        case round =>
          clear h6 hB6
          obtain ⟨k, m, hk, hmk, rfl, rfl, hA, hBb⟩ := hrel
          by_cases hlt : k < 8
          · go_wp2_with fail
            refine (dirty_any (b + k) _ hA hB hB' (by omega)).mono ?_
            rintro e w7 ⟨rfl, hb7⟩
            have h7 := hA.below hb7 (Nat.le_refl _)
            have hB7 := hBb.trans (hb7.mono hBb.size)
            cases (cB B c (b + k) && [cN B a].contains (cN B (b + k)))
            · go_wp2_with fail
              go_roundw
              case rel => exact ⟨k + 1, m, by omega, by omega, by go_num, rfl, h7, hB7⟩
              case measure => simp [intOf]; omega
            · go_wp2_with fail
              go_roundw
              case rel => exact ⟨k + 1, m + 1, by omega, by omega, by go_num, by go_num, h7, hB7⟩
              case measure => simp [intOf]; omega
          · go_wp2_with fail
            all_goals
              go_ret
              exact ⟨rfl, hBb⟩
      · go_wp2_with fail
        refine (dirty_any b _ h4 hB hB' (by omega)).mono ?_
        rintro e w6 ⟨rfl, hb6⟩
        have h6 := h4.below hb6 (Nat.le_refl _)
        have hB6 := hB4.trans (hb6.mono hB4.size)
        clear h4 hB4 hb6
        have e1 : (cB B c b && [cN B a].contains (cN B b)) = false := by
          have ec : cN B b = (b - B) / 8 := by unfold cN; rw [if_neg (by omega)]
          rw [one_has, ec, ecN, decide_eq_false hsame]
          exact Bool.and_false _
        rw [e1]
        clear e1
        go_wp2_with fail
        clear hsame
        generalize ((b - B) / 8 == (a - B) / 8) = sm
        go_loopw [12, 13] (fun n i wr => ∃ k m : Nat, k ≤ 8 ∧ m ≤ k ∧ i = .int .i64 k ∧ n = .int .i64 m ∧ Cd wr p q B c [cN B a] ∧ Below w.heap.size w wr) (fun _ i _ => 8 - (intOf i).toNat)
        case atStart => exact ⟨0, 0, Nat.zero_le _, Nat.le_refl _, rfl, rfl, h6, hB6⟩
        case round =>
          clear h6 hB6
          obtain ⟨k, m, hk, hmk, rfl, rfl, hA, hBb⟩ := hrel
          by_cases hlt : k < 8
          · go_wp2_with fail
            refine (dirty_any (b + k) _ hA hB hB' (by omega)).mono ?_
            rintro e w7 ⟨rfl, hb7⟩
            have h7 := hA.below hb7 (Nat.le_refl _)
            have hB7 := hBb.trans (hb7.mono hBb.size)
            cases (cB B c (b + k) && [cN B a].contains (cN B (b + k)))
            · go_wp2_with fail
              go_roundw
              case rel => exact ⟨k + 1, m, by omega, by omega, by go_num, rfl, h7, hB7⟩
              case measure => simp [intOf]; omega
            · go_wp2_with fail
              go_roundw
              case rel => exact ⟨k + 1, m + 1, by omega, by omega, by go_num, by go_num, h7, hB7⟩
              case measure => simp [intOf]; omega
          · go_wp2_with fail
            all_goals
              go_ret
              exact ⟨rfl, hBb⟩

end Go.Proofs.Ytheiboniifijnaa.CApart
