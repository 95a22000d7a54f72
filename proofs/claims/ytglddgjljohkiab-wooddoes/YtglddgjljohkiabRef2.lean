/- What the document's answers on words that ask others (ValOf, HeadOf, PartsOf) return at whatever numbers: contracts, over the seat's own translation; nothing that was in memory turns. -/
import Derived.Test.YtglddgjljohkiabRef
namespace Go.Proofs.Ytglddgjljohkiab
open Go.RowKit W

set_option maxRecDepth 100000 in
set_option maxHeartbeats 400000 in
theorem fits_any (k f : Int) (w : World) :
    Calls Try.prog 39 #[.int .i64 k, .int .i64 f] w fun e w' => e = .returned (.int .i64 (hc k f)) ∧ w' = w := by
  by_cases h : hc k f = 0
  · rw [h]
    rcases hc_yes k f h with ⟨rfl, rfl⟩ | ⟨rfl, rfl⟩ | ⟨rfl, rfl⟩ | ⟨rfl, h1, h2⟩ | ⟨rfl, rfl⟩
    all_goals
      clear h
      go_enter Try.func39, Try.ntmps39
      go_wp2
      go_ret
      exact ⟨rfl, rfl⟩
  · rcases hc_no k f h with e | ⟨h1, h2, h3, h4, h5⟩
    · rw [hc_1 k f e]
      clear h
      rcases e with ⟨rfl, h⟩ | ⟨rfl, h⟩ | ⟨rfl, h⟩ | ⟨rfl, h⟩ | ⟨rfl, h⟩ | ⟨rfl, h⟩ | ⟨rfl, h⟩ | ⟨rfl, h⟩ | ⟨rfl, h⟩ | ⟨rfl, h⟩
      all_goals
        go_enter Try.func39, Try.ntmps39
        go_wp2
        go_ret
        exact ⟨rfl, rfl⟩
    · rw [hc_2 k f h1 h2 h3 h4 h5]
      clear h
      go_enter Try.func39, Try.ntmps39
      go_wp2
      go_ret
      exact ⟨rfl, rfl⟩

set_option maxRecDepth 100000 in
set_option maxHeartbeats 400000 in
theorem headOf_any (k f : Int) (w : World) :
    Calls Try.prog 61 #[.int .i64 k, .int .i64 f] w fun e w' => e = .returned (.tuple #[.int .i64 (hw k f), .int .i64 (hc k f)]) ∧ w' = w := by
  by_cases h : hc k f = 0
  · rw [hw_yes k f h, h]
    obtain ⟨b1, b2, b3, b4⟩ := hc_bd k f h
    have H : Hid (hc k f = 0) := h
    clear h
    go_enter Try.func61, Try.ntmps61
    go_wp2_with fail
    refine (fits_any k f _).mono ?_
    rintro e w1 ⟨rfl, rfl⟩
    rw [H.out]
    go_wp2_with fail
    go_ret2
    exact ⟨rfl, rfl⟩
  · rw [hw_no k f h]
    have t : (hc k f != 0) = true := by simpa using h
    clear h
    go_enter Try.func61, Try.ntmps61
    go_wp2_with fail
    refine (fits_any k f _).mono ?_
    rintro e w1 ⟨rfl, rfl⟩
    go_wp2_with fail
    go_ret2
    exact ⟨rfl, rfl⟩

theorem no_match (h : Int) (c : hc (h % 16) (h / 16) ≠ 0) (k n : Int) (hk : hc k n = 0) : hw k n ≠ h := by
  have b := hc_bd k n hk
  rw [hw_yes k n hk]
  intro e
  have e1 : h % 16 = k := by omega
  have e2 : h / 16 = n := by omega
  rw [e1, e2] at c
  exact c hk

theorem one_match (h : Int) (k n : Int) (hk : hc k n = 0) (e : hw k n = h) : k = h % 16 ∧ n = h / 16 := by
  have b := hc_bd k n hk
  rw [hw_yes k n hk] at e
  omega

set_option maxRecDepth 100000 in
set_option maxHeartbeats 1000000 in
theorem partsOf_no (h : Int) (w : World) (c : hc (h % 16) (h / 16) ≠ 0) :
    Calls Try.prog 67 #[.int .i64 h] w fun e w' => e = .returned (.tuple #[.int .i64 0, .int .i64 0, .int .i64 7]) ∧ w' = w := by
  have C : Hid (hc (h % 16) (h / 16) ≠ 0) := c
  clear c
  go_enter Try.func67, Try.ntmps67
  go_wp2
  go_loop [5] (fun t => ∃ q : Nat, 1 ≤ q ∧ q ≤ 6 ∧ t = .int .i64 q) (fun t => 6 - (intOf t).toNat)
  case atStart => exact ⟨1, by omega, by omega, rfl⟩
  case round =>
    obtain ⟨q, q1, q2, rfl⟩ := hrel
    by_cases hq : q ≤ 5
    · go_wp2
      go_loop [6] (fun t => ∃ m : Nat, m ≤ 13 ∧ t = .int .i64 m) (fun t => 13 - (intOf t).toNat)
      case atStart => exact ⟨0, by omega, rfl⟩
      case round =>
        obtain ⟨m, m2, rfl⟩ := hrel
        by_cases hm : m ≤ 12
        · by_cases z : hc q m = 0
          · have t1 : (hc (q : Int) (m : Int) == 0) = true := by simpa using z
            have t2 : (hw (q : Int) (m : Int) == h) = false := by simpa using no_match h C.out q m z
            clear z
            go_wp2_with (go_at_call 61; refine (headOf_any _ _ _).mono ?_; rintro e w' ⟨rfl, rfl⟩)
            go_round
            case rel => exact ⟨m + 1, by omega, by go_num⟩
            case measure => simp [intOf]; omega
          · have t1 : (hc (q : Int) (m : Int) == 0) = false := by simpa using z
            clear z
            go_wp2_with (go_at_call 61; refine (headOf_any _ _ _).mono ?_; rintro e w' ⟨rfl, rfl⟩)
            go_round
            case rel => exact ⟨m + 1, by omega, by go_num⟩
            case measure => simp [intOf]; omega
        · go_wp2
          go_round
          case rel => exact ⟨q + 1, by omega, by omega, by go_num⟩
          case measure => simp [intOf]; omega
    · go_wp2
      go_ret3
      exact ⟨rfl, rfl⟩

set_option maxRecDepth 100000 in
set_option maxHeartbeats 1000000 in
theorem partsOf_yes (K F : Nat) (w : World) (c : hc K F = 0) :
    Calls Try.prog 67 #[.int .i64 (16 * (F : Int) + K)] w fun e w' => e = .returned (.tuple #[.int .i64 K, .int .i64 F, .int .i64 0]) ∧ w' = w := by
  obtain ⟨b1, b2, b3, b4⟩ := hc_bd K F c
  have C : Hid (hc K F = 0) := c
  clear c
  go_enter Try.func67, Try.ntmps67
  go_wp2
  go_loop [5] (fun t => ∃ q : Nat, 1 ≤ q ∧ q ≤ K ∧ t = .int .i64 q) (fun t => 6 - (intOf t).toNat)
  case atStart => exact ⟨1, by omega, by omega, rfl⟩
  case round =>
    obtain ⟨q, q1, q2, rfl⟩ := hrel
    have q5 : q ≤ 5 := by omega
    go_wp2
    go_loop [6] (fun t => ∃ m : Nat, m ≤ 13 ∧ (q = K → m ≤ F) ∧ t = .int .i64 m) (fun t => 13 - (intOf t).toNat)
    case atStart => exact ⟨0, by omega, fun _ => by omega, rfl⟩
    case round =>
      obtain ⟨m, m2, m3, rfl⟩ := hrel
      have M3 : Hid (q = K → m ≤ F) := m3
      clear m3
      by_cases hm : m ≤ 12
      · by_cases hit : q = K ∧ m = F
        · obtain ⟨rfl, rfl⟩ := hit
          have t1 : (hc (q : Int) (m : Int) == 0) = true := by simpa using C.out
          have t2 : (hw (q : Int) (m : Int) == 16 * (m : Int) + q) = true := by rw [hw_yes _ _ C.out]; simp
          go_wp2_with (go_at_call 61; refine (headOf_any _ _ _).mono ?_; rintro e w' ⟨rfl, rfl⟩)
          go_ret3
          exact ⟨rfl, rfl⟩
        · have N : Hid (q = K → m + 1 ≤ F) := fun e => by have := M3.out e; omega
          by_cases z : hc q m = 0
          · have t1 : (hc (q : Int) (m : Int) == 0) = true := by simpa using z
            have t2 : (hw (q : Int) (m : Int) == 16 * (F : Int) + K) = false := by
              have h1 := one_match (16 * (F : Int) + K) q m z
              simp only [beq_eq_false_iff_ne]
              intro e
              have := h1 e
              omega
            clear z hit
            go_wp2_with (go_at_call 61; refine (headOf_any _ _ _).mono ?_; rintro e w' ⟨rfl, rfl⟩)
            go_round
            case rel => exact ⟨m + 1, by omega, N.out, by go_num⟩
            case measure => simp [intOf]; omega
          · have t1 : (hc (q : Int) (m : Int) == 0) = false := by simpa using z
            clear z hit
            go_wp2_with (go_at_call 61; refine (headOf_any _ _ _).mono ?_; rintro e w' ⟨rfl, rfl⟩)
            go_round
            case rel => exact ⟨m + 1, by omega, N.out, by go_num⟩
            case measure => simp [intOf]; omega
      · have lt : q + 1 ≤ K := by
          by_cases e : q = K
          · have := M3.out e; omega
          · omega
        go_wp2
        go_round
        case rel => exact ⟨q + 1, by omega, lt, by go_num⟩
        case measure => simp [intOf]; omega

theorem partsOf_any (h : Int) (w : World) :
    Calls Try.prog 67 #[.int .i64 h] w fun e w' => e = .returned (.tuple #[.int .i64 (pk h), .int .i64 (pf h), .int .i64 (pc h)]) ∧ w' = w := by
  by_cases c : hc (h % 16) (h / 16) = 0
  · have e1 : pk h = h % 16 := by unfold pk; rw [if_pos c]
    have e2 : pf h = h / 16 := by unfold pf; rw [if_pos c]
    have e3 : pc h = 0 := by unfold pc; rw [if_pos c]
    rw [e1, e2, e3]
    have b := hc_bd _ _ c
    obtain ⟨K, hK⟩ := Int.eq_ofNat_of_zero_le (show 0 ≤ h % 16 by omega)
    obtain ⟨F, hF⟩ := Int.eq_ofNat_of_zero_le (show 0 ≤ h / 16 by omega)
    have e : h = 16 * (F : Int) + K := by omega
    rw [hK, hF] at c
    rw [hK, hF, e]
    exact partsOf_yes K F w c
  · have e1 : pk h = 0 := by unfold pk; rw [if_neg c]
    have e2 : pf h = 0 := by unfold pf; rw [if_neg c]
    have e3 : pc h = 7 := by unfold pc; rw [if_neg c]
    rw [e1, e2, e3]
    exact partsOf_no h w c

end Go.Proofs.Ytglddgjljohkiab
