/- ArenaMoves' walk: it returns true at whatever spaces, words and places, in whatever memory; nothing that was in memory turns. -/
import Derived.Test.YtheiboniifijnaaOpens
namespace Go.Proofs.Ytheiboniifijnaa.Moves
open Go.RowKit W

theorem splice_get (ws : List Int) (t f n i : Nat) (h1 : t + n ≤ ws.length) (h2 : f + n ≤ ws.length) :
    (splice ws t ((ws.drop f).take n)).getD i 0 = if t ≤ i ∧ i < t + n then ws.getD (f + i - t) 0 else ws.getD i 0 := by
  have hl : ((ws.drop f).take n).length = n := by simp; omega
  unfold splice
  rw [hl]
  simp only [List.getD_eq_getElem?_getD]
  by_cases c : i < t
  · rw [List.getElem?_append_left (by simp; omega), if_neg (by omega), List.getElem?_take_of_lt c]
  · have e1 : (ws.take t).length = t := by simp; omega
    rw [List.getElem?_append_right (by omega), e1]
    by_cases c2 : i < t + n
    · rw [if_pos (by omega), List.getElem?_append_left (by omega), List.getElem?_take_of_lt (by omega), List.getElem?_drop, show f + (i - t) = f + i - t by omega]
    · rw [if_neg (by omega), List.getElem?_append_right (by omega), hl, List.getElem?_drop, show t + n + (i - t - n) = i by omega]

theorem umod (x a : Int) (ha : 0 < a) (hb : a ≤ 100000) : ∃ T : Nat, wrap64 ((IntKind.u64.wrap x).tmod a) = T ∧ (T : Int) < a := by
  have h0 : 0 ≤ IntKind.u64.wrap x := by rw [IntKind.wrap_u64]; omega
  rw [Int.tmod_eq_emod_of_nonneg h0]
  have h1 := Int.emod_nonneg (IntKind.u64.wrap x) (show a ≠ 0 by omega)
  have h2 := Int.emod_lt_of_pos (IntKind.u64.wrap x) ha
  obtain ⟨T, hT⟩ := Int.eq_ofNat_of_zero_le h1
  refine ⟨T, ?_, by omega⟩
  rw [hT]
  exact IntWalk.wrap64_in _ ⟨by omega, by omega⟩

/-- How many words of the nursery are in use, by the memory. -/
def yOf (w : World) (p : Nat) : Nat := match w.cell? ⟨p, 3, none⟩ with
  | some v => (intOf v).toNat
  | none => 0
theorem yOf_at {w : World} {p q N O y g : Nat} {ws : List Int} (h : At w p q N O y g ws) : yOf w p = y := by
  obtain ⟨_, _, _, c3, _⟩ := h.cells
  simp [yOf, c3, intOf]

set_option maxRecDepth 100000 in
set_option maxHeartbeats 2000000 in
theorem walk (n o : Int) (ad : Option Addr) (len cap : Nat) (S : Nat → Int) (t f m : Int) (w : World) (hst : IsWords w ad len S) :
    Calls Try.prog 8 #[.int .i64 n, .int .i64 o, .slice ad len cap, .int .i64 t, .int .i64 f, .int .i64 m] w fun e w' => e = .returned (.bool true) ∧ Below w.heap.size w w' := by
  by_cases hno : n < 16 ∨ 256 < n ∨ o < 0 ∨ 1024 < o
  · go_enter Try.func8, Try.ntmps8
    go_wp2_with fail
    refine (begun_any _).mono ?_
    rintro e w1 ⟨rfl, hb1⟩
    go_wp2_with fail
    refine (new_no n o _ hno).mono ?_
    rintro e w2 ⟨rfl, hb2⟩
    go_wp2_with fail
    go_ret
    exact ⟨rfl, (hb1.trans (hb2.mono hb1.size)).alloc (Nat.le_trans hb1.size hb2.size) _⟩
  obtain ⟨N, hN⟩ := Int.eq_ofNat_of_zero_le (show 0 ≤ n by omega)
  obtain ⟨O, hO⟩ := Int.eq_ofNat_of_zero_le (show 0 ≤ o by omega)
  subst hN hO
  by_cases hlen : 2000 < len
  · go_enter Try.func8, Try.ntmps8
    go_wp2_with fail
    refine (begun_any _).mono ?_
    rintro e w1 ⟨rfl, hb1⟩
    go_wp2_with fail
    refine (new_yes N O _ (by omega) (by omega) (by omega) (by omega)).mono ?_
    rintro e w2 ⟨p, q, rfl, h2, hp, hq, hb2⟩
    go_wp2_with fail
    go_ret
    exact ⟨rfl, (hb1.trans (hb2.mono hb1.size)).alloc (Nat.le_trans hb1.size hb2.size) _⟩
  go_enter Try.func8, Try.ntmps8
  go_wp2_with fail
  refine (begun_any _).mono ?_
  rintro e w1 ⟨rfl, hb1⟩
  go_wp2_with fail
  refine (new_yes N O _ (by omega) (by omega) (by omega) (by omega)).mono ?_
  rintro e w2 ⟨p, q, rfl, h2, hp, hq, hb2⟩
  simp only [Int.toNat_natCast] at h2
  have hp' : w.heap.size ≤ p := Nat.le_trans hb1.size hp
  have hq' : w.heap.size ≤ q := Nat.le_trans hb1.size hq
  have hB2 : Below w.heap.size w w2 := hb1.trans (hb2.mono hb1.size)
  clear hp hq hb1 hb2
  go_wp2_with fail
  go_loopw [38] (fun _ wr => ∃ (y : Nat) (ws : List Int), At wr p q N O y 0 ws ∧ Below w.heap.size w wr) (fun _ wr => N - yOf wr p)
  case atStart => exact ⟨0, _, h2.alloc _, hB2.alloc hB2.size _⟩
  case round =>
    obtain ⟨y, ws, hA, hB⟩ := hrel
    have hy := yOf_at hA
    have k2 := hA.hy
    by_cases hlt : y < N
    · go_wp2_with fail
      refine (make_yes 5 0 _ hA (by decide +kernel) (by omega)).mono ?_
      rintro e w3 ⟨rfl, h3, s3⟩
      have hy3 := yOf_at h3
      go_wp2_with fail
      go_roundw
      case rel => exact ⟨_, _, h3, hB.trans (s3.below hB.size hp' hq')⟩
      case measure => rw [hy, hy3]; simp; omega
    · go_wp2_with fail
      refine (make_no 5 0 _ hA (Or.inr (by omega))).mono ?_
      rintro e w3 ⟨rfl, hb3⟩
      obtain rfl : N = y := by omega
      have h3 := hA.below hb3 (Nat.le_refl _)
      have hB3 := hB.trans (hb3.mono hB.size)
      clear hA hB hb3 hy h2 hB2 hlt
      go_wp2_with fail
      go_loopw [15] (fun i wr => ∃ (k : Nat) (ws : List Int), k ≤ len ∧ i = .int .i64 k ∧ At wr p q N O N 0 ws ∧ Below w.heap.size w wr) (fun i _ => len - (intOf i).toNat)
      case atStart => exact ⟨0, _, Nat.zero_le _, rfl, h3, hB3⟩
      case round =>
        clear h3 hB3
        obtain ⟨k, ws, hk, rfl, hA, hB⟩ := hrel
        by_cases hlt : k < len
        · obtain ⟨b, of, rfl, hbl, hcs⟩ := hst (by omega)
          have y0 := (hB.cell (p := ⟨b, of + k, none⟩) hbl).trans (hcs k hlt)
          generalize S k = x at y0
          clear hcs hst
          go_wp2_with fail
          refine (store_any k x _ hA).mono ?_
          rintro e w4 ⟨rfl, h4, s4⟩
          go_wp2_with fail
          go_roundw
          case rel => exact ⟨k + 1, _, by omega, by go_num, h4, hB.trans (s4.below hB.size hp' hq')⟩
          case measure => simp [intOf]; omega
        · have hl := hA.hl
          have k1 := hA.hN'
          have k0 := hA.hN
          have k3 := hA.hO
          clear hst
          go_wp2_with fail
          go_quiet (fail)
          obtain ⟨T, hT, hT'⟩ := umod t ((N : Int) + O) (by omega) (by omega)
          obtain ⟨F, hF, hF'⟩ := umod f ((N : Int) + O) (by omega) (by omega)
          have HT : Hid (wrap64 ((IntKind.u64.wrap t).tmod ((N : Int) + O)) = T) := hT
          have HF : Hid (wrap64 ((IntKind.u64.wrap f).tmod ((N : Int) + O)) = F) := hF
          clear hT hF
          rw [HT.out, HF.out]
          by_cases hTF : F ≤ T
          · go_wp2_with fail
            obtain ⟨M, hM, hM'⟩ := umod m ((N : Int) + O - T + 1) (by omega) (by omega)
            have HM : Hid (wrap64 ((IntKind.u64.wrap m).tmod ((N : Int) + O - T + 1)) = M) := hM
            clear hM
            rw [HM.out]
            have hA1 := hA.below (below_drewN (Below.refl wr.heap.size wr) nq) (Nat.le_refl _)
            have hB1 := below_drewN hB nq
            refine (words_any _ hA1).mono ?_
            rintro e w4 ⟨b1, cap1, rfl, hb1, hc1, hb4⟩
            have h4 := hA1.below hb4 (Nat.le_refl _)
            have hB4 := hB1.trans (hb4.mono hB1.size)
            have lb1 : b1 < w4.heap.size := World.block_lt_of_cell? w4 (⟨b1, 0, none⟩ : Addr) (hc1 0 (by omega))
            have np : b1 ≠ p := by have := hA1.ltp; omega
            have nq' : b1 ≠ q := by have := hA1.ltq; omega
            have HC1 : Hid (∀ i, i < N + O → w4.cell? ⟨b1, i, none⟩ = some (.int .i64 (ws.getD i 0))) := hc1
            clear hA hB hA1 hB1 hb4 hc1 hb1
            go_wp2_with fail
            refine (move_any T F M _ h4 (by omega) (by omega)).mono ?_
            rintro e w5 ⟨rfl, h5, s5⟩
            have hB5 := hB4.trans (s5.below hB4.size hp' hq')
            have HC1 : Hid (∀ i, i < N + O → w5.cell? ⟨b1, i, none⟩ = some (.int .i64 (ws.getD i 0))) := fun i hi => (World.cell?_of_block (a := ⟨b1, i, none⟩) (s5.block b1 lb1 np nq')).trans (HC1.out i hi)
            have lb1 : b1 < w5.heap.size := Nat.lt_of_lt_of_le lb1 s5.size
            clear h4 hB4 s5
            go_wp2_with fail
            refine (words_any _ h5).mono ?_
            rintro e w6 ⟨b2, cap2, rfl, hb2, hc2, hb6⟩
            have hB6 := hB5.trans (hb6.mono hB5.size)
            have HC1 : Hid (∀ i, i < N + O → w6.cell? ⟨b1, i, none⟩ = some (.int .i64 (ws.getD i 0))) := fun i hi => (hb6.cell (p := ⟨b1, i, none⟩) lb1).trans (HC1.out i hi)
            have HC2 : Hid (∀ i, i < N + O → w6.cell? ⟨b2, i, none⟩ = some (.int .i64 (if T ≤ i ∧ i < T + M then ws.getD (F + i - T) 0 else ws.getD i 0))) := fun i hi => by rw [hc2 i hi, splice_get ws T F M i (by omega) (by omega)]
            clear hc2 h5 hB5 hb6 hb2
            go_wp2_with fail
            go_loop [19, 20] (fun i _ => ∃ k : Nat, k ≤ N + O ∧ i = .int .i64 k) (fun i _ => N + O - (intOf i).toNat)
            case atStart => exact ⟨0, Nat.zero_le _, rfl⟩
            case round =>
              obtain ⟨j, hj, rfl⟩ := hrel
              by_cases hlt2 : j < N + O
              · have hji : (j : Int) < (N : Int) + O := by omega
                have x1 := HC1.out j hlt2
                have x2 := HC2.out j hlt2
                by_cases hin : T ≤ j ∧ j < T + M
                · obtain ⟨i1, i2⟩ := hin
                  rw [if_pos ⟨i1, i2⟩] at x2
                  have x3 := HC1.out (F + j - T) (by omega)
                  generalize ws.getD (F + j - T) 0 = v3 at x2 x3
                  generalize ws.getD j 0 = v1 at x1
                  go_wp2_with fail
                  go_round
                  case rel => exact ⟨j + 1, by omega, by go_num⟩
                  case measure => simp [intOf]; omega
                · rw [if_neg hin] at x2
                  generalize ws.getD j 0 = v1 at x1 x2
                  have hin' : j < T ∨ T + M ≤ j := by omega
                  clear hin
                  rcases hin' with i1 | i1
                  · go_wp2_with fail
                    go_round
                    case rel => exact ⟨j + 1, by omega, by go_num⟩
                    case measure => simp [intOf]; omega
                  · go_wp2_with fail
                    go_round
                    case rel => exact ⟨j + 1, by omega, by go_num⟩
                    case measure => simp [intOf]; omega
              · go_wp2_with fail
                go_ret
                exact ⟨rfl, hB6⟩
          · go_wp2_with fail
            obtain ⟨M, hM, hM'⟩ := umod m ((N : Int) + O - F + 1) (by omega) (by omega)
            have HM : Hid (wrap64 ((IntKind.u64.wrap m).tmod ((N : Int) + O - F + 1)) = M) := hM
            clear hM
            rw [HM.out]
            have hA1 := hA.below (below_drewN (Below.refl wr.heap.size wr) nq) (Nat.le_refl _)
            have hB1 := below_drewN hB nq
            refine (words_any _ hA1).mono ?_
            rintro e w4 ⟨b1, cap1, rfl, hb1, hc1, hb4⟩
            have h4 := hA1.below hb4 (Nat.le_refl _)
            have hB4 := hB1.trans (hb4.mono hB1.size)
            have lb1 : b1 < w4.heap.size := World.block_lt_of_cell? w4 (⟨b1, 0, none⟩ : Addr) (hc1 0 (by omega))
            have np : b1 ≠ p := by have := hA1.ltp; omega
            have nq' : b1 ≠ q := by have := hA1.ltq; omega
            have HC1 : Hid (∀ i, i < N + O → w4.cell? ⟨b1, i, none⟩ = some (.int .i64 (ws.getD i 0))) := hc1
            clear hA hB hA1 hB1 hb4 hc1 hb1
            go_wp2_with fail
            refine (move_any T F M _ h4 (by omega) (by omega)).mono ?_
            rintro e w5 ⟨rfl, h5, s5⟩
            have hB5 := hB4.trans (s5.below hB4.size hp' hq')
            have HC1 : Hid (∀ i, i < N + O → w5.cell? ⟨b1, i, none⟩ = some (.int .i64 (ws.getD i 0))) := fun i hi => (World.cell?_of_block (a := ⟨b1, i, none⟩) (s5.block b1 lb1 np nq')).trans (HC1.out i hi)
            have lb1 : b1 < w5.heap.size := Nat.lt_of_lt_of_le lb1 s5.size
            clear h4 hB4 s5
            go_wp2_with fail
            refine (words_any _ h5).mono ?_
            rintro e w6 ⟨b2, cap2, rfl, hb2, hc2, hb6⟩
            have hB6 := hB5.trans (hb6.mono hB5.size)
            have HC1 : Hid (∀ i, i < N + O → w6.cell? ⟨b1, i, none⟩ = some (.int .i64 (ws.getD i 0))) := fun i hi => (hb6.cell (p := ⟨b1, i, none⟩) lb1).trans (HC1.out i hi)
            have HC2 : Hid (∀ i, i < N + O → w6.cell? ⟨b2, i, none⟩ = some (.int .i64 (if T ≤ i ∧ i < T + M then ws.getD (F + i - T) 0 else ws.getD i 0))) := fun i hi => by rw [hc2 i hi, splice_get ws T F M i (by omega) (by omega)]
            clear hc2 h5 hB5 hb6 hb2
            go_wp2_with fail
            go_loop [19, 20] (fun i _ => ∃ k : Nat, k ≤ N + O ∧ i = .int .i64 k) (fun i _ => N + O - (intOf i).toNat)
            case atStart => exact ⟨0, Nat.zero_le _, rfl⟩
            case round =>
              obtain ⟨j, hj, rfl⟩ := hrel
              by_cases hlt2 : j < N + O
              · have hji : (j : Int) < (N : Int) + O := by omega
                have x1 := HC1.out j hlt2
                have x2 := HC2.out j hlt2
                by_cases hin : T ≤ j ∧ j < T + M
                · obtain ⟨i1, i2⟩ := hin
                  rw [if_pos ⟨i1, i2⟩] at x2
                  have x3 := HC1.out (F + j - T) (by omega)
                  generalize ws.getD (F + j - T) 0 = v3 at x2 x3
                  generalize ws.getD j 0 = v1 at x1
                  go_wp2_with fail
                  go_round
                  case rel => exact ⟨j + 1, by omega, by go_num⟩
                  case measure => simp [intOf]; omega
                · rw [if_neg hin] at x2
                  generalize ws.getD j 0 = v1 at x1 x2
                  have hin' : j < T ∨ T + M ≤ j := by omega
                  clear hin
                  rcases hin' with i1 | i1
                  · go_wp2_with fail
                    go_round
                    case rel => exact ⟨j + 1, by omega, by go_num⟩
                    case measure => simp [intOf]; omega
                  · go_wp2_with fail
                    go_round
                    case rel => exact ⟨j + 1, by omega, by go_num⟩
                    case measure => simp [intOf]; omega
              · go_wp2_with fail
                go_ret
                exact ⟨rfl, hB6⟩

end Go.Proofs.Ytheiboniifijnaa.Moves
