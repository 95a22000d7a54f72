/- WordBack's walk: it returns true at whatever two values, word, kind and number of fields, in whatever memory, and nothing that was there turns. -/
import Derived.Test.YtheiboniifijnaaBegun
import Derived.Deep.DeepCutAuto
namespace Go.Proofs.Ytheiboniifijnaa.Back
open Go.RowKit W

set_option maxHeartbeats 1000000 in
set_option maxRecDepth 100000 in
theorem walk (k n k2 n2 x kind f : Int) (w : World) :
    Calls Try.prog 4 #[.agg #[.int .i64 k, .int .i64 n], .agg #[.int .i64 k2, .int .i64 n2], .int .i64 x, .int .i64 kind, .int .i64 f] w fun e w' => e = .returned (.bool true) ∧ Below w.heap.size w w' := by
  go_enter Try.func4, Try.ntmps4
  go_wp2_with fail
  refine (begun_any _).mono ?_
  rintro e w1 ⟨rfl, hb1⟩
  obtain ⟨c0, c1, c2, c3, f0, f1, z1⟩ := cells4 hb1
  clear f0 f1
  go_wp2_with fail
  refine (encode_any k n _).mono ?_
  rintro e w2 ⟨rfl, hb2⟩
  have d0 := cell_later hb2 c0
  have d1 := cell_later hb2 c1
  have d2 := cell_later hb2 c2
  have d3 := cell_later hb2 c3
  have z2 := hb2.size
  clear c0 c1 c2 c3
  go_wp2_with fail
  refine (encode_any k2 n2 _).mono ?_
  rintro e w3 ⟨rfl, hb3⟩
  have e0 := cell_later hb3 d0
  have e1 := cell_later hb3 d1
  have e2 := cell_later hb3 d2
  have e3 := cell_later hb3 d3
  have z3 := hb3.size
  have B3 : Below w.heap.size w w3 := (((((Below.refl _ _).alloc (Nat.le_refl _) _).alloc (by simp) _).trans (hb1.mono (by simp; omega))).trans (hb2.mono (by omega))).trans (hb3.mono (by omega))
  clear d0 d1 d2 d3 hb1 hb2 hb3
  go_upto_if 42 with fail
  go_cut [] (fun wc => Below w.heap.size w wc)
  case first =>
    by_cases h : vc k n = 0
    · have t : (vc k n == 0) = true := by simpa using h
      have H : Hid (vc k n = 0) := h
      clear h
      obtain ⟨D1, D2, D3⟩ : Hid (dc (ew k n) = 0) ∧ Hid (dk (ew k n) = k) ∧ Hid (dn (ew k n) = n) := dec_enc k n H.out
      go_wp2_with fail
      refine (decode_any (ew k n) _).mono ?_
      rintro e w4 ⟨rfl, hb4⟩
      have g0 := cell_later hb4 e0
      have g1 := cell_later hb4 e1
      have g2 := cell_later hb4 e2
      have g3 := cell_later hb4 e3
      have z4 := hb4.size
      have B4 : Below w.heap.size w w4 := B3.trans (hb4.mono (by omega))
      rw [D1.out, D2.out, D3.out]
      have y0 : w.heap.size < w4.heap.size := by omega
      have y1 : w.heap.size + 1 < w4.heap.size := by omega
      clear e0 e1 e2 e3 hb4
      by_cases h2 : vc k2 n2 = 0
      · have t2 : (vc k2 n2 == 0) = true := by simpa using h2
        have H2 : Hid (vc k2 n2 = 0) := h2
        clear h2
        by_cases hs : k = k2 ∧ n = n2
        · obtain ⟨rfl, rfl⟩ := hs
          go_wp2_with fail
          go_meet
          case rel => exact B4.alloc (by omega) _
        · have tw : (ew k n == ew k2 n2) = false := by
            rw [beq_eq_false_iff_ne]
            exact fun e => hs (enc_inj k n k2 n2 H.out H2.out e)
          by_cases hk : k = k2
          · have hn : (n == n2) = false := by
              rw [beq_eq_false_iff_ne]
              exact fun e => hs ⟨hk, e⟩
            subst hk
            clear hs
            go_wp2_with fail
            go_meet
            case rel => exact B4.alloc (by omega) _
          · have hn : (k == k2) = false := by simpa using hk
            clear hs hk
            go_wp2_with fail
            go_meet
            case rel => exact B4.alloc (by omega) _
      · have t2 : (vc k2 n2 == 0) = false := by simpa using h2
        clear h2
        go_wp2_with fail
        go_meet
        case rel => exact B4.alloc (by omega) _
    · have t : (vc k n == 0) = false := by simpa using h
      clear h
      go_wp2_with fail
      go_meet
      case rel => exact B3
  case rest =>
    go_wp2_with fail
    refine (decode_any x _).mono ?_
    rintro e w5 ⟨rfl, hb5⟩
    have B5 : Below w.heap.size w w5 := hcut.trans (hb5.mono hcut.size)
    have z5 := B5.size
    clear hcut hb5 B3 e0 e1 e2 e3 z1 z2 z3
    go_upto_if 74 with fail
    go_cut [] (fun wd => Below w.heap.size w wd)
    case first =>
      by_cases h : dc x = 0
      · have t : (dc x == 0) = true := by simpa using h
        obtain ⟨E1, E2⟩ : Hid (vc (dk x) (dn x) = 0) ∧ Hid (ew (dk x) (dn x) = x) := enc_dec x h
        clear h
        go_wp2_with fail
        refine (encode_any (dk x) (dn x) _).mono ?_
        rintro e w6 ⟨rfl, hb6⟩
        rw [E1.out, E2.out]
        go_wp2_with fail
        go_meet
        case rel => exact (B5.alloc (by omega) _).trans (hb6.mono (by simp; omega))
      · have t : (dc x == 0) = false := by simpa using h
        clear h
        go_wp2_with fail
        go_meet
        case rel => exact B5.alloc (by omega) _
    case rest =>
      go_wp2_with fail
      refine (head_any kind f _).mono ?_
      rintro e w7 ⟨rfl, rfl⟩
      clear B5 z5
      go_upto_if 94 with fail
      go_cut [] (fun we => Below w.heap.size w we)
      case first =>
        by_cases h : hc kind f = 0
        · have t : (hc kind f == 0) = true := by simpa using h
          obtain ⟨P1, P2, P3⟩ : Hid (pk (hw kind f) = kind) ∧ Hid (pf (hw kind f) = f) ∧ Hid (pc (hw kind f) = 0) := parts_head kind f h
          clear h
          go_wp2_with fail
          refine (parts_any (hw kind f) _).mono ?_
          rintro e w8 ⟨rfl, rfl⟩
          rw [P1.out, P2.out, P3.out]
          go_wp2_with fail
          go_meet
          case rel => exact hcut
        · have t : (hc kind f == 0) = false := by simpa using h
          clear h
          go_wp2_with fail
          go_meet
          case rel => exact hcut
      case rest =>
        go_wp2_with fail
        refine (parts_any x _).mono ?_
        rintro e w9 ⟨rfl, rfl⟩
        by_cases h : pc x = 0
        · have t : (pc x != 0) = false := by simpa using h
          obtain ⟨P1, P2⟩ : Hid (hc (pk x) (pf x) = 0) ∧ Hid (hw (pk x) (pf x) = x) := head_parts x h
          clear h
          go_wp2_with fail
          refine (head_any (pk x) (pf x) _).mono ?_
          rintro e w10 ⟨rfl, rfl⟩
          rw [P1.out, P2.out]
          go_wp2_with fail
          go_ret
          exact ⟨rfl, by assumption⟩
        · have t : (pc x != 0) = true := by simpa using h
          obtain ⟨P1, P2⟩ : pk x = 0 ∧ pf x = 0 := parts_no x h
          rw [P1, P2]
          clear h P1 P2
          go_wp2_with fail
          go_ret
          exact ⟨rfl, by assumption⟩

end Go.Proofs.Ytheiboniifijnaa.Back
