/- ArenaApart's walk: it returns true at whatever spaces and steps, in whatever memory; nothing that was in memory turns. -/
import Derived.Test.YtheiboniifijnaaApart2
namespace Go.Proofs.Ytheiboniifijnaa.Apart2
open Go.RowKit W

set_option maxRecDepth 100000 in
set_option maxHeartbeats 4000000 in
theorem walk (n o : Int) (ad : Option Addr) (len cap : Nat) (S : Nat → Int × Int × Int × Int) (w : World) (hst : IsSteps w ad len S) :
    Calls Try.prog 7 #[.int .i64 n, .int .i64 o, .slice ad len cap] w fun e w' => e = .returned (.bool true) ∧ Below w.heap.size w w' := by
  by_cases hlen : 150 < len
  · go_enter Try.func7, Try.ntmps7
    go_wp2_with fail
    refine (begun_any _).mono ?_
    rintro e w1 ⟨rfl, hb1⟩
    go_wp2_with fail
    go_ret
    exact ⟨rfl, hb1⟩
  by_cases hno : n < 16 ∨ 256 < n ∨ o < 0 ∨ 1024 < o
  · go_enter Try.func7, Try.ntmps7
    go_wp2_with fail
    refine (begun_any _).mono ?_
    rintro e w1 ⟨rfl, hb1⟩
    go_wp2_with fail
    refine (new_no n o _ hno).mono ?_
    rintro e w2 ⟨rfl, hb2⟩
    go_wp2_with fail
    go_ret
    exact ⟨rfl, (hb1.trans (hb2.mono hb1.size)).alloc (Nat.le_trans hb1.size hb2.size) _⟩
  obtain ⟨N, hN⟩ := Int.eq_ofNat_of_zero_le (show 0 ≤ n by omega)
  obtain ⟨O, hO⟩ := Int.eq_ofNat_of_zero_le (show 0 ≤ o by omega)
  subst hN hO
  go_enter Try.func7, Try.ntmps7
  go_wp2_with fail
  refine (begun_any _).mono ?_
  rintro e w1 ⟨rfl, hb1⟩
  go_wp2_with fail
  refine (new_yes N O _ (by omega) (by omega) (by omega) (by omega)).mono ?_
  rintro e w2 ⟨p, q, rfl, h2, hp, hq, hb2⟩
  simp only [Int.toNat_natCast] at h2
  have hp' : w.heap.size ≤ p := Nat.le_trans hb1.size hp
  have hq' : w.heap.size ≤ q := Nat.le_trans hb1.size hq
  have hB2 : Below w.heap.size w w2 := hb1.trans (hb2.mono hb1.size)
  clear hp hq hb1 hb2
  go_wp2_with fail
  go_loopw [9, 10] (fun en i wr => ∃ (k y g : Nat) (ws : List Int), k ≤ len ∧ i = .int .i64 k ∧ en = .int .i64 y ∧ At wr p q N O y g ws ∧ Below w.heap.size w wr) (fun _ i _ => len - (intOf i).toNat)
  case atStart => exact ⟨0, 0, 0, _, Nat.zero_le _, rfl, rfl, h2.alloc _, hB2.alloc hB2.size _⟩
  case round =>
    clear h2 hB2
    obtain ⟨k, y, g, ws, hk, rfl, rfl, hA, hB⟩ := hrel
    have hl := hA.hl
    have k0 := hA.hN
    have k1 := hA.hN'
    have k2 := hA.hy
    have k3 := hA.hO
    have k4 := hA.hg
    have lp := hA.ltp
    have lq := hA.ltq
    by_cases hlt : k < len
    · obtain ⟨b, of, rfl, hbl, hcs⟩ := hst (by omega)
      obtain ⟨x0, x1, x2, x3⟩ := hcs k hlt
      have y0 := (hB.cell (p := ⟨b, of + k * 4, none⟩) hbl).trans x0
      have y1 := (hB.cell (p := ⟨b, of + k * 4 + 1, none⟩) hbl).trans x1
      have y2 := (hB.cell (p := ⟨b, of + k * 4 + 2, none⟩) hbl).trans x2
      have y3 := (hB.cell (p := ⟨b, of + k * 4 + 3, none⟩) hbl).trans x3
      generalize (S k).1 = d at y0
      generalize (S k).2.1 = a at y1
      generalize (S k).2.2.1 = f at y2
      generalize (S k).2.2.2 = x at y3
      have hbx : Bx (wr.alloc (.cells #[.int .i64 d, .int .i64 a, .int .i64 f, .int .i64 x] 49)) wr.heap.size d a f x := heap_alloc_new _ _
      have hA1 := hA.alloc (.cells #[.int .i64 d, .int .i64 a, .int .i64 f, .int .i64 x] 49)
      have hB1 := hB.alloc hB.size (.cells #[.int .i64 d, .int .i64 a, .int .i64 f, .int .i64 x] 49)
      have hz1 := hB1.size
      clear x0 x1 x2 x3 hcs hst
      by_cases d0 : d = 0
      · subst d0
        cases hm : mkB N y a f
        · go_wp2_with fail
          refine (make_no a f _ hA1 (mkB_no hm)).mono ?_
          rintro e w3 ⟨rfl, hb3⟩
          go_wp2_with fail
          go_roundw
          case rel => exact ⟨k + 1, y, g, ws, by omega, by go_num, rfl, hA1.below hb3 (Nat.le_refl _), hB1.trans (hb3.mono hz1)⟩
          case measure => simp [intOf]; omega
        · obtain ⟨hc0, hr⟩ := mkB_yes hm
          obtain ⟨_, _, f0, f1⟩ := hc_bd _ _ hc0
          obtain ⟨f, hf⟩ := Int.eq_ofNat_of_zero_le f0
          subst hf
          have H0 : Hid (hc a f = 0) := hc0
          clear hc0 hm
          go_wp2_with fail
          refine (make_yes a f _ hA1 H0.out hr).mono ?_
          rintro e w3 ⟨rfl, h3, s3⟩
          rw [Int.toNat_natCast] at h3
          have hx3 := hbx.sv s3 (by omega) (by omega)
          have hB3 := hB1.trans (s3.below hz1 hp' hq')
          clear hA hA1 hB hB1 hz1 s3 hbx y0 y1 y2 y3
          go_wp2_with fail
          refine (thing_any y _ h3).mono ?_
          rintro e w4 ⟨rfl, hb4⟩
          obtain ⟨q1, q2, q3⟩ := parts_head a f H0.out
          have hlw : y + f < ws.length := by omega
          rw [ld_head (hw a f) f hlw, q1, q2, q3]
          have h4 := h3.below hb4 (Nat.le_refl _)
          have hx4 := hx3.below hb4
          have hB4 := hB3.trans (hb4.mono hB3.size)
          clear q1 q2 q3 h3 hx3 hB3 hb4
          obtain ⟨z0, z1, z2, z3⟩ := hx4.cells
          go_wp2_with fail
          go_loopw [16] (fun i wl => ∃ j : Nat, j ≤ f ∧ i = .int .i64 j ∧ At wl p q N O (y + 1 + f) g (fil ws y (hw a f) f) ∧ Below w.heap.size w wl) (fun i _ => f - (intOf i).toNat)
          case atStart => exact ⟨0, Nat.zero_le _, rfl, h4, hB4⟩
          case round =>
            clear h4 hB4 hx4 z0 z1 z2 z3
            obtain ⟨j, hj, rfl, hL, hBL⟩ := hrel
            by_cases hlt2 : j < f
            · go_wp2_with fail
              refine (load_any _ _ hL).mono ?_
              rintro e w5 ⟨rfl, hb5⟩
              rw [ld_field (hw a f) f j hlw hlt2]
              go_wp2_with fail
              go_roundw
              case rel => exact ⟨j + 1, by omega, by go_num, hL.below hb5 (Nat.le_refl _), hBL.trans (hb5.mono hBL.size)⟩
              case measure => simp [intOf]; omega
            · go_wp2_with fail
              go_roundw
              case rel => exact ⟨k + 1, y + 1 + f, g, _, by omega, by go_num, by go_num, hL, hBL⟩
              case measure => simp [intOf]; omega
      · by_cases d1 : d = 1
        · subst d1
          cases hm : cpB N O y g ws a
          · go_wp2_with fail
            refine (copy_no a _ hA1 (cpB_no hm)).mono ?_
            rintro e w3 ⟨rfl, hb3⟩
            go_wp2_with fail
            go_roundw
            case rel => exact ⟨k + 1, y, g, ws, by omega, by go_num, rfl, hA1.below hb3 (Nat.le_refl _), hB1.trans (hb3.mono hz1)⟩
            case measure => simp [intOf]; omega
          · obtain ⟨hp0, hr1, hr2⟩ := cpB_yes hm
            have hi := pc_iB hp0
            obtain ⟨a0, a1⟩ := iB_bd hi k2 k4
            obtain ⟨f0, f1⟩ := pc_bd _ hp0
            obtain ⟨a, ha⟩ := Int.eq_ofNat_of_zero_le a0
            subst ha
            have hen : en N y g a ≤ (N : Int) + g := by unfold en; split <;> omega
            have hld : ld N y g ws a = ws.getD a 0 := by unfold ld; rw [if_pos hi, Int.toNat_natCast]
            rw [hld] at f0 f1 hr1 hr2
            obtain ⟨n, hn⟩ := Int.eq_ofNat_of_zero_le f0
            rw [hn] at f0 f1 hr1 hr2
            have HN : Hid (pf (ws.getD a 0) = n) := hn
            have HC := copied hl k2 hi n hr1 hr2
            have HJ : Hid (∀ j : Nat, j ≤ n → ld N y (g + (1 + n)) (splice ws (N + g) ((ws.drop a).take (1 + n))) ((N : Int) + g + j) = ws.getD (a + j) 0 ∧ ld N y (g + (1 + n)) (splice ws (N + g) ((ws.drop a).take (1 + n))) ((a : Int) + j) = ws.getD (a + j) 0) := HC
            have HO : Hid (ld N y (g + (1 + n)) (splice ws (N + g) ((ws.drop a).take (1 + n))) ((N : Int) + g) = ws.getD a 0) := by
              have := (HC 0 (Nat.zero_le _)).1
              show _ = _
              simpa using this
            have HM : Hid (cpB N O y g ws a = true) := hm
            clear hm hn hp0 hi hld HC
            go_wp2_with fail
            refine (copy_any a _ hA1).mono ?_
            rintro e w3 ⟨rfl, h3, s3⟩
            have er : cpR N O y g ws a = ((N : Int) + g) := by unfold cpR; rw [if_pos HM.out]; simp
            have eg : cpG N O y g ws a = g + (1 + n) := by
              unfold cpG
              rw [if_pos HM.out]
              have hi := pc_iB (cpB_yes HM.out).1
              rw [show ld N y g ws a = ws.getD a 0 by unfold ld; rw [if_pos hi, Int.toNat_natCast], HN.out, Int.toNat_natCast]
            have ew : cpW N O y g ws a = splice ws (N + g) ((ws.drop a).take (1 + n)) := by
              unfold cpW
              rw [if_pos HM.out]
              have hi := pc_iB (cpB_yes HM.out).1
              rw [show ld N y g ws a = ws.getD a 0 by unfold ld; rw [if_pos hi, Int.toNat_natCast], HN.out, Int.toNat_natCast, Int.toNat_natCast]
            rw [er]
            rw [eg, ew] at h3
            have hx3 := hbx.sv s3 (by omega) (by omega)
            have hB3 := hB1.trans (s3.below hz1 hp' hq')
            clear er eg ew HM hA hA1 hB hB1 hz1 s3 hbx y0 y1 y2 y3
            generalize splice ws (N + g) ((ws.drop a).take (1 + n)) = us at h3 HJ HO
            go_wp2_with fail
            refine (thing_any _ _ h3).mono ?_
            rintro e w4 ⟨rfl, hb4⟩
            rw [HO.out, HN.out]
            have h4 := h3.below hb4 (Nat.le_refl _)
            have hx4 := hx3.below hb4
            have hB4 := hB3.trans (hb4.mono hB3.size)
            clear h3 hx3 hB3 hb4
            go_wp2_with fail
            generalize wr.heap.size = B0 at hx4 lp lq ⊢
            go_loopw [21] (fun i wl => ∃ j : Nat, j ≤ n + 1 ∧ i = .int .i64 j ∧ At wl p q N O y (g + (1 + n)) us ∧ Bx wl B0 1 a f x ∧ Below w.heap.size w wl) (fun i _ => n + 1 - (intOf i).toNat)
            case atStart => exact ⟨0, Nat.zero_le _, rfl, h4, hx4, hB4⟩
            case round =>
              clear h4 hB4 hx4
              obtain ⟨j, hj, rfl, hL, hX, hBL⟩ := hrel
              by_cases hlt2 : j ≤ n
              · obtain ⟨e1, e2⟩ := HJ.out j hlt2
                have E1 : Hid (ld N y (g + (1 + n)) us ((N : Int) + g + j) = ws.getD (a + j) 0) := e1
                have E2 : Hid (ld N y (g + (1 + n)) us ((a : Int) + j) = ws.getD (a + j) 0) := e2
                clear e1 e2
                generalize ws.getD (a + j) 0 = v at E1 E2
                have b6 : IntKind.i64.wrap ((N : Int) + g + j) = (N : Int) + g + j := by rw [IntKind.wrap_i64]; omega
                have b7 : IntKind.i64.wrap ((a : Int) + j) = (a : Int) + j := by rw [IntKind.wrap_i64]; omega
                obtain ⟨z0, z1, z2, z3⟩ := hX.cells
                go_wp2_with fail
                go_region_with (go_at_call 46; refine (load_any (p := p) (q := q) (N := N) (O := O) (y := y) (g := g + (1 + n)) (ws := us) _ _ ?_).mono ?_; (first | exact hL5 | exact hL.drew); rintro e w5 ⟨rfl, hb5⟩; (first | rw [E1.out] | rw [E2.out]); have hX5 : Bx w5 B0 1 a f x := (by first | exact hX5.below hb5 | exact hX.drew.below hb5); have hB5 : Below w.heap.size w w5 := (by first | exact hB5.trans (hb5.mono hB5.size) | exact hBL.drew.trans (hb5.mono hBL.size)); have hL5 : At w5 p q N O y (g + (1 + n)) us := (by first | exact hL5.below hb5 (Nat.le_refl _) | exact hL.drew.below hb5 (Nat.le_refl _)); clear hb5; obtain ⟨z0, z1, z2, z3⟩ := hX5.cells)
                all_goals
                  go_wp2_with fail
                  go_roundw
                  case rel => exact ⟨j + 1, by omega, by go_num, hL5, hX5, hB5⟩
                  case measure => simp [intOf]; omega
              · go_wp2_with fail
                go_roundw
                case rel => exact ⟨k + 1, y, _, us, by omega, by go_num, rfl, hL, hBL⟩
                case measure => simp [intOf]; omega
        · by_cases d2 : d = 2
          · subst d2
            go_wp2_with fail
            refine (words_any _ hA1).mono ?_
            rintro e w3 ⟨b1, cap1, rfl, hb1, hc1, hb3⟩
            have h3 := hA1.below hb3 (Nat.le_refl _)
            have hB3 := hB1.trans (hb3.mono hz1)
            have hx3 := hbx.below hb3
            have lb1 : b1 < w3.heap.size := World.block_lt_of_cell? w3 (⟨b1, 0, none⟩ : Addr) (hc1 0 (by omega))
            have np : b1 ≠ p := by have := hA1.ltp; omega
            have nq : b1 ≠ q := by have := hA1.ltq; omega
            have HC1 : Hid (∀ i, i < N + O → w3.cell? ⟨b1, i, none⟩ = some (.int .i64 (ws.getD i 0))) := hc1
            clear hA hA1 hB hB1 hz1 hb3 hbx hc1 hb1 y0 y1 y2 y3
            obtain ⟨z0, z1, z2, z3⟩ := hx3.cells
            go_wp2_with fail
            refine (store_any a x _ h3).mono ?_
            rintro e w4 ⟨rfl, h4, s4⟩
            have hB4 := hB3.trans (s4.below hB3.size hp' hq')
            have hx4 := hx3.sv s4 (by omega) (by omega)
            have HC1 : Hid (∀ i, i < N + O → w4.cell? ⟨b1, i, none⟩ = some (.int .i64 (ws.getD i 0))) := fun i hi => (World.cell?_of_block (a := ⟨b1, i, none⟩) (s4.block b1 lb1 np nq)).trans (HC1.out i hi)
            have lb1 : b1 < w4.heap.size := Nat.lt_of_lt_of_le lb1 s4.size
            clear h3 hB3 hx3 s4 z0 z1 z2 z3
            go_wp2_with fail
            refine (words_any _ h4).mono ?_
            rintro e w5 ⟨b2, cap2, rfl, hb2, hc2, hb5⟩
            have h5 := h4.below hb5 (Nat.le_refl _)
            have hB5 := hB4.trans (hb5.mono hB4.size)
            have hx5 := hx4.below hb5
            have HC1 : Hid (∀ i, i < N + O → w5.cell? ⟨b1, i, none⟩ = some (.int .i64 (ws.getD i 0))) := fun i hi => (hb5.cell (p := ⟨b1, i, none⟩) lb1).trans (HC1.out i hi)
            have HC2 : Hid (∀ i, i < N + O → w5.cell? ⟨b2, i, none⟩ = some (.int .i64 ((if iB N y g a = true then ws.set a.toNat x else ws).getD i 0))) := hc2
            have lb1 : b1 < w5.heap.size := Nat.lt_of_lt_of_le lb1 hb5.size
            have lb2 : b2 < w5.heap.size := World.block_lt_of_cell? w5 (⟨b2, 0, none⟩ : Addr) (hc2 0 (by omega))
            clear h4 hB4 hx4 hb5 hc2 hb2
            go_wp2_with fail
            generalize wr.heap.size = B0 at hx5 lp lq ⊢
            go_loopw [25] (fun i wl => ∃ j : Nat, j ≤ N + O ∧ i = .int .i64 j ∧ Below w5.heap.size w5 wl) (fun i _ => N + O - (intOf i).toNat)
            case atStart => exact ⟨0, Nat.zero_le _, rfl, Below.refl _ _⟩
            case round =>
              obtain ⟨j, hj, rfl, hbl2⟩ := hrel
              obtain ⟨z0, z1, z2, z3⟩ := (hx5.below hbl2).cells
              by_cases hlt2 : j < N + O
              · have hji : (j : Int) < (N : Int) + O := by omega
                have x1 := (hbl2.cell (p := ⟨b1, j, none⟩) lb1).trans (HC1.out j hlt2)
                have x2 := (hbl2.cell (p := ⟨b2, j, none⟩) lb2).trans (HC2.out j hlt2)
                by_cases hja : (j : Int) = a
                · subst hja
                  cases hi : iB N y g (j : Int)
                  · rw [hi, if_neg (by simp)] at x2
                    clear hi
                    generalize ws.getD j 0 = v at x1 x2
                    go_wp2_with fail
                    go_quiet (fail)
                    go_wp2_with fail
                    go_roundw
                    case rel => exact ⟨j + 1, by omega, by go_num, below_drewN hbl2 _⟩
                    case measure => simp [intOf]; omega
                  · rw [hi, if_pos rfl, Int.toNat_natCast, getD_set _ _ _ _ (by omega), if_pos rfl] at x2
                    clear hi
                    generalize ws.getD j 0 = v at x1
                    by_cases hv : x = v
                    · subst hv
                      go_wp2_with fail
                      go_quiet (fail)
                      go_wp2_with fail
                      go_roundw
                      case rel => exact ⟨j + 1, by omega, by go_num, below_drewN hbl2 _⟩
                      case measure => simp [intOf]; omega
                    · have hv' : (x != v) = true := by simpa using hv
                      go_wp2_with fail
                      go_quiet (fail)
                      go_wp2_with fail
                      go_roundw
                      case rel => exact ⟨j + 1, by omega, by go_num, below_drewN hbl2 _⟩
                      case measure => simp [intOf]; omega
                · have hjb : ((j : Int) == a) = false := by simpa using hja
                  have e2 : (if iB N y g a = true then ws.set a.toNat x else ws).getD j 0 = ws.getD j 0 := by
                    cases hi : iB N y g a
                    · rw [if_neg (by simp)]
                    · have := iB_bd hi k2 k4
                      rw [if_pos rfl, getD_set _ _ _ _ (by omega), if_neg (by omega)]
                  rw [e2] at x2
                  clear e2
                  generalize ws.getD j 0 = v at x1 x2
                  generalize iB N y g a = ok
                  go_wp2_with fail
                  go_quiet (fail)
                  go_wp2_with fail
                  go_roundw
                  case rel => exact ⟨j + 1, by omega, by go_num, below_drewN hbl2 _⟩
                  case measure => simp [intOf]; omega
              · go_wp2_with fail
                go_roundw
                case rel => exact ⟨k + 1, y, g, _, by omega, by go_num, rfl, h5.below hbl2 (Nat.le_refl _), hB5.trans (hbl2.mono hB5.size)⟩
                case measure => simp [intOf]; omega
          · go_wp2_with fail
            go_roundw
            case rel => exact ⟨k + 1, y, g, ws, by omega, by go_num, rfl, hA1, hB1⟩
            case measure => simp [intOf]; omega
    · go_wp2_with fail
      refine (used_any _ hA).mono ?_
      rintro e w3 ⟨rfl, hb3⟩
      go_wp2_with fail
      go_ret
      exact ⟨by simp, hB.trans (hb3.mono hB.size)⟩

end Go.Proofs.Ytheiboniifijnaa.Apart2
