/- ArenaFull's walk: it returns true at whatever spaces, steps, kind and number of fields, in whatever memory; nothing that was in memory turns. -/
import Derived.Test.YtheiboniifijnaaAr9
import Derived.Test.YtheiboniifijnaaRef2
namespace Go.Proofs.Ytheiboniifijnaa.Full
open Go.RowKit W

set_option maxRecDepth 100000 in
set_option maxHeartbeats 2000000 in
theorem walk (n o : Int) (ad : Option Addr) (len cap : Nat) (S : Nat → Int × Int × Int × Int) (kd fd : Int) (w : World) (hst : IsSteps w ad len S) :
    Calls Try.prog 9 #[.int .i64 n, .int .i64 o, .slice ad len cap, .int .i64 kd, .int .i64 fd] w fun e w' => e = .returned (.bool true) ∧ Below w.heap.size w w' := by
  by_cases hlen : 150 < len
  · go_enter Try.func9, Try.ntmps9
    go_wp2_with fail
    refine (begun_any _).mono ?_
    rintro e w1 ⟨rfl, hb1⟩
    go_wp2_with fail
    go_ret
    exact ⟨rfl, hb1⟩
  by_cases hno : n < 16 ∨ 256 < n ∨ o < 0 ∨ 1024 < o
  · go_enter Try.func9, Try.ntmps9
    go_wp2_with fail
    refine (begun_any _).mono ?_
    rintro e w1 ⟨rfl, hb1⟩
    go_wp2_with fail
    refine (new_no n o _ hno).mono ?_
    rintro e w2 ⟨rfl, hb2⟩
    go_wp2_with fail
    go_ret
    exact ⟨rfl, (hb1.trans (hb2.mono hb1.size)).alloc (Nat.le_trans hb1.size hb2.size) _⟩
  obtain ⟨N, hN⟩ := Int.eq_ofNat_of_zero_le (show 0 ≤ n by omega)
  obtain ⟨O, hO⟩ := Int.eq_ofNat_of_zero_le (show 0 ≤ o by omega)
  subst hN hO
  go_enter Try.func9, Try.ntmps9
  go_wp2_with fail
  refine (begun_any _).mono ?_
  rintro e w1 ⟨rfl, hb1⟩
  go_wp2_with fail
  refine (new_yes N O _ (by omega) (by omega) (by omega) (by omega)).mono ?_
  rintro e w2 ⟨p, q, rfl, h2, hp, hq, hb2⟩
  simp only [Int.toNat_natCast] at h2
  have hp' : w.heap.size ≤ p := Nat.le_trans hb1.size hp
  have hq' : w.heap.size ≤ q := Nat.le_trans hb1.size hq
  have hB2 : Below w.heap.size w w2 := hb1.trans (hb2.mono hb1.size)
  clear hp hq hb1 hb2
  go_wp2_with fail
  go_loopw [13] (fun i wr => ∃ (k y g : Nat) (ws : List Int), k ≤ len ∧ i = .int .i64 k ∧ At wr p q N O y g ws ∧ Below w.heap.size w wr) (fun i _ => len - (intOf i).toNat)
  case atStart => exact ⟨0, 0, 0, _, Nat.zero_le _, rfl, h2.alloc _, hB2.alloc hB2.size _⟩
  case round =>
    obtain ⟨k, y, g, ws, hk, rfl, hA, hB⟩ := hrel
    by_cases hlt : k < len
    · obtain ⟨b, of, rfl, hbl, hcs⟩ := hst (by omega)
      obtain ⟨x0, x1, x2, x3⟩ := hcs k hlt
      have y0 := (hB.cell (p := ⟨b, of + k * 4, none⟩) hbl).trans x0
      have y1 := (hB.cell (p := ⟨b, of + k * 4 + 1, none⟩) hbl).trans x1
      have y2 := (hB.cell (p := ⟨b, of + k * 4 + 2, none⟩) hbl).trans x2
      have y3 := (hB.cell (p := ⟨b, of + k * 4 + 3, none⟩) hbl).trans x3
      generalize (S k).1 = d at y0
      generalize (S k).2.1 = a at y1
      generalize (S k).2.2.1 = f at y2
      clear x0 x1 x2 x3 hcs hst
      by_cases d0 : d = 0
      · subst d0
        have hli : (k : Int) < (len : Int) := by omega
        go_wp2_with fail
        go_region_with (go_at_call 31; refine (make_any a f _ hA.drew).mono ?_; rintro e w3 ⟨rfl, h3, s3⟩)
        all_goals
          go_wp2_with fail
          go_roundw
          case rel => exact ⟨k + 1, _, _, _, by omega, by go_num, h3, hB.drew.trans (s3.below hB.size hp' hq')⟩
          case measure => simp [intOf]; omega
      · by_cases d1 : d = 1
        · subst d1
          go_wp2_with fail
          refine (copy_any a _ hA).mono ?_
          rintro e w3 ⟨rfl, h3, s3⟩
          go_wp2_with fail
          go_roundw
          case rel => exact ⟨k + 1, _, _, _, by omega, by go_num, h3, hB.trans (s3.below hB.size hp' hq')⟩
          case measure => simp [intOf]; omega
        · go_wp2_with fail
          go_roundw
          case rel => exact ⟨k + 1, _, _, _, by omega, by go_num, hA, hB⟩
          case measure => simp [intOf]; omega
    · have hl := hA.hl
      have k1 := hA.hN'
      have k2 := hA.hy
      have k3 := hA.hO
      have k4 := hA.hg
      have k0 := hA.hN
      go_wp2_with fail
      refine (freeOf_any _ hA).mono ?_
      rintro e w3 ⟨rfl, hb3⟩
      have h3 := hA.below hb3 (Nat.le_refl _)
      have hB3 := hB.trans (hb3.mono hB.size)
      clear hA hB hb3 h2 hB2 hst
      go_wp2_with fail
      refine (words_any _ h3).mono ?_
      rintro e w4 ⟨b1, cap1, rfl, hb1, hc1, hb4⟩
      have h4 := h3.below hb4 (Nat.le_refl _)
      have hB4 := hB3.trans (hb4.mono hB3.size)
      have HC1 : Hid (∀ i, i < N + O → w4.cell? ⟨b1, i, none⟩ = some (.int .i64 (ws.getD i 0))) := hc1
      clear h3 hB3 hb4 hc1
      go_wp2_with fail
      cases hm : mkB N y kd fd
      · refine (make_no kd fd _ h4 (mkB_no hm)).mono ?_
        rintro e w5 ⟨rfl, hb5⟩
        have h5 := h4.below hb5 (Nat.le_refl _)
        have hB5 := hB4.trans (hb5.mono hB4.size)
        have HC1 : Hid (∀ i, i < N + O → w5.cell? ⟨b1, i, none⟩ = some (.int .i64 (ws.getD i 0))) := fun i hi => (hb5.cell (p := ⟨b1, i, none⟩) (World.block_lt_of_cell? w4 _ (HC1.out i hi))).trans (HC1.out i hi)
        clear h4 hB4 hb5
        go_wp2_with fail
        refine (freeOf_any _ h5).mono ?_
        rintro e w6 ⟨rfl, hb6⟩
        have h6 := h5.below hb6 (Nat.le_refl _)
        have hB6 := hB5.trans (hb6.mono hB5.size)
        have HC1 : Hid (∀ i, i < N + O → w6.cell? ⟨b1, i, none⟩ = some (.int .i64 (ws.getD i 0))) := fun i hi => (hb6.cell (p := ⟨b1, i, none⟩) (World.block_lt_of_cell? w5 _ (HC1.out i hi))).trans (HC1.out i hi)
        clear h5 hB5 hb6
        go_wp2_with fail
        refine (fits_any kd fd _).mono ?_
        rintro e w7 ⟨rfl, hw7⟩
        have hw7 := hw7.symm
        subst hw7
        by_cases hc0 : hc kd fd = 0
        · have hr : (N : Int) - y < fd + 1 := by
            rcases mkB_no hm with c | c
            · exact absurd hc0 c
            · exact c
          obtain ⟨_, _, f0, f1⟩ := hc_bd _ _ hc0
          have t : (hc kd fd != 0) = false := by simpa using hc0
          clear hm hc0
          go_wp2_with fail
          refine (words_any _ h6).mono ?_
          rintro e w8 ⟨b2, cap2, rfl, hb2, hc2, hb8⟩
          have HC2 : Hid (∀ i, i < N + O → w8.cell? ⟨b2, i, none⟩ = some (.int .i64 (ws.getD i 0))) := hc2
          have HC1 : Hid (∀ i, i < N + O → w8.cell? ⟨b1, i, none⟩ = some (.int .i64 (ws.getD i 0))) := fun i hi => (hb8.cell (p := ⟨b1, i, none⟩) (World.block_lt_of_cell? w6 _ (HC1.out i hi))).trans (HC1.out i hi)
          have hB8 := hB6.trans (hb8.mono hB6.size)
          clear hc2 hb8
          go_wp2_with fail
          refine (sameLongs_pos b1 b2 (N + O) cap1 cap2 ws _ (by omega) HC1.out HC2.out).mono ?_
          rintro e w9 ⟨rfl, hb9⟩
          go_wp2_with fail
          go_ret
          exact ⟨rfl, hB8.trans (hb9.mono hB8.size)⟩
        · have t : (hc kd fd != 0) = true := by simpa using hc0
          clear hm hc0
          go_wp2_with fail
          refine (words_any _ h6).mono ?_
          rintro e w8 ⟨b2, cap2, rfl, hb2, hc2, hb8⟩
          have HC2 : Hid (∀ i, i < N + O → w8.cell? ⟨b2, i, none⟩ = some (.int .i64 (ws.getD i 0))) := hc2
          have HC1 : Hid (∀ i, i < N + O → w8.cell? ⟨b1, i, none⟩ = some (.int .i64 (ws.getD i 0))) := fun i hi => (hb8.cell (p := ⟨b1, i, none⟩) (World.block_lt_of_cell? w6 _ (HC1.out i hi))).trans (HC1.out i hi)
          have hB8 := hB6.trans (hb8.mono hB6.size)
          clear hc2 hb8
          go_wp2_with fail
          refine (sameLongs_pos b1 b2 (N + O) cap1 cap2 ws _ (by omega) HC1.out HC2.out).mono ?_
          rintro e w9 ⟨rfl, hb9⟩
          go_wp2_with fail
          go_ret
          exact ⟨rfl, hB8.trans (hb9.mono hB8.size)⟩
      · obtain ⟨hc0, hr⟩ := mkB_yes hm
        refine (make_yes kd fd _ h4 hc0 hr).mono ?_
        rintro e w5 ⟨rfl, h5, s5⟩
        obtain ⟨_, _, f0, f1⟩ := hc_bd _ _ hc0
        obtain ⟨f, hf⟩ := Int.eq_ofNat_of_zero_le f0
        subst hf
        rw [Int.toNat_natCast] at h5
        have hB5 := hB4.trans (s5.below hB4.size hp' hq')
        have H0 : Hid (hc kd f = 0) := hc0
        clear h4 hB4 s5 hc0 hm
        go_wp2_with fail
        refine (freeOf_any _ h5).mono ?_
        rintro e w6 ⟨rfl, hb6⟩
        have h6 := h5.below hb6 (Nat.le_refl _)
        have hB6 := hB5.trans (hb6.mono hB5.size)
        clear h5 hB5 hb6
        go_wp2_with fail
        refine (fits_any kd f _).mono ?_
        rintro e w7 ⟨rfl, hw7⟩
        have hw7 := hw7.symm
        subst hw7
        rw [H0.out]
        go_wp2_with fail
        have hlw : y + f < ws.length := by omega
        have hwy := ld_head (N := N) (g := g) (hw kd f) f hlw
        obtain ⟨q1, q2, q3⟩ := parts_head kd f H0.out
        have hen := en_head N y g f
        have HX : Hid (pc (ld N (y + 1 + f) g (fil ws y (hw kd f) f) y) = 0 ∧ pf (ld N (y + 1 + f) g (fil ws y (hw kd f) f) y) = f ∧ 1 + pf (ld N (y + 1 + f) g (fil ws y (hw kd f) f) y) ≤ en N (y + 1 + f) g y - y) := ⟨by rw [hwy, q3], by rw [hwy, q2], by rw [hwy, q2, hen]; omega⟩
        clear hwy q1 q2 q3 hen
        have HR : Hid (∃ (r : Int) (g' : Nat) (ws' : List Int), (decide (r < 0) = decide ((O : Int) - g < (f : Int) + 1)) ∧ Calls Try.prog 33 #[.pointer (some ⟨p, 0, none⟩), .int .i64 y] w6 fun e w' => e = .returned (.int .i64 r) ∧ At w' p q N O (y + 1 + f) g' ws' ∧ Sv p q w6 w') := by
          obtain ⟨x1, x2, x3⟩ := HX.out
          by_cases hg : (f : Int) + 1 ≤ (O : Int) - g
          · refine ⟨_, _, _, ?_, copy_yes y _ h6 x1 x3 (by rw [x2]; omega)⟩
            simp; omega
          · refine ⟨-1, g, _, ?_, (copy_no y _ h6 (Or.inr (Or.inr (by rw [x2]; omega)))).mono fun e w' hx => ⟨hx.1, h6.below hx.2 (Nat.le_refl _), Sv.of hx.2⟩⟩
            simp; omega
        clear HX
        obtain ⟨r, g', ws', hrr, hcall⟩ := HR.out
        clear HR
        refine hcall.mono ?_
        rintro e w8 ⟨rfl, h8, s8⟩
        have hB8 := hB6.trans (s8.below hB6.size hp' hq')
        clear hcall h6 hB6 s8
        go_wp2_with fail
        refine (clear_any _ h8).mono ?_
        rintro e w9 ⟨rfl, h9, s9⟩
        have hB9 := hB8.trans (s9.below hB8.size hp' hq')
        clear h8 hB8 s9
        go_wp2_with fail
        refine (cut_any 0 _ h9 (by omega) (by omega)).mono ?_
        rintro e w10 ⟨rfl, h10, s10⟩
        have hB10 := hB9.trans (s10.below hB9.size hp' hq')
        clear h9 hB9 s10
        go_wp2_with fail
        refine (used_any _ h10).mono ?_
        rintro e w11 ⟨rfl, hb11⟩
        have h11 := h10.below hb11 (Nat.le_refl _)
        have hB11 := hB10.trans (hb11.mono hB10.size)
        clear h10 hB10 hb11
        go_wp2_with fail
        refine (make_yes kd f _ h11 H0.out (by omega)).mono ?_
        rintro e w12 ⟨rfl, h12, s12⟩
        have hB12 := hB11.trans (s12.below hB11.size hp' hq')
        rw [Int.toNat_natCast] at h12
        clear h11 hB11 s12
        go_wp2_with fail
        refine (load_any _ _ h12).mono ?_
        rintro e w13 ⟨rfl, hb13⟩
        rw [ld_none (by omega) (by simp; omega)]
        go_wp2_with fail
        go_ret
        exact ⟨rfl, hB12.trans (hb13.mono hB12.size)⟩

end Go.Proofs.Ytheiboniifijnaa.Full
