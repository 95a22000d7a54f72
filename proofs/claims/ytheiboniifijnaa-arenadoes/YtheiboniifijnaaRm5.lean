/- What the document's own arena leaves where it is asked to copy, whatever it is asked: a contract, over the seat's own translation; no block but the room's turns. -/
import Derived.Test.YtheiboniifijnaaRm4
namespace Go.Proofs.Ytheiboniifijnaa
open Go.RowKit W

set_option maxRecDepth 100000 in
set_option maxHeartbeats 2000000 in
theorem rCopy_yesO {p q N O y g : Nat} {ws : List Int} (a n : Nat) (w : World) (h : Rm w p q N O y g ws) (hp : pc (ld N y g ws a) = 0) (hf : pf (ld N y g ws a) = n) (hn : n ≤ 12) (hr : 1 + (n : Int) ≤ (O : Int) - g) (hs : hB N g a = true) (hE : a + n + 1 ≤ N + g) :
    Calls Try.prog 34 #[.pointer (some ⟨p, 0, none⟩), .int .i64 a] w fun e w' => e = .returned (.int .i64 (N + g : Nat)) ∧ Rm w' p q N O y (g + (1 + n)) (splice ws (N + g) ((ws.drop a).take (1 + n))) ∧ Sv p q w w' := by
  have HP : Hid (pc (ld N y g ws a) = 0) := hp
  have HF : Hid (pf (ld N y g ws a) = n) := hf
  have HS : Hid (hB 0 y a = false) := (in_old hs h.hy).1
  have HO : Hid (hB N g a = true) := hs
  have hNa := (hB_yes hs).1
  clear hp hf hs
  have k1 := h.hN'
  have k2 := h.hg
  have k3 := h.hO
  have k4 := h.hy
  have hl := h.hl
  have lp := h.ltp
  have lq := h.ltq
  have hpq := h.ne
  obtain ⟨i0, hi, hz0, hz1, hz2⟩ := info_parts info64
  go_enter Try.func34, Try.ntmps34
  go_wp2_with fail
  refine (rThing_any a _ h (by omega)).mono ?_
  rintro e w1 ⟨rfl, hb1⟩
  rw [HP.out, HF.out]
  obtain ⟨c0, c1, c2, c3⟩ := (h.below hb1 (Nat.le_refl _)).cells
  go_wp2_with fail
  go_quiet (fail)
  go_wp2_with fail
  go_loopw [9] (fun i wr => ∃ k : Nat, k ≤ n + 1 ∧ i = .int .i64 k ∧ Below w.heap.size w wr) (fun i _ => n + 1 - (intOf i).toNat)
  case atStart => exact ⟨0, Nat.zero_le _, rfl, below_drewN hb1 _⟩
  case round =>
    obtain ⟨k, hk, rfl, hBe⟩ := hrel
    clear c0 c1 c2 c3
    have hA := h.below hBe (Nat.le_refl _)
    by_cases hlt : k ≤ n
    · have HK : Hid (hB N g ((a : Int) + k) = true) := by show _ = _; simp [hB]; omega
      go_wp2_with fail
      refine (isYoung_any a _ hA).mono ?_
      rintro e w2 ⟨rfl, hb2⟩
      rw [HS.out]
      have hA2 := hA.below hb2 (Nat.le_refl _)
      go_wp2_with fail
      refine (isOld_any a _ hA2 (by omega)).mono ?_
      rintro e w3 ⟨rfl, hb3⟩
      rw [HO.out]
      have hA3 := hA2.below hb3 (Nat.le_refl _)
      go_wp2_with fail
      refine (isOld_any _ _ hA3 (by omega)).mono ?_
      rintro e w4 ⟨rfl, hb4⟩
      rw [HK.out]
      go_wp2_with fail
      go_roundw
      case rel => exact ⟨k + 1, by omega, by go_num, ((hBe.trans (hb2.mono hBe.size)).trans (hb3.mono (Nat.le_trans hBe.size hb2.size))).trans (hb4.mono (Nat.le_trans hBe.size (Nat.le_trans hb2.size hb3.size)))⟩
      case measure => simp [intOf]; omega
    · obtain ⟨c0, c1, c2, c3⟩ := hA.cells
      have hne : ¬ (N + O = a) := by omega
      have hsz := hBe.size
      have hlen : ((ws.drop a).take (n + 1)).length = n + 1 := by simp; omega
      have HL : Hid (((ws.drop a).take (n + 1)).length = n + 1) := hlen
      clear hlen
      have f3 := hA.frozen 3
      go_wp2_with (at_builtin; refine wpList_append_own _ rfl _ _ 54 rfl wr.heap.size 2 i0 (.int .i64 0) 1 8 Try.underlying54 hi hz0 hz1 hz2 rfl (by decide) (.slice none 0 0) 0 [] ?_ (World.ownsRow_nil _ _ _ _) ⟨q, a, none⟩ (n + 1) (N + O - a) (((ws.drop a).take (n + 1)).map (Value.int .i64)) ?_ ?_ ?_ (ints_one _) ?_ ?_ ?_ ?_; (first | rfl | simp [Act.eval, Act.put]); (first | rfl | (simp [Act.eval]; omega) | simp [Act.eval]); (rw [List.length_map, HL.out]; simp); (intro j u hj; exact hA.src a (n + 1) (by omega) j u hj); (unfold maxLen; omega); omega; exact Nat.le_refl _; intro v w5 hown hgrow _; obtain ⟨bb, cap, ev, hbb, hcc⟩ := owned_cells (l := (ws.drop a).take (n + 1)) (by rw [List.nil_append, Nat.zero_add] at hown; exact hown) (Nat.succ_pos _); subst ev; have h5 : Rm w5 p q N O y g ws := hA.same (hgrow.block p (by omega) (by simp [Value.ownBlock])) (hgrow.block q (by omega) (by simp [Value.ownBlock])); obtain ⟨c0, c1, c2, c3⟩ := h5.cells; have f3 := h5.frozen 3; have CC : Hid (∀ i, i < n + 1 → w5.cell? ⟨bb, i, none⟩ = some (.int .i64 (((ws.drop a).take (n + 1)).getD i 0))) := hcc; have hB5 : Below w.heap.size w w5 := hBe.grown hgrow hsz (fun k e => by simp [Value.ownBlock] at e); clear hcc hown hgrow)
      have np : bb ≠ p := by omega
      have nq : bb ≠ q := by omega
      have e3 : (g : Int) + ((n : Int) + 1) = ((g + (1 + n) : Nat) : Int) := by omega
      go_loopw [11] (fun i wl => ∃ j : Nat, j ≤ n + 1 ∧ i = .int .i64 j ∧ Rm wl p q N O y (g + (1 + n)) (cpy ws (N + g) a j) ∧ (∀ i, i < n + 1 → wl.cell? ⟨bb, i, none⟩ = some (.int .i64 (((ws.drop a).take (n + 1)).getD i 0))) ∧ Sv p q w wl) (fun i _ => n + 1 - (intOf i).toNat)
      case atStart =>
        rw [e3]
        exact ⟨0, Nat.zero_le _, rfl, h5.setG _ (by omega), fun i hi => (World.cell?_of_block (a := ⟨bb, i, none⟩) (Below.heap_setCell _ _ _ _ np)).trans (CC.out i hi), (Sv.of hB5).trans (Sv.setp _ _)⟩
      case round =>
        clear c0 c1 c2 c3 f3 h5 hB5 e3
        obtain ⟨j, hj, rfl, hR, hcc, hS⟩ := hrel
        have CC : Hid (∀ i, i < n + 1 → wr.cell? ⟨bb, i, none⟩ = some (.int .i64 (((ws.drop a).take (n + 1)).getD i 0))) := hcc
        clear hcc
        obtain ⟨c0, c1, c2, c3⟩ := hR.cells
        by_cases hlt2 : j < n + 1
        · have x1 := CC.out j hlt2
          have cw := hR.word (N + g + j) (by omega)
          have cf := hR.frozenq (N + g + j)
          have b1 : (N : Int) + g + j < (N : Int) + O := by omega
          have b2 : (j : Int) < (n : Int) + 1 := by omega
          rw [drop_get _ _ _ _ hlt2] at x1
          have HS2 : Hid (cpy ws (N + g) a (j + 1) = (cpy ws (N + g) a j).set (N + g + j) (ws.getD (a + j) 0)) := rfl
          generalize ws.getD (a + j) 0 = v at x1 HS2
          generalize (cpy ws (N + g) a j).getD (N + g + j) 0 = v2 at cw
          go_wp2_with fail
          go_region
          all_goals
            go_wp2_with fail
            go_roundw
            case rel => exact ⟨j + 1, by omega, by go_num, by rw [HS2.out]; exact (hR.set _ _).drew, fun i hi => (World.cell?_of_block (a := ⟨bb, i, none⟩) (Below.heap_setCell _ _ _ _ nq)).trans (CC.out i hi), (hS.trans (Sv.setq _ _)).drew⟩
            case measure => simp [intOf]; omega
        · go_wp2_with fail
          go_ret
          obtain rfl : j = 1 + n := by omega
          rw [← cpy_all ws (N + g) a (1 + n) (by omega) (by omega)]
          exact ⟨by simp, hR, hS⟩

set_option maxRecDepth 100000 in
set_option maxHeartbeats 2000000 in
theorem rCopy_cutY {p q N O y g : Nat} {ws : List Int} (a n : Nat) (w : World) (h : Rm w p q N O y g ws) (hp : pc (ld N y g ws a) = 0) (hf : pf (ld N y g ws a) = n) (hn : n ≤ 12) (hr : 1 + (n : Int) ≤ (O : Int) - g) (hs : hB 0 y a = true) (hE : y < a + n + 1) (hE' : a < y) :
    Calls Try.prog 34 #[.pointer (some ⟨p, 0, none⟩), .int .i64 a] w fun e w' => e = .returned (.int .i64 (-1)) ∧ Below w.heap.size w w' := by
  have HP : Hid (pc (ld N y g ws a) = 0) := hp
  have HF : Hid (pf (ld N y g ws a) = n) := hf
  have HS : Hid (hB 0 y a = true) := hs
  have HO : Hid (hB N g a = false) := (in_young hs h.hy).1
  clear hp hf hs
  have k1 := h.hN'
  have k2 := h.hg
  have k3 := h.hO
  have k4 := h.hy
  go_enter Try.func34, Try.ntmps34
  go_wp2_with fail
  refine (rThing_any a _ h (by omega)).mono ?_
  rintro e w1 ⟨rfl, hb1⟩
  rw [HP.out, HF.out]
  obtain ⟨c0, c1, c2, c3⟩ := (h.below hb1 (Nat.le_refl _)).cells
  go_wp2_with fail
  go_quiet (fail)
  go_wp2_with fail
  go_loopw [9] (fun i wr => ∃ k : Nat, k ≤ n ∧ a + k ≤ y ∧ i = .int .i64 k ∧ Below w.heap.size w wr) (fun i _ => n + 1 - (intOf i).toNat)
  case atStart => exact ⟨0, Nat.zero_le _, by omega, rfl, below_drewN hb1 _⟩
  case round =>
    obtain ⟨k, hk, hk2, rfl, hBe⟩ := hrel
    clear c0 c1 c2 c3
    have hA := h.below hBe (Nat.le_refl _)
    by_cases hlt : a + k < y
    · have HK : Hid (hB 0 y ((a : Int) + k) = true) := by show _ = _; simp [hB]; omega
      go_wp2_with fail
      refine (isYoung_any a _ hA).mono ?_
      rintro e w2 ⟨rfl, hb2⟩
      rw [HS.out]
      have hA2 := hA.below hb2 (Nat.le_refl _)
      go_wp2_with fail
      refine (isYoung_any _ _ hA2).mono ?_
      rintro e w3 ⟨rfl, hb3⟩
      rw [HK.out]
      have hA3 := hA2.below hb3 (Nat.le_refl _)
      go_wp2_with fail
      refine (isOld_any a _ hA3 (by omega)).mono ?_
      rintro e w4 ⟨rfl, hb4⟩
      rw [HO.out]
      go_wp2_with fail
      go_roundw
      case rel => exact ⟨k + 1, by omega, by omega, by go_num, ((hBe.trans (hb2.mono hBe.size)).trans (hb3.mono (Nat.le_trans hBe.size hb2.size))).trans (hb4.mono (Nat.le_trans hBe.size (Nat.le_trans hb2.size hb3.size)))⟩
      case measure => simp [intOf]; omega
    · have HK : Hid (hB 0 y ((a : Int) + k) = false) := by show _ = _; simp [hB]; omega
      go_wp2_with fail
      refine (isYoung_any a _ hA).mono ?_
      rintro e w2 ⟨rfl, hb2⟩
      rw [HS.out]
      have hA2 := hA.below hb2 (Nat.le_refl _)
      go_wp2_with fail
      refine (isYoung_any _ _ hA2).mono ?_
      rintro e w3 ⟨rfl, hb3⟩
      rw [HK.out]
      go_wp2_with fail
      go_ret
      exact ⟨rfl, (hBe.trans (hb2.mono hBe.size)).trans (hb3.mono (Nat.le_trans hBe.size hb2.size))⟩

set_option maxRecDepth 100000 in
set_option maxHeartbeats 2000000 in
theorem rCopy_cutO {p q N O y g : Nat} {ws : List Int} (a n : Nat) (w : World) (h : Rm w p q N O y g ws) (hp : pc (ld N y g ws a) = 0) (hf : pf (ld N y g ws a) = n) (hn : n ≤ 12) (hr : 1 + (n : Int) ≤ (O : Int) - g) (hs : hB N g a = true) (hE : N + g < a + n + 1) (hE' : a < N + g) :
    Calls Try.prog 34 #[.pointer (some ⟨p, 0, none⟩), .int .i64 a] w fun e w' => e = .returned (.int .i64 (-1)) ∧ Below w.heap.size w w' := by
  have HP : Hid (pc (ld N y g ws a) = 0) := hp
  have HF : Hid (pf (ld N y g ws a) = n) := hf
  have HS : Hid (hB 0 y a = false) := (in_old hs h.hy).1
  have HO : Hid (hB N g a = true) := hs
  have hNa := (hB_yes hs).1
  clear hp hf hs
  have k1 := h.hN'
  have k2 := h.hg
  have k3 := h.hO
  have k4 := h.hy
  go_enter Try.func34, Try.ntmps34
  go_wp2_with fail
  refine (rThing_any a _ h (by omega)).mono ?_
  rintro e w1 ⟨rfl, hb1⟩
  rw [HP.out, HF.out]
  obtain ⟨c0, c1, c2, c3⟩ := (h.below hb1 (Nat.le_refl _)).cells
  go_wp2_with fail
  go_quiet (fail)
  go_wp2_with fail
  go_loopw [9] (fun i wr => ∃ k : Nat, k ≤ n ∧ a + k ≤ N + g ∧ i = .int .i64 k ∧ Below w.heap.size w wr) (fun i _ => n + 1 - (intOf i).toNat)
  case atStart => exact ⟨0, Nat.zero_le _, by omega, rfl, below_drewN hb1 _⟩
  case round =>
    obtain ⟨k, hk, hk2, rfl, hBe⟩ := hrel
    clear c0 c1 c2 c3
    have hA := h.below hBe (Nat.le_refl _)
    by_cases hlt : a + k < N + g
    · have HK : Hid (hB N g ((a : Int) + k) = true) := by show _ = _; simp [hB]; omega
      go_wp2_with fail
      refine (isYoung_any a _ hA).mono ?_
      rintro e w2 ⟨rfl, hb2⟩
      rw [HS.out]
      have hA2 := hA.below hb2 (Nat.le_refl _)
      go_wp2_with fail
      refine (isOld_any a _ hA2 (by omega)).mono ?_
      rintro e w3 ⟨rfl, hb3⟩
      rw [HO.out]
      have hA3 := hA2.below hb3 (Nat.le_refl _)
      go_wp2_with fail
      refine (isOld_any _ _ hA3 (by omega)).mono ?_
      rintro e w4 ⟨rfl, hb4⟩
      rw [HK.out]
      go_wp2_with fail
      go_roundw
      case rel => exact ⟨k + 1, by omega, by omega, by go_num, ((hBe.trans (hb2.mono hBe.size)).trans (hb3.mono (Nat.le_trans hBe.size hb2.size))).trans (hb4.mono (Nat.le_trans hBe.size (Nat.le_trans hb2.size hb3.size)))⟩
      case measure => simp [intOf]; omega
    · have HK : Hid (hB N g ((a : Int) + k) = false) := by show _ = _; simp [hB]; omega
      go_wp2_with fail
      refine (isYoung_any a _ hA).mono ?_
      rintro e w2 ⟨rfl, hb2⟩
      rw [HS.out]
      have hA2 := hA.below hb2 (Nat.le_refl _)
      go_wp2_with fail
      refine (isOld_any a _ hA2 (by omega)).mono ?_
      rintro e w3 ⟨rfl, hb3⟩
      rw [HO.out]
      have hA3 := hA2.below hb3 (Nat.le_refl _)
      go_wp2_with fail
      refine (isOld_any _ _ hA3 (by omega)).mono ?_
      rintro e w4 ⟨rfl, hb4⟩
      rw [HK.out]
      go_wp2_with fail
      go_ret
      exact ⟨rfl, ((hBe.trans (hb2.mono hBe.size)).trans (hb3.mono (Nat.le_trans hBe.size hb2.size))).trans (hb4.mono (Nat.le_trans hBe.size (Nat.le_trans hb2.size hb3.size)))⟩

theorem rCopy_any {p q N O y g : Nat} {ws : List Int} (a : Int) (w : World) (h : Rm w p q N O y g ws) (hm : a ≤ 9223372036854775807) :
    Calls Try.prog 34 #[.pointer (some ⟨p, 0, none⟩), .int .i64 a] w fun e w' => e = .returned (.int .i64 (cpR N O y g ws a)) ∧ Rm w' p q N O y (cpG N O y g ws a) (cpW N O y g ws a) ∧ Sv p q w w' := by
  have no : cpB N O y g ws a = false → (Calls Try.prog 34 #[.pointer (some ⟨p, 0, none⟩), .int .i64 a] w fun e w' => e = .returned (.int .i64 (-1)) ∧ Below w.heap.size w w') → Calls Try.prog 34 #[.pointer (some ⟨p, 0, none⟩), .int .i64 a] w fun e w' => e = .returned (.int .i64 (cpR N O y g ws a)) ∧ Rm w' p q N O y (cpG N O y g ws a) (cpW N O y g ws a) ∧ Sv p q w w' := by
    intro hb hc
    unfold cpR cpG cpW
    rw [hb, if_neg (by simp), if_neg (by simp), if_neg (by simp)]
    exact hc.mono fun e w' hx => ⟨hx.1, h.below hx.2 (Nat.le_refl _), Sv.of hx.2⟩
  by_cases hp : pc (ld N y g ws a) = 0
  · obtain ⟨f0, f1⟩ := pc_bd _ hp
    by_cases hr : 1 + pf (ld N y g ws a) ≤ (O : Int) - g
    · have hi := pc_iB hp
      obtain ⟨d1, d2⟩ := iB_bd hi h.hy h.hg
      obtain ⟨a, rfl⟩ := Int.eq_ofNat_of_zero_le d1
      obtain ⟨n, hn⟩ := Int.eq_ofNat_of_zero_le f0
      rw [hn] at hr f1
      cases hy : hB 0 y a
      · have ho : hB N g a = true := by
          unfold iB at hi
          rw [hy] at hi
          simpa using hi
        have he := (in_old ho h.hy).2
        by_cases hE : a + n + 1 ≤ N + g
        · have hb : cpB N O y g ws a = true := by simp [cpB, hp, hn, he]; omega
          unfold cpR cpG cpW
          rw [hb, if_pos rfl, if_pos rfl, if_pos rfl, hn, Int.toNat_natCast, Int.toNat_natCast]
          exact rCopy_yesO a n w h hp hn (by omega) hr ho hE
        · exact no (by simp [cpB, hp, hn, he]; omega) (rCopy_cutO a n w h hp hn (by omega) hr ho (by omega) (by have := hB_yes ho; omega))
      · have he := (in_young (g := g) hy h.hy).2
        by_cases hE : a + n + 1 ≤ y
        · have hb : cpB N O y g ws a = true := by simp [cpB, hp, hn, he]; omega
          unfold cpR cpG cpW
          rw [hb, if_pos rfl, if_pos rfl, if_pos rfl, hn, Int.toNat_natCast, Int.toNat_natCast]
          exact rCopy_yesY a n w h hp hn (by omega) hr hy hE
        · exact no (by simp [cpB, hp, hn, he]; omega) (rCopy_cutY a n w h hp hn (by omega) hr hy (by omega) (by have := hB_yes hy; omega))
    · exact no (by simp [cpB, hp]; omega) (rCopy_no2 a w h hm hp (by omega))
  · exact no (by simp [cpB, hp]) (rCopy_no1 a w h hm hp)

end Go.Proofs.Ytheiboniifijnaa
