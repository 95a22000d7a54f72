/- WoodDoes: its walk. -/
import Derived.Test.YtglddgjljohkiabWDl
namespace Go.Proofs.Ytglddgjljohkiab.WDo
open Go.RowKit W Kp Stl

theorem tw_set (j : Nat) (h : j < 12) : (tw 2 j).set j 2 = tw 2 (j + 1) := by
  unfold tw
  rw [List.set_append_right _ _ (by simp), show 12 - j = (12 - (j + 1)) + 1 by omega, List.replicate_succ]
  simp [List.replicate_succ', List.append_assoc]

set_option maxRecDepth 100000 in
set_option maxHeartbeats 8000000 in
theorem walk (n o : Int) (a : Option Addr) (c : Nat) (l : List S5) (w : World) (hl : L5 w a l) :
    Calls Try.prog 4 #[.int .i64 n, .int .i64 o, .slice a l.length c] w fun e w' => e = .returned (.bool true) ∧ Below w.heap.size w w' := by
  have HL : Hid (L5 w a l) := hl
  clear hl
  by_cases hlen : 200 < l.length
  · go_enter Try.func4, Try.ntmps4
    go_wp2_with fail
    refine (woodBegun_any w).mono ?_
    rintro e w1 ⟨rfl, hb1⟩
    dsimp only
    have h2 : (200 : Int) < (l.length : Int) := by omega
    go_wp2_with fail
    go_ret
    exact ⟨rfl, hb1⟩
  · have h2 : ¬ ((200 : Int) < (l.length : Int)) := by omega
    by_cases hno : n < 16 ∨ 256 < n ∨ o < 0 ∨ 1024 < o
    · have HNO : Hid (n < 16 ∨ 256 < n ∨ o < 0 ∨ 1024 < o) := hno
      clear hno
      go_enter Try.func4, Try.ntmps4
      go_wp2_with fail
      refine (woodBegun_any w).mono ?_
      rintro e w1 ⟨rfl, hb1⟩
      dsimp only
      go_wp2_with fail
      refine (newW_no n o w1 HNO.out).mono ?_
      rintro e w2 ⟨rfl, hb2⟩
      dsimp only
      have hB2 := hb1.trans (hb2.mono hb1.size)
      have hB2a := hB2.alloc hB2.size (.cells #[.int .i64 1, .int .i64 (-1)] 44)
      have hf0 := heap_alloc_new w2 (.cells #[.int .i64 1, .int .i64 (-1)] 44)
      have ls : w2.heap.size < (w2.alloc (.cells #[.int .i64 1, .int .i64 (-1)] 44)).heap.size := by simp
      have P := roomFault_no n o (w2.alloc (.cells #[.int .i64 1, .int .i64 (-1)] 44)) HNO.out
      clear hb2
      go_wp2_with fail
      refine P.mono ?_
      clear P
      rintro e w3 ⟨rfl, hb3⟩
      dsimp only
      have hB3 := hB2a.trans (hb3.mono hB2a.size)
      have hf3 := (hb3.block _ ls).trans hf0
      have x0 : w3.cell? ⟨w2.heap.size, 0, none⟩ = some (.int .i64 1) := by simp [World.cell?, hf3]
      have x1 : w3.cell? ⟨w2.heap.size, 1, none⟩ = some (.int .i64 (-1)) := by simp [World.cell?, hf3]
      have l3 : w2.heap.size < w3.heap.size := lt_of_some hf3
      clear hf0 hf3 hb3 hB2a
      go_wp2_with fail
      go_ret
      exact ⟨rfl, hB3.alloc hB3.size _⟩
    · have hn0 : 16 ≤ n ∧ n ≤ 256 ∧ 0 ≤ o ∧ o ≤ 1024 := by omega
      obtain ⟨n, rfl⟩ := Int.eq_ofNat_of_zero_le (show 0 ≤ n by omega)
      obtain ⟨o, rfl⟩ := Int.eq_ofNat_of_zero_le (show 0 ≤ o by omega)
      obtain ⟨i0, hi, hz0, hz1, hz2⟩ := info_parts info64
      go_enter Try.func4, Try.ntmps4
      go_wp2_with fail
      refine (woodBegun_any w).mono ?_
      rintro e w1 ⟨rfl, hb1⟩
      dsimp only
      go_wp2_with fail
      refine (newW_yes n o w1 (by omega) (by omega) (by omega)).mono ?_
      rintro e w2 ⟨pw, p, q, pc, pq, s, nb, rfl, hW, hs, hr, ⟨g1, g2, g3, g4, g5, g6, g7⟩, hb2⟩
      dsimp only
      have h3 := wf_new hW hs hr hb2 (by omega)
      have hba := (Below.refl w2.heap.size w2).alloc (Nat.le_refl _) (.cells #[.int .i64 0, .int .i64 0] 44)
      have H3 : Hid (Wf (w2.alloc (.cells #[.int .i64 0, .int .i64 0] 44)) pw p q pc pq s nb n o 0 0 (List.replicate (n + o) 0) (nC o) [] (tw 2 12)) := h3.below hba
      have HB3 : Hid (Below w1.heap.size w1 (w2.alloc (.cells #[.int .i64 0, .int .i64 0] 44))) := hb2.trans (hba.mono hb2.size)
      have hf0 := heap_alloc_new w2 (.cells #[.int .i64 0, .int .i64 0] 44)
      have ls : w2.heap.size < (w2.alloc (.cells #[.int .i64 0, .int .i64 0] 44)).heap.size := by simp
      have P := roomFault_yes n o (w2.alloc (.cells #[.int .i64 0, .int .i64 0] 44)) (by omega) (by omega) (by omega) (by omega)
      clear hW hs hr h3 hba hb2 hno
      go_wp2_with fail
      refine P.mono ?_
      clear P
      rintro e w3 ⟨rfl, hb3⟩
      dsimp only
      have hf3 := (hb3.block _ ls).trans hf0
      have x0 : w3.cell? ⟨w2.heap.size, 0, none⟩ = some (.int .i64 0) := by simp [World.cell?, hf3]
      have x1 : w3.cell? ⟨w2.heap.size, 1, none⟩ = some (.int .i64 0) := by simp [World.cell?, hf3]
      have l3 : w2.heap.size < w3.heap.size := lt_of_some hf3
      have hba3 := (Below.refl w3.heap.size w3).alloc (Nat.le_refl _) (.cells #[.int .i64 0, .int .i64 0] 44)
      have H4 : Hid (Wf (w3.alloc (.cells #[.int .i64 0, .int .i64 0] 44)) pw p q pc pq s nb n o 0 0 (List.replicate (n + o) 0) (nC o) [] (tw 2 12)) := (H3.out.below hb3).below hba3
      have HB4 : Hid (Below w1.heap.size w1 (w3.alloc (.cells #[.int .i64 0, .int .i64 0] 44))) := (HB3.out.trans (hb3.mono HB3.out.size)).trans (hba3.mono (Nat.le_trans HB3.out.size hb3.size))
      clear H3 HB3 hf0 hf3 hb3 hba3 ls
      go_wp2_with fail
      refine (newRoom_any n o (w3.alloc (.cells #[.int .i64 0, .int .i64 0] 44)) (by omega) (by omega) (by omega)).mono ?_
      rintro e w5 ⟨rp, rq, rfl, hrm, r1, r2, hb5⟩
      dsimp only
      have H5 : Hid (Wf w5 pw p q pc pq s nb n o 0 0 (List.replicate (n + o) 0) (nC o) [] (tw 2 12)) := H4.out.below hb5
      have HB5 : Hid (Below w1.heap.size w1 w5) := HB4.out.trans (hb5.mono HB4.out.size)
      have HM5 : Hid (Rm w5 rp rq n o 0 0 (List.replicate (n + o) 0)) := hrm
      have L5' : Hid (∀ k, Wb pw p q pc pq s nb k → k < (w3.alloc (.cells #[.int .i64 0, .int .i64 0] 44)).heap.size) := fun k hk => wf_lt H4.out k hk
      have hs4 := HB4.out.size
      generalize (w3.alloc (.cells #[.int .i64 0, .int .i64 0] 44)).heap.size = S4 at *
      clear H4 HB4 hrm hb5 x0 x1 l3
      go_wp2_with (at_make; refine wpList_make_full _ rfl _ _ 23 rfl w5.heap.size 2 i0 (.int .i64 0) 1 Try.underlying23 hi hz0 hz1 .i64 .i64 _ _ 12 rfl rfl (by omega) (by omega) (by rw [hz2]; omega) (by unfold maxLen; omega) (Nat.le_refl _) ?_; intro w6 hown6 hgrow6; have hg6 : Hid (_ ∧ _) := ⟨made_row hown6, hgrow6⟩; clear hown6 hgrow6)
      obtain ⟨hrb, hgr⟩ := hg6.out
      have hb6 : Below w5.heap.size w5 w6 := (Below.refl _ _).grown hgr (Nat.le_refl _) (fun k e => by cases e)
      have HR6 : Hid (w6.heap[w5.heap.size]? = some (.cells ((tw 2 0).map (Value.int .i64)).toArray 2 (0, 0))) := hrb
      have HB6 : Hid (Below w5.heap.size w5 w6) := hb6
      clear hrb hgr hg6 hb6
      go_loopw [12] (fun iv wr => ∃ j : Nat, j ≤ 12 ∧ iv = .int .i64 j ∧ Hid (wr.heap[w5.heap.size]? = some (.cells ((tw 2 j).map (Value.int .i64)).toArray 2 (0, 0))) ∧ Hid (Below w5.heap.size w5 wr)) (fun iv _ => 12 - (intOf iv).toNat)
      case atStart => exact ⟨0, by omega, rfl, HR6, HB6⟩
      case round =>
        clear HR6 HB6
        obtain ⟨j, hj, rfl, HRj, HBj⟩ := hrel
        by_cases hlt : j < 12
        · have j0 : (0 : Int) ≤ (j : Int) := by omega
          have j1 : (j : Int) < 12 := by omega
          have tl := tw_len 2 j (by omega)
          have x0 : wr.cell? ⟨w5.heap.size, j, none⟩ = some (.int .i64 ((tw 2 j).getD j 0)) := by simp [World.cell?, HRj.out, List.getElem?_map, List.getElem?_eq_getElem (show j < (tw 2 j).length by omega), List.getD_eq_getElem?_getD]
          have x1 : wr.frozen? ⟨w5.heap.size, j, none⟩ = false := by simp [World.frozen?, HRj.out]
          have HRn : Hid ((wr.setCell ⟨w5.heap.size, j, none⟩ (.int .i64 2)).heap[w5.heap.size]? = some (.cells ((tw 2 (j + 1)).map (Value.int .i64)).toArray 2 (0, 0))) := by
            have hq := HRj.out
            show _ = _
            simp only [World.setCell, Array.getElem?_modify, if_true, hq, Option.map_some]
            rw [← tw_set j hlt]
            simp [List.map_set]
          have HBn : Hid (Below w5.heap.size w5 (wr.setCell ⟨w5.heap.size, j, none⟩ (.int .i64 2))) := HBj.out.trans (((Fr.refl (fun k => k = w5.heap.size) wr).set w5.heap.size j _ rfl).below HBj.out.size (fun k e => Nat.le_of_eq (Eq.symm e)))
          go_wp2_with fail
          go_roundw
          case rel => exact ⟨j + 1, by omega, by go_num, HRn, HBn⟩
          case measure => simp [intOf]; omega
        · obtain rfl : j = 12 := by omega
          have hWx : Wx w1 wr pw p q pc pq s nb rp rq w5.heap.size n o 0 0 (List.replicate (n + o) 0) [] (tw 2 12) 0 0 (List.replicate (n + o) 0) [] (tw 2 12) (.slice none 0 0) := by
            refine ⟨H5.out.below HBj.out, ⟨HM5.out.below HBj.out (Nat.le_refl _), HRj.out, by decide, World.ownsRow_nil _ _ _ _, Nat.ne_of_lt HM5.out.ltq⟩, fun k hk hb => ?_, fun k hk => ?_, HB5.out.trans (HBj.out.mono HB5.out.size)⟩
            · have h1 := L5'.out k hk
              have h2 := wf_lt H5.out k hk
              rcases hb with e | e | e | e
              · omega
              · omega
              · omega
              · simp [Value.ownBlock] at e
            · have h5 := HB5.out.size
              rcases hk with (e | e | e | e | e | e | e) | (e | e | e | e)
              all_goals first | omega | (simp [Value.ownBlock] at e)
          have HW0 : Hid (Wx w1 wr pw p q pc pq s nb rp rq w5.heap.size n o 0 0 (List.replicate (n + o) 0) [] (tw 2 12) 0 0 (List.replicate (n + o) 0) [] (tw 2 12) (.slice none 0 0)) := hWx
          have HI0 : Hid (WInv n 0 0 (List.replicate (n + o) 0) [] [] (tw 2 12)) := ⟨Full2.start, fun x hx ha => by
            have e : x = 2 := by simpa [tw] using hx
            rw [e] at ha
            exact absurd ha (by decide), fun v hv => by simp at hv⟩
          clear hWx HRj HBj H5 HM5 L5'
          iterate 25 go_step
          refine rest_wp HL hb1 (by omega) (by omega) HW0.out HI0.out ?_
          intro a' w' ha hd hb
          simp only [Array.getD_eq_getD_getElem?] at ha
          exact bodyPost_ret (v := .bool true) (by simp [results, Try.results4, ha]) hd ⟨rfl, hb⟩

end Go.Proofs.Ytglddgjljohkiab.WDo
