/- A walk: what a node shows, and where a walk begins: contracts. -/
import Derived.Test.YtglddgjljohkiabVw2
import Derived.Deep.RegionHeld3
namespace Go.Proofs.Ytglddgjljohkiab
open Go.RowKit W Kp Stl

/-- The words that a node shows. -/
def shL (N y g : Nat) (ws : List Int) (Q : List En) (a : Int) : List Int :=
  if pk (ld N y g ws a) = 5 then atL Q (ew 3 a) else (List.range (stN N y g a (pf (ld N y g ws a))).toNat).map (fun i : Nat => ld N y g ws (a + 1 + (i : Int)))
theorem shL_len (N y g : Nat) (ws : List Int) (Q : List En) (a : Int) : (shL N y g ws Q a).length ≤ Q.length + 12 := by
  unfold shL
  split
  · have := atL_len Q (ew 3 a)
    omega
  · have h1 : stN N y g a (pf (ld N y g ws a)) ≤ 12 := by unfold stN; exact Int.le_trans (Int.min_le_left _ _) (pf_bd _).2
    simp
    omega

section
variable {w : World} {pw p q N O y g : Nat} {ws : List Int} {sd : Nat} {v0 : Value} {a1 : Option Addr} {k1 : Nat} {Q : List En}

set_option maxRecDepth 100000 in
set_option maxHeartbeats 1000000 in
theorem shown_any (h : Wq w pw p q N O y g ws sd v0 a1 k1 Q) (kb : Nat) (hk : w.cell? ⟨kb, 0, none⟩ = some (.pointer (some ⟨pw, 0, none⟩))) (a : Int) (l0 : 0 ≤ a) (l1 : a ≤ 100000) :
    Calls Try.prog 113 #[.pointer (some ⟨kb, 0, none⟩), .int .i64 a, .int .i64 (pk (ld N y g ws a)), .int .i64 (pf (ld N y g ws a))] w fun e w' => ∃ ad cap, e = .returned (.slice ad (shL N y g ws Q a).length cap) ∧ w'.ownsRow w.heap.size 2 1 (.slice ad (shL N y g ws Q a).length cap) (shL N y g ws Q a).length ((shL N y g ws Q a).map (Value.int .i64)) ∧ Below w.heap.size w w' := by
  obtain ⟨i0, hi, hz0, hz1, hz2⟩ := info_parts info64
  have H : Hid (Wq w pw p q N O y g ws sd v0 a1 k1 Q) := h
  have c0 := h.c0
  have c2 := h.c2
  have lpw := World.block_lt_of_cell? w _ c0
  have lkb := World.block_lt_of_cell? w _ hk
  clear h
  by_cases h5 : pk (ld N y g ws a) = 5
  · have e0 : shL N y g ws Q a = atL Q (ew 3 a) := by unfold shL; rw [if_pos h5]
    rw [e0, h5]
    clear e0 h5
    generalize pf (ld N y g ws a) = f
    have hd := (Below.refl w.heap.size w).drew
    go_enter Try.func113, Try.ntmps113
    go_wp2_with fail
    go_region_held3 (fun w' => w'.cell? ⟨kb, 0, none⟩ = some (.pointer (some ⟨pw, 0, none⟩)) ∧ w'.cell? ⟨pw, 2, none⟩ = some (.pointer (some ⟨sd, 0, none⟩))) (first | exact ⟨hk, c2⟩ | exact ⟨u0, u1⟩ | exact ⟨v0', v1'⟩ | go_keep)
      (first | (have hb8 := hb3; go_at_call 114; refine (atS_any _ sd v0 a1 k1 Q (ew 3 a) (H.out.low hb3).hs (H.out.low hb3).hp (H.out.low hb3).hm).mono ?_; rintro e w5 ⟨ad, cap, rfl, hR5, hb5⟩; have l5 := hb5.size; have v0' := (hb5.cell (p := ⟨kb, 0, none⟩) (Nat.lt_of_lt_of_le lkb l3)).trans u0; have v1' := (hb5.cell (p := ⟨pw, 2, none⟩) (Nat.lt_of_lt_of_le lpw l3)).trans u1)
             | (go_at_call 21; refine (ref_any a _).mono ?_; rintro e w3 ⟨rfl, hb3'⟩; have hb3 : Below w.heap.size w w3 := hd.trans hb3'; have l3 := hb3.size; have u0 := (hb3.cell (p := ⟨kb, 0, none⟩) lkb).trans hk; have u1 := (hb3.cell (p := ⟨pw, 2, none⟩) lpw).trans c2))
    go_wp2_with fail
    go_ret
    exact ⟨ad, cap, rfl, row_base hR5 (fun k e => Nat.le_trans l3 (row_lt hR5 k e).1), hb3.trans (hb5.mono l3)⟩
  · have e0 : shL N y g ws Q a = (List.range (stN N y g a (pf (ld N y g ws a))).toNat).map (fun i : Nat => ld N y g ws (a + 1 + (i : Int))) := by unfold shL; rw [if_neg h5]
    rw [e0]
    have hst : stN N y g a (pf (ld N y g ws a)) ≤ 12 := by unfold stN; exact Int.le_trans (Int.min_le_left _ _) (pf_bd _).2
    have KS := standing_any a (pf (ld N y g ws a)) w c0 H.out.ar l0 l1
    clear e0
    generalize stN N y g a (pf (ld N y g ws a)) = st at KS hst ⊢
    generalize pf (ld N y g ws a) = f at KS ⊢
    generalize pk (ld N y g ws a) = kd at h5 ⊢
    have KL : Hid (∀ w1 x, Below w.heap.size w w1 → Calls Try.prog 70 #[.pointer (some ⟨p, 0, none⟩), .int .i64 x] w1 fun e w' => e = .returned (.int .i64 (ld N y g ws x)) ∧ Below w1.heap.size w1 w') := fun w1 x hb => load_any x w1 (H.out.low hb).ar
    clear H
    simp only [List.length_map, List.length_range]
    go_enter Try.func113, Try.ntmps113
    go_wp2_with fail
    refine KS.mono ?_
    clear KS
    rintro e w1 ⟨rfl, hb1⟩
    go_wp2_with fail
    go_loopw [9, 30] (fun tv iv wr => ∃ (j : Nat) (at1 : Option Addr) (ct : Nat), j ≤ st.toNat ∧ iv = .int .i64 j ∧ tv = .slice at1 j ct ∧ wr.ownsRow w.heap.size 2 1 (.slice at1 j ct) j (((List.range j).map (fun i : Nat => ld N y g ws (a + 1 + (i : Int)))).map (Value.int .i64)) ∧ Below w.heap.size w wr) (fun _ iv _ => st.toNat - (intOf iv).toNat)
    case atStart => exact ⟨0, none, 0, Nat.zero_le _, rfl, rfl, World.ownsRow_nil _ _ _ _, hb1⟩
    case round =>
      obtain ⟨j, at1, ct, hj, rfl, rfl, hT, hb⟩ := hrel
      clear hb1
      by_cases hlt : j < st.toNat
      · have x0 := (hb.cell (p := ⟨kb, 0, none⟩) lkb).trans hk
        have x1 := (hb.cell (p := ⟨pw, 0, none⟩) lpw).trans c0
        have hj1 : (j : Int) < st := by omega
        have hsz := hb.size
        go_wp2_with fail
        refine (KL.out wr (a + 1 + (j : Int)) hb).mono ?_
        rintro e w2 ⟨rfl, hb2⟩
        have hT2 := row_keep hT (fun k e => hb2.block k (row_lt hT k e).2)
        have hb12 := hb.trans (hb2.mono hsz)
        have hsz2 := hb12.size
        have eL : (((List.range (j + 1)).map (fun i : Nat => ld N y g ws (a + 1 + (i : Int)))).map (Value.int .i64)) = (((List.range j).map (fun i : Nat => ld N y g ws (a + 1 + (i : Int)))).map (Value.int .i64)) ++ [.int .i64 (ld N y g ws (a + 1 + (j : Int)))] := by simp [List.range_succ]
        have EL : Hid (_ = _) := eL
        clear eL hT hb hb2 x0 x1
        generalize ld N y g ws (a + 1 + (j : Int)) = z at EL ⊢
        generalize ((List.range j).map (fun i : Nat => ld N y g ws (a + 1 + (i : Int)))).map (Value.int .i64) = L at hT2 EL
        go_wp2_with (at_builtin; refine wpList_append_own_at _ rfl _ _ 23 rfl w.heap.size 2 i0 (.int .i64 0) 1 8 Try.underlying23 hi hz0 hz1 hz2 rfl (by decide) (.slice at1 j ct) j L rfl (row_alloc hT2 _) ⟨w2.heap.size, 0, none⟩ 1 1 [.int .i64 z] rfl rfl ?_ ?_ ?_ ?_ ?_ ?_; (intro j u hj; match j, hj with | 0, hj => (simp at hj; subst hj; simp [Addr.add])); (intro u hu; simp at hu; subst hu; rfl); (unfold maxLen; omega); omega; (simp; omega); intro v' w4 hown4 hgrow4 _ hloc4; obtain ⟨b4, cap4, ev4⟩ := row_shape hown4 (Nat.succ_pos _); subst ev4)
        have hT4 : w4.ownsRow w.heap.size 2 1 (.slice (some ⟨b4, 0, none⟩) (j + 1) cap4) (j + 1) (((List.range (j + 1)).map (fun i : Nat => ld N y g ws (a + 1 + (i : Int)))).map (Value.int .i64)) := by rw [EL.out]; exact hown4
        have hb4 := (hb12.alloc hsz2 _).grown hgrow4 (by simp; omega) (fun k e => (row_lt hT2 k e.symm).1)
        clear hown4 hgrow4 hloc4 hT2 hb12 EL
        go_wp2_with fail
        go_roundw
        case rel => exact ⟨j + 1, some ⟨b4, 0, none⟩, cap4, by omega, by go_num, rfl, hT4, hb4⟩
        case measure => simp [intOf]; omega
      · obtain rfl : j = st.toNat := by omega
        have hj1 : ¬ ((st.toNat : Nat) : Int) < st := by omega
        go_wp2_with fail
        go_ret
        exact ⟨at1, ct, rfl, by rw [List.map_map] at hT; exact hT, hb⟩
end

end Go.Proofs.Ytglddgjljohkiab
