/- A wood: fieldAt, Get: contracts. -/
import Derived.Test.YtglddgjljohkiabWo2
namespace Go.Proofs.Ytglddgjljohkiab
open Go.RowKit W

theorem pf_bd (h : Int) : 0 ≤ pf h ∧ pf h ≤ 12 := by
  unfold pf
  split
  · have := hc_bd _ _ (by assumption)
    omega
  · omega
theorem ths_bd {N y g : Nat} {ws : List Int} {hi : Int} : ∀ (k : Nat) (a x : Int), x ∈ ths N y g ws hi k a → a ≤ x ∧ x < hi
  | 0, _, _, h => by simp [ths] at h
  | k + 1, a, x, h => by
    unfold ths at h
    split at h
    · split at h
      · rcases List.mem_cons.1 h with h | h
        · rw [h]; exact ⟨Int.le_refl _, by assumption⟩
        · have h1 := ths_bd k _ x h
          have h2 := pf_bd (ld N y g ws a)
          omega
      · simp at h
    · simp at h
/-- Where a thing begins is a place in use. -/
theorem tB_bd {N O y g : Nat} {ws : List Int} {x : Int} (h : tB N y g ws x = true) (hN : N ≤ 256) (hy : y ≤ N) (hO : O ≤ 1024) (hg : g ≤ O) : 0 ≤ aV x ∧ aV x ≤ 1280 := by
  unfold tB at h
  simp only [Bool.and_eq_true, Bool.or_eq_true, List.contains_iff_mem] at h
  rcases h.2 with h | h
  · have := ths_bd _ _ _ h
    omega
  · have := ths_bd _ _ _ h
    omega

/-- The code of a field. -/
def fcC (N y g : Nat) (ws : List Int) (x i : Int) : Int :=
  if tB N y g ws x = true then (if pk (ld N y g ws (aV x)) = 5 then 2 else if i < 0 ∨ stN N y g (aV x) (pf (ld N y g ws (aV x))) ≤ i then 1 else 0) else 2

section
variable {pw p q N O y g : Nat} {ws : List Int}

set_option maxRecDepth 100000 in
set_option maxHeartbeats 1000000 in
theorem fieldAt_any (x i : Int) (w : World) (hc : w.cell? ⟨pw, 0, none⟩ = some (.pointer (some ⟨p, 0, none⟩))) (h : At w p q N O y g ws) :
    Calls Try.prog 69 #[.pointer (some ⟨pw, 0, none⟩), .int .i64 x, .int .i64 i] w fun e w' => e = .returned (.tuple #[.int .i64 (if fcC N y g ws x i = 0 then aV x else 0), .int .i64 (if fcC N y g ws x i = 0 then aV x + 1 + i else 0), .int .i64 (fcC N y g ws x i)]) ∧ Below w.heap.size w w' := by
  have HA : Hid (At w p q N O y g ws) := h
  have lpw := World.block_lt_of_cell? w _ hc
  have P := thingAt_any' x w hc h
  have k1 := h.hN'
  have k2 := h.hy
  have k3 := h.hO
  have k4 := h.hg
  clear h
  cases ht : tB N y g ws x
  · rw [ht] at P
    have e0 : fcC N y g ws x i = 2 := by unfold fcC; rw [ht, if_neg (by simp)]
    rw [e0, if_neg (by decide), if_neg (by decide)]
    generalize tV N y g ws x = v at P
    go_enter Try.func69, Try.ntmps69
    go_wp2_with fail
    refine P.mono ?_
    clear P
    rintro e w1 ⟨rfl, hb1⟩
    go_wp2_with fail
    go_ret3
    exact ⟨rfl, hb1⟩
  · obtain ⟨b0, b1⟩ := tB_bd (O := O) ht k1 k2 k3 k4
    have hpf := pf_bd (ld N y g ws (aV x))
    rw [ht] at P
    have ev : tV N y g ws x = aV x := by simp [tV, ht]
    rw [ev] at P
    have e0 : fcC N y g ws x i = if pk (ld N y g ws (aV x)) = 5 then 2 else if i < 0 ∨ stN N y g (aV x) (pf (ld N y g ws (aV x))) ≤ i then 1 else 0 := by unfold fcC; rw [if_pos ht]
    rw [e0]
    clear e0 ht ev
    generalize aV x = v at P hpf b0 b1
    have K : Hid (∀ w1, Below w.heap.size w w1 → Calls Try.prog 63 #[.pointer (some ⟨p, 0, none⟩), .int .i64 v] w1 fun e w' => e = .returned (.tuple #[.int .i64 (pk (ld N y g ws v)), .int .i64 (pf (ld N y g ws v)), .int .i64 (pc (ld N y g ws v))]) ∧ Below w1.heap.size w1 w') := fun w1 hb => thing_any v w1 (HA.out.below hb (Nat.le_refl _))
    have KS : Hid (∀ w1, Below w.heap.size w w1 → Calls Try.prog 95 #[.pointer (some ⟨pw, 0, none⟩), .int .i64 v, .int .i64 (pf (ld N y g ws v))] w1 fun e w' => e = .returned (.int .i64 (stN N y g v (pf (ld N y g ws v)))) ∧ Below w1.heap.size w1 w') := fun w1 hb => standing_any v _ w1 ((hb.cell (p := ⟨pw, 0, none⟩) lpw).trans hc) (HA.out.below hb (Nat.le_refl _)) b0 (by omega)
    have hst : stN N y g v (pf (ld N y g ws v)) ≤ 12 := by unfold stN; exact Int.le_trans (Int.min_le_left _ _) hpf.2
    clear HA hpf
    generalize stN N y g v (pf (ld N y g ws v)) = s at KS hst ⊢
    generalize pk (ld N y g ws v) = kd at K ⊢
    generalize pf (ld N y g ws v) = f at K KS
    generalize pc (ld N y g ws v) = cc at K
    by_cases h5 : kd = 5
    · subst h5
      rw [if_pos rfl, if_neg (by decide), if_neg (by decide)]
      go_enter Try.func69, Try.ntmps69
      go_wp2_with fail
      refine P.mono ?_
      clear P
      rintro e w1 ⟨rfl, hb1⟩
      have y1 := (hb1.cell (p := ⟨pw, 0, none⟩) lpw).trans hc
      go_wp2_with fail
      refine (K.out w1 hb1).mono ?_
      rintro e w2 ⟨rfl, hb2⟩
      have hb12 := hb1.trans (hb2.mono hb1.size)
      clear y1 hb1 hb2 K KS
      go_wp2_with fail
      go_ret3
      exact ⟨rfl, hb12⟩
    · rw [if_neg h5]
      by_cases hi : i < 0
      · rw [if_pos (Or.inl hi), if_neg (by decide), if_neg (by decide)]
        go_enter Try.func69, Try.ntmps69
        go_wp2_with fail
        refine P.mono ?_
        clear P
        rintro e w1 ⟨rfl, hb1⟩
        have y1 := (hb1.cell (p := ⟨pw, 0, none⟩) lpw).trans hc
        go_wp2_with fail
        refine (K.out w1 hb1).mono ?_
        rintro e w2 ⟨rfl, hb2⟩
        have hb12 := hb1.trans (hb2.mono hb1.size)
        clear y1 hb1 hb2 K KS
        go_wp2_with fail
        go_ret3
        exact ⟨rfl, hb12⟩
      · by_cases hs : s ≤ i
        · rw [if_pos (Or.inr hs), if_neg (by decide), if_neg (by decide)]
          go_enter Try.func69, Try.ntmps69
          go_wp2_with fail
          refine P.mono ?_
          clear P
          rintro e w1 ⟨rfl, hb1⟩
          have y1 := (hb1.cell (p := ⟨pw, 0, none⟩) lpw).trans hc
          go_wp2_with fail
          refine (K.out w1 hb1).mono ?_
          rintro e w2 ⟨rfl, hb2⟩
          have hb12 := hb1.trans (hb2.mono hb1.size)
          clear y1 hb1 hb2 K
          go_wp2_with fail
          refine (KS.out w2 hb12).mono ?_
          rintro e w3 ⟨rfl, hb3⟩
          have hb13 := hb12.trans (hb3.mono hb12.size)
          clear hb12 hb3 KS
          go_wp2_with fail
          go_ret3
          exact ⟨rfl, hb13⟩
        · have hx : ¬ (i < 0 ∨ s ≤ i) := by omega
          rw [if_neg hx, if_pos rfl, if_pos rfl]
          go_enter Try.func69, Try.ntmps69
          go_wp2_with fail
          refine P.mono ?_
          clear P
          rintro e w1 ⟨rfl, hb1⟩
          have y1 := (hb1.cell (p := ⟨pw, 0, none⟩) lpw).trans hc
          go_wp2_with fail
          refine (K.out w1 hb1).mono ?_
          rintro e w2 ⟨rfl, hb2⟩
          have hb12 := hb1.trans (hb2.mono hb1.size)
          clear y1 hb1 hb2 K
          go_wp2_with fail
          refine (KS.out w2 hb12).mono ?_
          rintro e w3 ⟨rfl, hb3⟩
          have hb13 := hb12.trans (hb3.mono hb12.size)
          clear hb12 hb3 KS
          go_wp2_with fail
          go_ret3
          exact ⟨rfl, hb13⟩

set_option maxRecDepth 100000 in
set_option maxHeartbeats 1000000 in
theorem get_any (x i : Int) (w : World) (hc : w.cell? ⟨pw, 0, none⟩ = some (.pointer (some ⟨p, 0, none⟩))) (h : At w p q N O y g ws) :
    Calls Try.prog 26 #[.pointer (some ⟨pw, 0, none⟩), .int .i64 x, .int .i64 i] w fun e w' => e = .returned (.tuple #[.int .i64 (if fcC N y g ws x i = 0 then ld N y g ws (aV x + 1 + i) else 0), .int .i64 (fcC N y g ws x i)]) ∧ Below w.heap.size w w' := by
  have HA : Hid (At w p q N O y g ws) := h
  have lpw := World.block_lt_of_cell? w _ hc
  have P := fieldAt_any x i w hc h
  clear h
  generalize fcC N y g ws x i = cd at P ⊢
  by_cases h0 : cd = 0
  · subst h0
    rw [if_pos rfl, if_pos rfl] at P
    rw [if_pos rfl]
    generalize aV x + 1 + i = fl at P ⊢
    generalize aV x = v at P
    go_enter Try.func26, Try.ntmps26
    go_wp2_with fail
    refine P.mono ?_
    clear P
    rintro e w1 ⟨rfl, hb1⟩
    have y1 := (hb1.cell (p := ⟨pw, 0, none⟩) lpw).trans hc
    go_wp2_with fail
    refine (load_any fl w1 (HA.out.below hb1 (Nat.le_refl _))).mono ?_
    rintro e w2 ⟨rfl, hb2⟩
    have hb12 := hb1.trans (hb2.mono hb1.size)
    clear y1 hb1 hb2
    go_wp2_with fail
    go_ret2
    exact ⟨rfl, hb12⟩
  · rw [if_neg h0, if_neg h0] at P
    rw [if_neg h0]
    go_enter Try.func26, Try.ntmps26
    go_wp2_with fail
    refine P.mono ?_
    clear P
    rintro e w1 ⟨rfl, hb1⟩
    go_wp2_with fail
    go_ret2
    exact ⟨rfl, hb1⟩
end

end Go.Proofs.Ytglddgjljohkiab
