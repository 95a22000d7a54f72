/- Joined: Gx23, Gx24, Gx25. -/
import Derived.Test.YtogknhogphkddaaGreatJ30
/- A grove in memory: root, case by case: one root is read (groot.py). -/
namespace Go.Proofs.YtogknhogphkddaaGreat
open Go.RowKit W Kp Stl

section
variable {gp rb : Nat} {most grow : Int} {F F' : Nat → Prop} {s S2 : Wrs} {w W1 w2 : World} {k R A B I n : Int}

abbrev rtW (w : World) (k R A B I n : Int) : World := (w.alloc (hsC k R A B I n)).alloc (.cells #[.int .i64 0, .int .i64 0] 54)
theorem rt_pre (h : (grO gp most grow rb).J F s w) (k R A B I n : Int) : Below w.heap.size w (rtW w k R A B I n) ∧ (rtW w k R A B I n).heap[w.heap.size]? = some (hsC k R A B I n) ∧ (rtW w k R A B I n).heap[w.heap.size + 1]? = some (.cells #[.int .i64 0, .int .i64 0] 54 (0, 0)) ∧ (rtW w k R A B I n).cell? ⟨gp, 6, none⟩ = some (.slice (some ⟨rb, 0, none⟩) 12 12) ∧
    (∀ i, i < 12 → (rtW w k R A B I n).cell? ⟨rb, i * 2, none⟩ = some (.int .i64 (s.rs.getD i (0, 0)).1) ∧ (rtW w k R A B I n).cell? ⟨rb, i * 2 + 1, none⟩ = some (.int .i64 (s.rs.getD i (0, 0)).2)) ∧ gp ≠ w.heap.size + 1 ∧ rb ≠ w.heap.size + 1 := by
  have b : Below w.heap.size w (rtW w k R A B I n) := ((Below.refl _ _).alloc (Nat.le_refl _) _).alloc (by simp) _
  obtain ⟨c6, rt, Fg, Fr_⟩ := grO_lk ((grO gp most grow rb).below h b)
  have l1 := (grO gp most grow rb).lt h _ Fg
  have l2 := (grO gp most grow rb).lt h _ Fr_
  exact ⟨b, (Below.heap_alloc _ _ _ (by simp)).trans (heap_alloc_new w _), alloc_snd w _ _, c6, rt, by omega, by omega⟩
theorem rt_post (h : (grO gp most grow rb).J F s w) (b1 : Below w.heap.size w W1) (x0 : W1.heap[w.heap.size]? = some (hsC k R A B I n)) (x1 : W1.heap[w.heap.size + 1]? = some (.cells #[.int .i64 0, .int .i64 0] 54 (0, 0))) (hj : (grO gp most grow rb).J F' S2 w2) (tn : Tn F W1 F' w2) (hrs : S2.rs = s.rs) :
    (w2.cell? ⟨gp, 6, none⟩ = some (.slice (some ⟨rb, 0, none⟩) 12 12) ∧ (∀ i, i < 12 → w2.cell? ⟨rb, i * 2, none⟩ = some (.int .i64 (s.rs.getD i (0, 0)).1) ∧ w2.cell? ⟨rb, i * 2 + 1, none⟩ = some (.int .i64 (s.rs.getD i (0, 0)).2)) ∧ w2.heap[w.heap.size]? = some (hsC k R A B I n)) ∧
    w2.heap[w.heap.size + 1]? = some (.cells #[.int .i64 0, .int .i64 0] 54 (0, 0)) ∧ Hid ((grO gp most grow rb).J F' S2 w2 ∧ Tn F w F' w2 ∧ ¬ F' (w.heap.size + 1)) := by
  have lF : ∀ b, F b → b < w.heap.size := fun b hb => (grO gp most grow rb).lt h b hb
  obtain ⟨d6, rt, _, _⟩ := grO_lk hj
  rw [hrs] at rt
  have kp : ∀ b, w.heap.size ≤ b → b < W1.heap.size → w2.heap[b]? = W1.heap[b]? := fun b h1 h2 => tn.fr.block b h2 (fun d => by have := lF b d; omega)
  refine ⟨⟨d6, rt, (kp _ (Nat.le_refl _) (lt_of_some x0)).trans x0⟩, (kp _ (Nat.le_succ _) (lt_of_some x1)).trans x1, hj, (Tn.of b1).trans tn, fun d => ?_⟩
  have l1 := lt_of_some x1
  rcases tn.sub _ d with d | d
  · have := lF _ d
    omega
  · omega
theorem rv_of (hv : Wcv s) (hl : s.rs.length = 12) {A : Nat} (hA : A < 12) : (s.rs.getD A (0, 0)).1 = 3 → 0 ≤ (s.rs.getD A (0, 0)).2 ∧ Alv s.T (s.rs.getD A (0, 0)).2.toNat := hv.rv _ (getD_in (by omega))
theorem rs12 (h : (grO gp most grow rb).J F s w) : s.rs.length = 12 := by
  obtain ⟨l, h, _⟩ := h
  exact h.g4.rl

def Wrs.gt (s : Wrs) (v : Int × Int) (I : Int) : (Int × Int) × Int × Wrs := ((if s.fc v I = 0 then (s.T.getD v.2.toNat t0).2.1.getD I.toNat (0, 0) else (0, 0)), s.fc v I, s)
def Wrs.ln (s : Wrs) (v : Int × Int) : (Int × Int) × Int × Wrs := if fdb s.T v = true then ((1, ((s.T.getD v.2.toNat t0).2.1.length : Int)), 0, s) else ((0, 0), 2, s)
theorem gt_s (s : Wrs) (v : Int × Int) (I : Int) : (s.gt v I).2.2 = s := rfl
theorem ln_s (s : Wrs) (v : Int × Int) : (s.ln v).2.2 = s := by
  unfold Wrs.ln
  split <;> rfl
theorem getG_any (h : (grO gp most grow rb).J F s w) (v : Int × Int) (i : Int) (hv : v.1 = 3 → 0 ≤ v.2 ∧ Alv s.T v.2.toNat) (hT : s.T.length ≤ 10000) :
    Calls Tryz.prog 43 #[.pointer (some ⟨gp, 0, none⟩), .agg #[.int .i64 v.1, .int .i64 v.2], .int .i64 i] w fun e w' => ∃ F', e = .returned (.tuple #[.agg #[.int .i64 (s.gt v i).1.1, .int .i64 (s.gt v i).1.2], .int .i64 (s.gt v i).2.1]) ∧ (grO gp most grow rb).J F' (s.gt v i).2.2 w' ∧ Tn F w F' w' := by
  have hJ := h
  obtain ⟨l, h, _, _⟩ := h
  have fin : ∀ (a b c : Int), (s.gt v i).1 = (a, b) → (s.gt v i).2.1 = c → ∀ (e : Ending) (w' : World), (e = .returned (.tuple #[.agg #[.int .i64 a, .int .i64 b], .int .i64 c]) ∧ Below w.heap.size w w') → ∃ F', e = .returned (.tuple #[.agg #[.int .i64 (s.gt v i).1.1, .int .i64 (s.gt v i).1.2], .int .i64 (s.gt v i).2.1]) ∧ (grO gp most grow rb).J F' (s.gt v i).2.2 w' ∧ Tn F w F' w' := by
    rintro a b c e1 e2 e w' ⟨rfl, hb⟩
    rw [e1, e2, gt_s]
    exact ⟨F, rfl, (grO gp most grow rb).below hJ hb, Tn.of hb⟩
  by_cases hf : v.1 = 3 ∧ (s.T.getD v.2.toNat t0).1 ≠ 5
  · obtain ⟨h3, h5⟩ := hf
    have hd : fdb s.T v = true := fdb_iff.2 ⟨h3, h5⟩
    have hx := hv h3
    by_cases hi : i < 0 ∨ ((s.T.getD v.2.toNat t0).2.1.length : Int) ≤ i
    · have ec : s.fc v i = 1 := by unfold Wrs.fc; rw [if_pos hd, if_pos hi]
      rw [h3]
      exact (getG_no1 h v.2 i hx hT h5 hi).mono (fin 0 0 1 (by unfold Wrs.gt; rw [ec]; rfl) ec)
    · have ec : s.fc v i = 0 := by unfold Wrs.fc; rw [if_pos hd, if_neg hi]
      obtain ⟨m, rfl⟩ := Int.eq_ofNat_of_zero_le (a := i) (by omega)
      rw [h3]
      exact (getG_yes h v.2 m hx hT h5 (by omega)).mono (fin _ _ 0 (by unfold Wrs.gt; rw [ec]; rfl) ec)
  · have ec : s.fc v i = 2 := by
      unfold Wrs.fc
      rw [if_neg (fun c => hf (fdb_iff.1 c))]
    exact (getG_no2 h v i hv hT (fun h3 => Classical.byContradiction (fun c => hf ⟨h3, c⟩))).mono (fin 0 0 2 (by unfold Wrs.gt; rw [ec]; rfl) ec)
theorem lengthG_any (h : (grO gp most grow rb).J F s w) (v : Int × Int) (hv : v.1 = 3 → 0 ≤ v.2 ∧ Alv s.T v.2.toNat) (hT : s.T.length ≤ 10000) :
    Calls Tryz.prog 49 #[.pointer (some ⟨gp, 0, none⟩), .agg #[.int .i64 v.1, .int .i64 v.2]] w fun e w' => ∃ F', e = .returned (.tuple #[.agg #[.int .i64 (s.ln v).1.1, .int .i64 (s.ln v).1.2], .int .i64 (s.ln v).2.1]) ∧ (grO gp most grow rb).J F' (s.ln v).2.2 w' ∧ Tn F w F' w' := by
  have hJ := h
  obtain ⟨l, h, _, _⟩ := h
  by_cases hf : v.1 = 3 ∧ (s.T.getD v.2.toNat t0).1 ≠ 5
  · obtain ⟨h3, h5⟩ := hf
    have e : s.ln v = ((1, ((s.T.getD v.2.toNat t0).2.1.length : Int)), 0, s) := if_pos (fdb_iff.2 ⟨h3, h5⟩)
    rw [e, h3]
    refine (lengthG_yes h v.2 (hv h3) hT h5).mono ?_
    rintro e w' ⟨rfl, hb⟩
    exact ⟨F, rfl, (grO gp most grow rb).below hJ hb, Tn.of hb⟩
  · have e : s.ln v = ((0, 0), 2, s) := if_neg (fun c => hf (fdb_iff.1 c))
    rw [e]
    refine (lengthG_no h v hv hT (fun h3 => Classical.byContradiction (fun c => hf ⟨h3, c⟩))).mono ?_
    rintro e w' ⟨rfl, hb⟩
    exact ⟨F, rfl, (grO gp most grow rb).below hJ hb, Tn.of hb⟩
end

section
variable {gp rb : Nat} {most grow : Int} {F : Nat → Prop} {s : Wrs} {w : World}

set_option maxRecDepth 100000 in
set_option maxHeartbeats 4000000 in
theorem rootG_pop (h : (grO gp most grow rb).J F s w) (hv : Wcv s) (R B I n : Int) (A : Nat) (hA : A < 12) :
    Calls Tryz.prog 23 #[.pointer (some ⟨gp, 0, none⟩), hsV 10 R A B I n] w fun e w' => ∃ F', e = .returned (.tuple #[.agg #[.int .i64 (s.pop (s.rs.getD A (0, 0))).1.1, .int .i64 (s.pop (s.rs.getD A (0, 0))).1.2], .int .i64 (s.pop (s.rs.getD A (0, 0))).2.1]) ∧ (grO gp most grow rb).J F' (s.pop (s.rs.getD A (0, 0))).2.2 w' ∧ Tn F w F' w' := by
  obtain ⟨hb0, x0, x1, c6, rt, ng, nr⟩ := rt_pre h 10 R A B I n
  have hrv := rv_of hv (rs12 h) hA
  have hd : Below w.heap.size w (rtW w 10 R A B I n).drew := hb0.drew
  have P := popG_any ((grO gp most grow rb).below h hd) (s.rs.getD A (0, 0)) hrv hv.tl (Nat.le_trans hv.wl (by decide))
  have HP : Calls Tryz.prog 48 #[.pointer (some ⟨gp, 0, none⟩), .agg #[.int .i64 (s.rs.getD A (0, 0)).1, .int .i64 (s.rs.getD A (0, 0)).2]] (rtW w 10 R A B I n).drew fun e w2 => ∃ F', e = .returned (.tuple #[.agg #[.int .i64 (s.pop (s.rs.getD A (0, 0))).1.1, .int .i64 (s.pop (s.rs.getD A (0, 0))).1.2], .int .i64 (s.pop (s.rs.getD A (0, 0))).2.1]) ∧
      (w2.cell? ⟨gp, 6, none⟩ = some (.slice (some ⟨rb, 0, none⟩) 12 12) ∧ w2.cell? ⟨rb, A * 2, none⟩ = some (.int .i64 (s.rs.getD A (0, 0)).1) ∧ w2.cell? ⟨rb, A * 2 + 1, none⟩ = some (.int .i64 (s.rs.getD A (0, 0)).2) ∧ w2.cell? ⟨w.heap.size, 2, none⟩ = some (.int .i64 A)) ∧
      w2.heap[w.heap.size + 1]? = some (.cells #[.int .i64 0, .int .i64 0] 54 (0, 0)) ∧ Hid ((grO gp most grow rb).J F' (s.pop (s.rs.getD A (0, 0))).2.2 w2 ∧ Tn F w F' w2 ∧ ¬ F' (w.heap.size + 1)) := by
    refine P.mono ?_
    rintro e w2 ⟨F', rfl, hj, tn⟩
    obtain ⟨⟨d6, rt', y0⟩, y1, HJ⟩ := rt_post h hd x0 x1 hj tn (popW_rs _ _)
    obtain ⟨_, _, p2, _, p4, _⟩ := hs_cells y0
    exact ⟨F', rfl, ⟨d6, (rt' A hA).1, (rt' A hA).2, p2⟩, y1, HJ⟩
  clear P
  obtain ⟨ra0, ra1⟩ := rt A hA
  obtain ⟨q0, q1, q2, q3, q4, q5⟩ := hs_cells x0
  generalize s.pop (s.rs.getD A (0, 0)) = gr at *
  obtain ⟨⟨v0, v1⟩, cd, S2⟩ := gr
  dsimp only at HP ⊢
  generalize (s.rs.getD A (0, 0)).1 = a0 at *
  generalize (s.rs.getD A (0, 0)).2 = a1 at *
  have i0 : (0 : Int) ≤ (A : Int) := by omega
  have i1 : (A : Int) < 12 := by omega
  have nx : w.heap.size ≠ w.heap.size + 1 := by omega
  clear h hv hb0 hd x0 x1 rt hrv q0 q1 q3 q4 q5
  go_enter Tryz.func23, Tryz.ntmps23
  go_wp2_with fail
  go_region_held3 (fun w' => w'.cell? ⟨gp, 6, none⟩ = some (.slice (some ⟨rb, 0, none⟩) 12 12) ∧ w'.cell? ⟨rb, A * 2, none⟩ = some (.int .i64 a0) ∧ w'.cell? ⟨rb, A * 2 + 1, none⟩ = some (.int .i64 a1) ∧ w'.cell? ⟨w.heap.size, 2, none⟩ = some (.int .i64 A)) (first | exact ⟨far2 ng d1, far2 nr d2, far2 nr d3, far2 nx d4⟩ | (go_keep; done))
    (first | (go_at_call 48; refine HP.mono ?_; clear HP; rintro e w2 ⟨F', rfl, ⟨d1, d2, d3, d4⟩, y1, HJ⟩; obtain ⟨r0, r1, f0, lw⟩ := two_cells y1; have HN : Hid (_ = _) := y1; clear y1 c6 ra0 ra1 q2))
  all_goals
    clear d1 d2 d3 d4 ‹_ ∧ _›
    go_wp2_with fail
    obtain ⟨r0', r1', _, _⟩ := two_cells (set_two (v1 := .int .i64 v0) (v2 := .int .i64 v1) HN.out)
    exact bodyPost_ret (v := .tuple #[.agg #[.int .i64 v0, .int .i64 v1], .int .i64 cd]) (by simp [results, Tryz.results23, go_sem, r0', r1']) rfl ⟨F', rfl, Ob.set2 _ HJ.out.1 HJ.out.2.2 _ _, HJ.out.2.1.set2 (Nat.le_succ _) _ _⟩

set_option maxRecDepth 100000 in
set_option maxHeartbeats 4000000 in
theorem rootG_get (h : (grO gp most grow rb).J F s w) (hv : Wcv s) (R B I n : Int) (A : Nat) (hA : A < 12) :
    Calls Tryz.prog 23 #[.pointer (some ⟨gp, 0, none⟩), hsV 11 R A B I n] w fun e w' => ∃ F', e = .returned (.tuple #[.agg #[.int .i64 (s.gt (s.rs.getD A (0, 0)) I).1.1, .int .i64 (s.gt (s.rs.getD A (0, 0)) I).1.2], .int .i64 (s.gt (s.rs.getD A (0, 0)) I).2.1]) ∧ (grO gp most grow rb).J F' (s.gt (s.rs.getD A (0, 0)) I).2.2 w' ∧ Tn F w F' w' := by
  obtain ⟨hb0, x0, x1, c6, rt, ng, nr⟩ := rt_pre h 11 R A B I n
  have hrv := rv_of hv (rs12 h) hA
  have hd : Below w.heap.size w (rtW w 11 R A B I n).drew := hb0.drew
  have P := getG_any ((grO gp most grow rb).below h hd) (s.rs.getD A (0, 0)) I hrv hv.tl
  have HP : Calls Tryz.prog 43 #[.pointer (some ⟨gp, 0, none⟩), .agg #[.int .i64 (s.rs.getD A (0, 0)).1, .int .i64 (s.rs.getD A (0, 0)).2], .int .i64 I] (rtW w 11 R A B I n).drew fun e w2 => ∃ F', e = .returned (.tuple #[.agg #[.int .i64 (s.gt (s.rs.getD A (0, 0)) I).1.1, .int .i64 (s.gt (s.rs.getD A (0, 0)) I).1.2], .int .i64 (s.gt (s.rs.getD A (0, 0)) I).2.1]) ∧
      (w2.cell? ⟨gp, 6, none⟩ = some (.slice (some ⟨rb, 0, none⟩) 12 12) ∧ w2.cell? ⟨rb, A * 2, none⟩ = some (.int .i64 (s.rs.getD A (0, 0)).1) ∧ w2.cell? ⟨rb, A * 2 + 1, none⟩ = some (.int .i64 (s.rs.getD A (0, 0)).2) ∧ w2.cell? ⟨w.heap.size, 2, none⟩ = some (.int .i64 A) ∧ w2.cell? ⟨w.heap.size, 4, none⟩ = some (.int .i64 I)) ∧
      w2.heap[w.heap.size + 1]? = some (.cells #[.int .i64 0, .int .i64 0] 54 (0, 0)) ∧ Hid ((grO gp most grow rb).J F' (s.gt (s.rs.getD A (0, 0)) I).2.2 w2 ∧ Tn F w F' w2 ∧ ¬ F' (w.heap.size + 1)) := by
    refine P.mono ?_
    rintro e w2 ⟨F', rfl, hj, tn⟩
    obtain ⟨⟨d6, rt', y0⟩, y1, HJ⟩ := rt_post h hd x0 x1 hj tn rfl
    obtain ⟨_, _, p2, _, p4, _⟩ := hs_cells y0
    exact ⟨F', rfl, ⟨d6, (rt' A hA).1, (rt' A hA).2, p2, p4⟩, y1, HJ⟩
  clear P
  obtain ⟨ra0, ra1⟩ := rt A hA
  obtain ⟨q0, q1, q2, q3, q4, q5⟩ := hs_cells x0
  generalize s.gt (s.rs.getD A (0, 0)) I = gr at *
  obtain ⟨⟨v0, v1⟩, cd, S2⟩ := gr
  dsimp only at HP ⊢
  generalize (s.rs.getD A (0, 0)).1 = a0 at *
  generalize (s.rs.getD A (0, 0)).2 = a1 at *
  have i0 : (0 : Int) ≤ (A : Int) := by omega
  have i1 : (A : Int) < 12 := by omega
  have nx : w.heap.size ≠ w.heap.size + 1 := by omega
  clear h hv hb0 hd x0 x1 rt hrv q0 q1 q3 q5
  go_enter Tryz.func23, Tryz.ntmps23
  go_wp2_with fail
  go_region_held3 (fun w' => w'.cell? ⟨gp, 6, none⟩ = some (.slice (some ⟨rb, 0, none⟩) 12 12) ∧ w'.cell? ⟨rb, A * 2, none⟩ = some (.int .i64 a0) ∧ w'.cell? ⟨rb, A * 2 + 1, none⟩ = some (.int .i64 a1) ∧ w'.cell? ⟨w.heap.size, 2, none⟩ = some (.int .i64 A) ∧ w'.cell? ⟨w.heap.size, 4, none⟩ = some (.int .i64 I)) (first | exact ⟨far2 ng d1, far2 nr d2, far2 nr d3, far2 nx d4, far2 nx d5⟩ | (go_keep; done))
    (first | (go_at_call 43; refine HP.mono ?_; clear HP; rintro e w2 ⟨F', rfl, ⟨d1, d2, d3, d4, d5⟩, y1, HJ⟩; obtain ⟨r0, r1, f0, lw⟩ := two_cells y1; have HN : Hid (_ = _) := y1; clear y1 c6 ra0 ra1 q2 q4))
  all_goals
    clear d1 d2 d3 d4 d5 ‹_ ∧ _›
    go_wp2_with fail
    obtain ⟨r0', r1', _, _⟩ := two_cells (set_two (v1 := .int .i64 v0) (v2 := .int .i64 v1) HN.out)
    exact bodyPost_ret (v := .tuple #[.agg #[.int .i64 v0, .int .i64 v1], .int .i64 cd]) (by simp [results, Tryz.results23, go_sem, r0', r1']) rfl ⟨F', rfl, Ob.set2 _ HJ.out.1 HJ.out.2.2 _ _, HJ.out.2.1.set2 (Nat.le_succ _) _ _⟩

set_option maxRecDepth 100000 in
set_option maxHeartbeats 4000000 in
theorem rootG_len (h : (grO gp most grow rb).J F s w) (hv : Wcv s) (R B I n : Int) (A : Nat) (hA : A < 12) :
    Calls Tryz.prog 23 #[.pointer (some ⟨gp, 0, none⟩), hsV 13 R A B I n] w fun e w' => ∃ F', e = .returned (.tuple #[.agg #[.int .i64 (s.ln (s.rs.getD A (0, 0))).1.1, .int .i64 (s.ln (s.rs.getD A (0, 0))).1.2], .int .i64 (s.ln (s.rs.getD A (0, 0))).2.1]) ∧ (grO gp most grow rb).J F' (s.ln (s.rs.getD A (0, 0))).2.2 w' ∧ Tn F w F' w' := by
  obtain ⟨hb0, x0, x1, c6, rt, ng, nr⟩ := rt_pre h 13 R A B I n
  have hrv := rv_of hv (rs12 h) hA
  have hd : Below w.heap.size w (rtW w 13 R A B I n).drew := hb0.drew
  have P := lengthG_any ((grO gp most grow rb).below h hd) (s.rs.getD A (0, 0)) hrv hv.tl
  have HP : Calls Tryz.prog 49 #[.pointer (some ⟨gp, 0, none⟩), .agg #[.int .i64 (s.rs.getD A (0, 0)).1, .int .i64 (s.rs.getD A (0, 0)).2]] (rtW w 13 R A B I n).drew fun e w2 => ∃ F', e = .returned (.tuple #[.agg #[.int .i64 (s.ln (s.rs.getD A (0, 0))).1.1, .int .i64 (s.ln (s.rs.getD A (0, 0))).1.2], .int .i64 (s.ln (s.rs.getD A (0, 0))).2.1]) ∧
      (w2.cell? ⟨gp, 6, none⟩ = some (.slice (some ⟨rb, 0, none⟩) 12 12) ∧ w2.cell? ⟨rb, A * 2, none⟩ = some (.int .i64 (s.rs.getD A (0, 0)).1) ∧ w2.cell? ⟨rb, A * 2 + 1, none⟩ = some (.int .i64 (s.rs.getD A (0, 0)).2) ∧ w2.cell? ⟨w.heap.size, 2, none⟩ = some (.int .i64 A)) ∧
      w2.heap[w.heap.size + 1]? = some (.cells #[.int .i64 0, .int .i64 0] 54 (0, 0)) ∧ Hid ((grO gp most grow rb).J F' (s.ln (s.rs.getD A (0, 0))).2.2 w2 ∧ Tn F w F' w2 ∧ ¬ F' (w.heap.size + 1)) := by
    refine P.mono ?_
    rintro e w2 ⟨F', rfl, hj, tn⟩
    obtain ⟨⟨d6, rt', y0⟩, y1, HJ⟩ := rt_post h hd x0 x1 hj tn (by rw [ln_s])
    obtain ⟨_, _, p2, _, p4, _⟩ := hs_cells y0
    exact ⟨F', rfl, ⟨d6, (rt' A hA).1, (rt' A hA).2, p2⟩, y1, HJ⟩
  clear P
  obtain ⟨ra0, ra1⟩ := rt A hA
  obtain ⟨q0, q1, q2, q3, q4, q5⟩ := hs_cells x0
  generalize s.ln (s.rs.getD A (0, 0)) = gr at *
  obtain ⟨⟨v0, v1⟩, cd, S2⟩ := gr
  dsimp only at HP ⊢
  generalize (s.rs.getD A (0, 0)).1 = a0 at *
  generalize (s.rs.getD A (0, 0)).2 = a1 at *
  have i0 : (0 : Int) ≤ (A : Int) := by omega
  have i1 : (A : Int) < 12 := by omega
  have nx : w.heap.size ≠ w.heap.size + 1 := by omega
  clear h hv hb0 hd x0 x1 rt hrv q0 q1 q3 q4 q5
  go_enter Tryz.func23, Tryz.ntmps23
  go_wp2_with fail
  go_region_held3 (fun w' => w'.cell? ⟨gp, 6, none⟩ = some (.slice (some ⟨rb, 0, none⟩) 12 12) ∧ w'.cell? ⟨rb, A * 2, none⟩ = some (.int .i64 a0) ∧ w'.cell? ⟨rb, A * 2 + 1, none⟩ = some (.int .i64 a1) ∧ w'.cell? ⟨w.heap.size, 2, none⟩ = some (.int .i64 A)) (first | exact ⟨far2 ng d1, far2 nr d2, far2 nr d3, far2 nx d4⟩ | (go_keep; done))
    (first | (go_at_call 49; refine HP.mono ?_; clear HP; rintro e w2 ⟨F', rfl, ⟨d1, d2, d3, d4⟩, y1, HJ⟩; obtain ⟨r0, r1, f0, lw⟩ := two_cells y1; have HN : Hid (_ = _) := y1; clear y1 c6 ra0 ra1 q2))
  all_goals
    clear d1 d2 d3 d4 ‹_ ∧ _›
    go_wp2_with fail
    obtain ⟨r0', r1', _, _⟩ := two_cells (set_two (v1 := .int .i64 v0) (v2 := .int .i64 v1) HN.out)
    exact bodyPost_ret (v := .tuple #[.agg #[.int .i64 v0, .int .i64 v1], .int .i64 cd]) (by simp [results, Tryz.results23, go_sem, r0', r1']) rfl ⟨F', rfl, Ob.set2 _ HJ.out.1 HJ.out.2.2 _ _, HJ.out.2.1.set2 (Nat.le_succ _) _ _⟩
end

end Go.Proofs.YtogknhogphkddaaGreat

/- A grove in memory: root, case by case: numbers, nothing, a root again, guardians, the same, vectors. -/
namespace Go.Proofs.YtogknhogphkddaaGreat
open Go.RowKit W Kp Stl

section
variable {gp rb : Nat} {most grow : Int} {F : Nat → Prop} {s : Wrs} {w : World} {g : Gfn}

set_option maxRecDepth 100000 in
set_option maxHeartbeats 4000000 in
theorem rootG_int (h : (grO gp most grow rb).J F s w) (R A B I n : Int) :
    Calls Tryz.prog 23 #[.pointer (some ⟨gp, 0, none⟩), hsV 1 R A B I n] w fun e w' => e = .returned (.tuple #[.agg #[.int .i64 1, .int .i64 n], .int .i64 0]) ∧ Below w.heap.size w w' := by
  obtain ⟨hb0, x0, x1, _⟩ := rt_pre h 1 R A B I n
  have P := intValue_any n (rtW w 1 R A B I n)
  obtain ⟨q0, q1, q2, q3, q4, q5⟩ := hs_cells x0
  have HE : Hid (∀ w2, Below (rtW w 1 R A B I n).heap.size (rtW w 1 R A B I n) w2 → w2.heap[w.heap.size + 1]? = some (.cells #[.int .i64 0, .int .i64 0] 54 (0, 0)) ∧ Below w.heap.size w w2) := fun w2 hb => ⟨(hb.block _ (lt_of_some x1)).trans x1, hb0.trans (hb.mono hb0.size)⟩
  clear h hb0 x0 x1 q1 q2 q3 q4
  go_enter Tryz.func23, Tryz.ntmps23
  go_wp2_with fail
  refine P.mono ?_
  clear P
  rintro e w2 ⟨rfl, hb⟩
  have HF : Hid (_ ∧ _) := HE.out w2 hb
  obtain ⟨r0, r1, f0, lw⟩ := two_cells HF.out.1
  clear hb HE
  go_wp2_with fail
  obtain ⟨r0', r1', _, _⟩ := two_cells (set_two (v1 := .int .i64 1) (v2 := .int .i64 n) HF.out.1)
  exact bodyPost_ret (v := .tuple #[.agg #[.int .i64 1, .int .i64 n], .int .i64 0]) (by simp [results, Tryz.results23, go_sem, r0', r1']) rfl ⟨rfl, (HF.out.2.setCell (by simp) _).setCell (by simp) _⟩

set_option maxRecDepth 100000 in
set_option maxHeartbeats 4000000 in
theorem rootG_nil (h : (grO gp most grow rb).J F s w) (R A B I n : Int) :
    Calls Tryz.prog 23 #[.pointer (some ⟨gp, 0, none⟩), hsV 2 R A B I n] w fun e w' => e = .returned (.tuple #[.agg #[.int .i64 0, .int .i64 0], .int .i64 0]) ∧ Below w.heap.size w w' := by
  obtain ⟨hb0, x0, x1, _⟩ := rt_pre h 2 R A B I n
  obtain ⟨q0, q1, q2, q3, q4, q5⟩ := hs_cells x0
  have HF : Hid (Below w.heap.size w (rtW w 2 R A B I n)) := hb0
  obtain ⟨r0, r1, f0, lw⟩ := two_cells x1
  clear h hb0 x0 x1 q1 q2 q3 q4 q5
  go_enter Tryz.func23, Tryz.ntmps23
  go_wp2_with fail
  exact bodyPost_ret (v := .tuple #[.agg #[.int .i64 0, .int .i64 0], .int .i64 0]) (by simp [results, Tryz.results23, go_sem]) rfl ⟨rfl, HF.out⟩

set_option maxRecDepth 100000 in
set_option maxHeartbeats 4000000 in
theorem rootG_gd (h : (grO gp most grow rb).J F s w) (hv : Wcv s) (hG : Gok s.T s.wt (g s.T s.wt)) (g0 : -1000000 ≤ grow) (g1 : grow ≤ 1000000) (m0 : -1000000 ≤ most) (m1 : most ≤ 1000000) (R A B I n : Int) :
    Calls Tryz.prog 23 #[.pointer (some ⟨gp, 0, none⟩), hsV 8 R A B I n] w fun e w' => ∃ F', e = .returned (.tuple #[.agg #[.int .i64 (s.grow g most grow 5 []).1.1, .int .i64 (s.grow g most grow 5 []).1.2], .int .i64 (s.grow g most grow 5 []).2.1]) ∧ (grO gp most grow rb).J F' (s.grow g most grow 5 []).2.2 w' ∧ Tn F w F' w' := by
  obtain ⟨hb0, x0, x1, _⟩ := rt_pre h 8 R A B I n
  obtain ⟨q0, q1, q2, q3, q4, q5⟩ := hs_cells x0
  have HP : Calls Tryz.prog 47 #[.pointer (some ⟨gp, 0, none⟩), .int .i64 5, .slice none 0 0] (rtW w 8 R A B I n) fun e w2 => ∃ F', e = .returned (.tuple #[.agg #[.int .i64 (s.grow g most grow 5 []).1.1, .int .i64 (s.grow g most grow 5 []).1.2], .int .i64 (s.grow g most grow 5 []).2.1]) ∧
      w2.heap[w.heap.size + 1]? = some (.cells #[.int .i64 0, .int .i64 0] 54 (0, 0)) ∧ Hid ((grO gp most grow rb).J F' (s.grow g most grow 5 []).2.2 w2 ∧ Tn F w F' w2 ∧ ¬ F' (w.heap.size + 1)) := by
    refine (growG_any (g := g) (kd := 5) (fl := []) (ad := none) (cap := 0) ((grO gp most grow rb).below h hb0) hv hG g0 g1 m0 m1 (by simp) ⟨fun h => absurd h (by simp), Nat.le_refl _, fun _ => ⟨rfl, rfl⟩⟩).mono ?_
    rintro e w2 ⟨F', rfl, hj, tn⟩
    obtain ⟨_, y1, HJ⟩ := rt_post h hb0 x0 x1 hj tn (grow_rs _ _ _ _ _ _)
    exact ⟨F', rfl, y1, HJ⟩
  generalize s.grow g most grow 5 [] = gr at *
  obtain ⟨⟨v0, v1⟩, cd, S2⟩ := gr
  dsimp only at HP ⊢
  clear h hv hG hb0 x0 x1 q1 q2 q3 q4 q5
  go_enter Tryz.func23, Tryz.ntmps23
  go_wp2_with fail
  refine HP.mono ?_
  clear HP
  rintro e w2 ⟨F', rfl, y1, HJ⟩
  obtain ⟨r0, r1, f0, lw⟩ := two_cells y1
  have HN : Hid (_ = _) := y1
  clear y1
  go_wp2_with fail
  obtain ⟨r0', r1', _, _⟩ := two_cells (set_two (v1 := .int .i64 v0) (v2 := .int .i64 v1) HN.out)
  exact bodyPost_ret (v := .tuple #[.agg #[.int .i64 v0, .int .i64 v1], .int .i64 cd]) (by simp [results, Tryz.results23, go_sem, r0', r1']) rfl ⟨F', rfl, Ob.set2 _ HJ.out.1 HJ.out.2.2 _ _, HJ.out.2.1.set2 (Nat.le_succ _) _ _⟩

set_option maxRecDepth 100000 in
set_option maxHeartbeats 4000000 in
theorem rootG_move (h : (grO gp most grow rb).J F s w) (R B I n : Int) (A : Nat) (hA : A < 12) :
    Calls Tryz.prog 23 #[.pointer (some ⟨gp, 0, none⟩), hsV 3 R A B I n] w fun e w' => e = .returned (.tuple #[.agg #[.int .i64 (s.rs.getD A (0, 0)).1, .int .i64 (s.rs.getD A (0, 0)).2], .int .i64 0]) ∧ Below w.heap.size w w' := by
  obtain ⟨hb0, x0, x1, c6, rt, ng, nr⟩ := rt_pre h 3 R A B I n
  obtain ⟨ra0, ra1⟩ := rt A hA
  obtain ⟨q0, q1, q2, q3, q4, q5⟩ := hs_cells x0
  obtain ⟨cw, rw_', Fg, Fr_⟩ := grO_lk h
  have lg := (grO gp most grow rb).lt h _ Fg
  have lr := (grO gp most grow rb).lt h _ Fr_
  have b2 : Below w.heap.size w ((w.alloc (hsC 3 R A B I n)).alloc (.cells #[.int .i64 (s.rs.getD A (0, 0)).1, .int .i64 (s.rs.getD A (0, 0)).2] 54)) := ((Below.refl _ _).alloc (Nat.le_refl _) _).alloc (by simp) _
  have m1 := (b2.cell (p := ⟨gp, 6, none⟩) lg).trans cw
  have m2 := (b2.cell (p := ⟨rb, A * 2, none⟩) lr).trans (rw_' A hA).1
  have m3 := (b2.cell (p := ⟨rb, A * 2 + 1, none⟩) lr).trans (rw_' A hA).2
  have m4 : ((w.alloc (hsC 3 R A B I n)).alloc (.cells #[.int .i64 (s.rs.getD A (0, 0)).1, .int .i64 (s.rs.getD A (0, 0)).2] 54)).cell? ⟨w.heap.size, 2, none⟩ = some (.int .i64 A) := (hs_cells ((Below.heap_alloc _ _ _ (by simp)).trans (heap_alloc_new w _))).2.2.1
  have HF : Hid (Below w.heap.size w ((w.alloc (hsC 3 R A B I n)).alloc (.cells #[.int .i64 (s.rs.getD A (0, 0)).1, .int .i64 (s.rs.getD A (0, 0)).2] 54)).drew) := b2.drew
  have HM : Hid ((((w.alloc (hsC 3 R A B I n)).alloc (.cells #[.int .i64 (s.rs.getD A (0, 0)).1, .int .i64 (s.rs.getD A (0, 0)).2] 54)).cell? ⟨gp, 6, none⟩ = some (.slice (some ⟨rb, 0, none⟩) 12 12)) ∧ ((w.alloc (hsC 3 R A B I n)).alloc (.cells #[.int .i64 (s.rs.getD A (0, 0)).1, .int .i64 (s.rs.getD A (0, 0)).2] 54)).cell? ⟨rb, A * 2, none⟩ = some (.int .i64 (s.rs.getD A (0, 0)).1) ∧ ((w.alloc (hsC 3 R A B I n)).alloc (.cells #[.int .i64 (s.rs.getD A (0, 0)).1, .int .i64 (s.rs.getD A (0, 0)).2] 54)).cell? ⟨rb, A * 2 + 1, none⟩ = some (.int .i64 (s.rs.getD A (0, 0)).2) ∧ ((w.alloc (hsC 3 R A B I n)).alloc (.cells #[.int .i64 (s.rs.getD A (0, 0)).1, .int .i64 (s.rs.getD A (0, 0)).2] 54)).cell? ⟨w.heap.size, 2, none⟩ = some (.int .i64 A)) := ⟨m1, m2, m3, m4⟩
  clear m1 m2 m3 m4 b2 cw rw_'
  obtain ⟨r0, r1, f0, lw⟩ := two_cells x1
  generalize (s.rs.getD A (0, 0)).1 = a0 at *
  generalize (s.rs.getD A (0, 0)).2 = a1 at *
  have i0 : (0 : Int) ≤ (A : Int) := by omega
  have i1 : (A : Int) < 12 := by omega
  clear h hb0 x0 x1 rt q1 q3 q4 q5 Fg Fr_
  go_enter Tryz.func23, Tryz.ntmps23
  go_wp2_with fail
  go_region_held3 (fun w' => w'.cell? ⟨gp, 6, none⟩ = some (.slice (some ⟨rb, 0, none⟩) 12 12) ∧ w'.cell? ⟨rb, A * 2, none⟩ = some (.int .i64 a0) ∧ w'.cell? ⟨rb, A * 2 + 1, none⟩ = some (.int .i64 a1) ∧ w'.cell? ⟨w.heap.size, 2, none⟩ = some (.int .i64 A)) (first | exact HM.out | (go_keep; done)) (fail)
  all_goals
    clear c6 ra0 ra1 q2 ‹_ ∧ _›
    go_wp2_with fail
    exact bodyPost_ret (v := .tuple #[.agg #[.int .i64 a0, .int .i64 a1], .int .i64 0]) (by simp [results, Tryz.results23, go_sem]) rfl ⟨rfl, HF.out⟩

set_option maxRecDepth 100000 in
set_option maxHeartbeats 4000000 in
theorem rootG_same (h : (grO gp most grow rb).J F s w) (R I n : Int) (A B : Nat) (hA : A < 12) (hB : B < 12) :
    Calls Tryz.prog 23 #[.pointer (some ⟨gp, 0, none⟩), hsV 14 R A B I n] w fun e w' => e = .returned (.tuple #[.agg #[.int .i64 1, .int .i64 (if s.rs.getD A (0, 0) = s.rs.getD B (0, 0) then 1 else 0)], .int .i64 0]) ∧ Below w.heap.size w w' := by
  obtain ⟨hb0, x0, x1, c6, rt, ng, nr⟩ := rt_pre h 14 R A B I n
  have HP : Calls Tryz.prog 50 #[.agg #[.int .i64 (s.rs.getD A (0, 0)).1, .int .i64 (s.rs.getD A (0, 0)).2], .agg #[.int .i64 (s.rs.getD B (0, 0)).1, .int .i64 (s.rs.getD B (0, 0)).2]] (rtW w 14 R A B I n).drew fun e w2 => e = .returned (.agg #[.int .i64 1, .int .i64 (if s.rs.getD A (0, 0) = s.rs.getD B (0, 0) then 1 else 0)]) ∧
      (w2.cell? ⟨gp, 6, none⟩ = some (.slice (some ⟨rb, 0, none⟩) 12 12) ∧ w2.cell? ⟨rb, A * 2, none⟩ = some (.int .i64 (s.rs.getD A (0, 0)).1) ∧ w2.cell? ⟨rb, A * 2 + 1, none⟩ = some (.int .i64 (s.rs.getD A (0, 0)).2) ∧ w2.cell? ⟨rb, B * 2, none⟩ = some (.int .i64 (s.rs.getD B (0, 0)).1) ∧ w2.cell? ⟨rb, B * 2 + 1, none⟩ = some (.int .i64 (s.rs.getD B (0, 0)).2) ∧ w2.cell? ⟨w.heap.size, 2, none⟩ = some (.int .i64 A) ∧ w2.cell? ⟨w.heap.size, 3, none⟩ = some (.int .i64 B)) ∧
      Hid (w2.heap[w.heap.size + 1]? = some (.cells #[.int .i64 0, .int .i64 0] 54 (0, 0)) ∧ Below w.heap.size w w2) := by
    refine (sameG_any _ _ _).mono ?_
    rintro e w2 ⟨rfl, hb⟩
    obtain ⟨⟨d6, rt', y0⟩, y1, HJ⟩ := rt_post h hb0.drew x0 x1 ((grO gp most grow rb).below ((grO gp most grow rb).below h hb0.drew) hb) (Tn.of hb) rfl
    obtain ⟨_, _, p2, p3, _, _⟩ := hs_cells y0
    exact ⟨rfl, ⟨d6, (rt' A hA).1, (rt' A hA).2, (rt' B hB).1, (rt' B hB).2, p2, p3⟩, y1, hb0.drew.trans (hb.mono hb0.drew.size)⟩
  obtain ⟨ra0, ra1⟩ := rt A hA
  obtain ⟨rb0, rb1⟩ := rt B hB
  obtain ⟨q0, q1, q2, q3, q4, q5⟩ := hs_cells x0
  generalize (if s.rs.getD A (0, 0) = s.rs.getD B (0, 0) then (1 : Int) else 0) = v1 at *
  generalize (s.rs.getD A (0, 0)).1 = a0 at *
  generalize (s.rs.getD A (0, 0)).2 = a1 at *
  generalize (s.rs.getD B (0, 0)).1 = e0 at *
  generalize (s.rs.getD B (0, 0)).2 = e1 at *
  have i0 : (0 : Int) ≤ (A : Int) := by omega
  have i1 : (A : Int) < 12 := by omega
  have i2 : (0 : Int) ≤ (B : Int) := by omega
  have i3 : (B : Int) < 12 := by omega
  have nx : w.heap.size ≠ w.heap.size + 1 := by omega
  clear h hb0 x0 x1 rt q1 q4 q5
  go_enter Tryz.func23, Tryz.ntmps23
  go_wp2_with fail
  go_region_held3 (fun w' => w'.cell? ⟨gp, 6, none⟩ = some (.slice (some ⟨rb, 0, none⟩) 12 12) ∧ w'.cell? ⟨rb, A * 2, none⟩ = some (.int .i64 a0) ∧ w'.cell? ⟨rb, A * 2 + 1, none⟩ = some (.int .i64 a1) ∧ w'.cell? ⟨rb, B * 2, none⟩ = some (.int .i64 e0) ∧ w'.cell? ⟨rb, B * 2 + 1, none⟩ = some (.int .i64 e1) ∧ w'.cell? ⟨w.heap.size, 2, none⟩ = some (.int .i64 A) ∧ w'.cell? ⟨w.heap.size, 3, none⟩ = some (.int .i64 B)) (first | exact ⟨far2 ng d1, far2 nr d2, far2 nr d3, far2 nr d4, far2 nr d5, far2 nx d6, far2 nx d7⟩ | (go_keep; done))
    (first | (go_at_call 50; refine HP.mono ?_; clear HP; rintro e w2 ⟨rfl, ⟨d1, d2, d3, d4, d5, d6, d7⟩, HF⟩; obtain ⟨r0, r1, f0, lw⟩ := two_cells HF.out.1; clear c6 ra0 ra1 rb0 rb1 q2 q3))
  all_goals
    clear d1 d2 d3 d4 d5 d6 d7 ‹_ ∧ _›
    go_wp2_with fail
    obtain ⟨r0', r1', _, _⟩ := two_cells (set_two (v1 := .int .i64 1) (v2 := .int .i64 v1) HF.out.1)
    exact bodyPost_ret (v := .tuple #[.agg #[.int .i64 1, .int .i64 v1], .int .i64 0]) (by simp [results, Tryz.results23, go_sem, r0', r1']) rfl ⟨rfl, (HF.out.2.setCell (by simp) _).setCell (by simp) _⟩
end

end Go.Proofs.YtogknhogphkddaaGreat

/- A grove in memory: root: vectors. -/
namespace Go.Proofs.YtogknhogphkddaaGreat
open Go.RowKit W Kp Stl

section
variable {gp rb : Nat} {most grow : Int} {F : Nat → Prop} {s : Wrs} {w : World} {g : Gfn}

set_option maxRecDepth 100000 in
set_option maxHeartbeats 4000000 in
theorem rootG_vec (h : (grO gp most grow rb).J F s w) (hv : Wcv s) (hG : Gok s.T s.wt (g s.T s.wt)) (g0 : -1000000 ≤ grow) (g1 : grow ≤ 1000000) (m0 : -1000000 ≤ most) (m1 : most ≤ 1000000) (R B I : Int) (A n : Nat) (hA : A < 12) (hn : n ≤ 12) :
    Calls Tryz.prog 23 #[.pointer (some ⟨gp, 0, none⟩), hsV 5 R A B I n] w fun e w' => ∃ F', e = .returned (.tuple #[.agg #[.int .i64 (s.grow g most grow 2 (List.replicate n (s.rs.getD A (0, 0)))).1.1, .int .i64 (s.grow g most grow 2 (List.replicate n (s.rs.getD A (0, 0)))).1.2], .int .i64 (s.grow g most grow 2 (List.replicate n (s.rs.getD A (0, 0)))).2.1]) ∧ (grO gp most grow rb).J F' (s.grow g most grow 2 (List.replicate n (s.rs.getD A (0, 0)))).2.2 w' ∧ Tn F w F' w' := by
  obtain ⟨hb0, x0, x1, c6, rt, ng, nr⟩ := rt_pre h 5 R A B I n
  have sz0 : (rtW w 5 R A B I n).drew.heap.size = w.heap.size + 1 + 1 := by simp [World.drew]
  have HR : Calls Tryz.prog 16 #[.slice (some ⟨w.heap.size + 1 + 1, 0, none⟩) 1 1, .int .i64 n] ((rtW w 5 R A B I n).drew.alloc (.cells #[.int .i64 (s.rs.getD A (0, 0)).1, .int .i64 (s.rs.getD A (0, 0)).2] 54)) fun e w2 => ∃ nb, e = .returned (.slice (some ⟨nb, 0, none⟩) n n) ∧
      (w2.cell? ⟨gp, 6, none⟩ = some (.slice (some ⟨rb, 0, none⟩) 12 12) ∧ w2.cell? ⟨rb, A * 2, none⟩ = some (.int .i64 (s.rs.getD A (0, 0)).1) ∧ w2.cell? ⟨rb, A * 2 + 1, none⟩ = some (.int .i64 (s.rs.getD A (0, 0)).2) ∧ w2.cell? ⟨w.heap.size, 2, none⟩ = some (.int .i64 A) ∧ w2.cell? ⟨w.heap.size, 5, none⟩ = some (.int .i64 n)) ∧
      Calls Tryz.prog 47 #[.pointer (some ⟨gp, 0, none⟩), .int .i64 2, .slice (some ⟨nb, 0, none⟩) n n] w2 fun e w3 => ∃ F', e = .returned (.tuple #[.agg #[.int .i64 (s.grow g most grow 2 (List.replicate n (s.rs.getD A (0, 0)))).1.1, .int .i64 (s.grow g most grow 2 (List.replicate n (s.rs.getD A (0, 0)))).1.2], .int .i64 (s.grow g most grow 2 (List.replicate n (s.rs.getD A (0, 0)))).2.1]) ∧
      (w3.cell? ⟨gp, 6, none⟩ = some (.slice (some ⟨rb, 0, none⟩) 12 12) ∧ w3.cell? ⟨rb, A * 2, none⟩ = some (.int .i64 (s.rs.getD A (0, 0)).1) ∧ w3.cell? ⟨rb, A * 2 + 1, none⟩ = some (.int .i64 (s.rs.getD A (0, 0)).2) ∧ w3.cell? ⟨w.heap.size, 2, none⟩ = some (.int .i64 A) ∧ w3.cell? ⟨w.heap.size, 5, none⟩ = some (.int .i64 n)) ∧
      w3.heap[w.heap.size + 1]? = some (.cells #[.int .i64 0, .int .i64 0] 54 (0, 0)) ∧ Hid ((grO gp most grow rb).J F' (s.grow g most grow 2 (List.replicate n (s.rs.getD A (0, 0)))).2.2 w3 ∧ Tn F w F' w3 ∧ ¬ F' (w.heap.size + 1)) := by
    have b1 : Below w.heap.size w ((rtW w 5 R A B I n).drew.alloc (.cells #[.int .i64 (s.rs.getD A (0, 0)).1, .int .i64 (s.rs.getD A (0, 0)).2] 54)) := hb0.drew.alloc (by rw [sz0]; omega) _
    have hnw := heap_alloc_new (rtW w 5 R A B I n).drew (.cells #[.int .i64 (s.rs.getD A (0, 0)).1, .int .i64 (s.rs.getD A (0, 0)).2] 54)
    rw [sz0] at hnw
    obtain ⟨z0, z1, _, _⟩ := two_cells hnw
    refine (repeatV_any _ (w.heap.size + 1 + 1) n (s.rs.getD A (0, 0)) hn z0 z1).mono ?_
    rintro e w2 ⟨nb, rfl, hnb, hcs, hb2⟩
    have b2 : Below w.heap.size w w2 := b1.trans (hb2.mono b1.size)
    have l0 : w.heap.size + 1 < (rtW w 5 R A B I n).heap.size := lt_of_some x1
    have ky : ∀ b, b < w.heap.size + 1 + 1 → w2.heap[b]? = (rtW w 5 R A B I n).heap[b]? := fun b hb => (hb2.block b (by simp; omega)).trans (Below.heap_alloc (rtW w 5 R A B I n).drew _ b (by rw [sz0]; exact hb))
    have y0 := (ky _ (by omega)).trans x0
    have y1 := (ky (w.heap.size + 1) (by omega)).trans x1
    have J2 := (grO gp most grow rb).below h b2
    obtain ⟨e6, rt2, _, _⟩ := grO_lk J2
    obtain ⟨_, _, p2, _, _, p5⟩ := hs_cells y0
    refine ⟨nb, rfl, ⟨e6, (rt2 A hA).1, (rt2 A hA).2, p2, p5⟩, ?_⟩
    have hln : (List.replicate n (s.rs.getD A (0, 0))).length = n := List.length_replicate
    have P := growG_any (g := g) (kd := 2) (fl := List.replicate n (s.rs.getD A (0, 0))) (ad := some ⟨nb, 0, none⟩) (cap := n) J2 hv hG g0 g1 m0 m1 (by rw [hln]; exact hn) ⟨fun _ => ⟨nb, 0, rfl, lt_of_some hcs, fun i hi => by
      obtain ⟨k1, k2⟩ := ev_get _ i hi
      constructor
      · simp only [World.cell?, hcs, Nat.zero_add]
        simpa using k1
      · simp only [World.cell?, hcs, Nat.zero_add]
        simpa using k2⟩, by rw [hln]; exact Nat.le_refl _, fun e => by cases e⟩
    rw [hln] at P
    refine P.mono ?_
    rintro e w3 ⟨F', rfl, hj, tn⟩
    obtain ⟨⟨d6, rt', y0'⟩, y1', HJ⟩ := rt_post h b2 y0 y1 hj tn (grow_rs _ _ _ _ _ _)
    obtain ⟨_, _, p2', _, _, p5'⟩ := hs_cells y0'
    exact ⟨F', rfl, ⟨d6, (rt' A hA).1, (rt' A hA).2, p2', p5'⟩, y1', HJ⟩
  obtain ⟨ra0, ra1⟩ := rt A hA
  obtain ⟨q0, q1, q2, q3, q4, q5⟩ := hs_cells x0
  generalize s.grow g most grow 2 (List.replicate n (s.rs.getD A (0, 0))) = gr at *
  obtain ⟨⟨v0, v1⟩, cd, S2⟩ := gr
  dsimp only at HR ⊢
  generalize (s.rs.getD A (0, 0)).1 = a0 at *
  generalize (s.rs.getD A (0, 0)).2 = a1 at *
  have i0 : (0 : Int) ≤ (A : Int) := by omega
  have i1 : (A : Int) < 12 := by omega
  have i2 : (n : Int) ≤ 12 := by omega
  have nx : w.heap.size ≠ w.heap.size + 1 := by omega
  clear h hv hG hb0 x0 x1 rt q1 q3 q4 sz0
  go_enter Tryz.func23, Tryz.ntmps23
  go_wp2_with fail
  go_region_held3 (fun w' => w'.cell? ⟨gp, 6, none⟩ = some (.slice (some ⟨rb, 0, none⟩) 12 12) ∧ w'.cell? ⟨rb, A * 2, none⟩ = some (.int .i64 a0) ∧ w'.cell? ⟨rb, A * 2 + 1, none⟩ = some (.int .i64 a1) ∧ w'.cell? ⟨w.heap.size, 2, none⟩ = some (.int .i64 A) ∧ w'.cell? ⟨w.heap.size, 5, none⟩ = some (.int .i64 n)) (first | exact ⟨far2 ng d1, far2 nr d2, far2 nr d3, far2 nx d4, far2 nx d5⟩ | (go_keep; done))
    (first | (go_at_call 16; refine HR.mono ?_; clear HR; rintro e w2 ⟨nb, rfl, ⟨k1, k2, k3, k4, k5⟩, HP⟩; clear c6 ra0 ra1 q2 q5) | (go_at_call 47; refine HP.mono ?_; clear HP; rintro e w3 ⟨F', rfl, ⟨d1, d2, d3, d4, d5⟩, y1, HJ⟩; obtain ⟨r0, r1, f0, lw⟩ := two_cells y1; have HN : Hid (_ = _) := y1; clear y1 k1 k2 k3 k4 k5))
  all_goals
    clear d1 d2 d3 d4 d5 ‹_ ∧ _›
    go_wp2_with fail
    obtain ⟨r0', r1', _, _⟩ := two_cells (set_two (v1 := .int .i64 v0) (v2 := .int .i64 v1) HN.out)
    exact bodyPost_ret (v := .tuple #[.agg #[.int .i64 v0, .int .i64 v1], .int .i64 cd]) (by simp [results, Tryz.results23, go_sem, r0', r1']) rfl ⟨F', rfl, Ob.set2 _ HJ.out.1 HJ.out.2.2 _ _, HJ.out.2.1.set2 (Nat.le_succ _) _ _⟩
end

end Go.Proofs.YtogknhogphkddaaGreat
