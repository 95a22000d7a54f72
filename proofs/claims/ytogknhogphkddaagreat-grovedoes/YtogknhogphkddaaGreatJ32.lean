/- Joined: Gx26, Hc4, Gx27, Gx28, Gx29. -/
import Derived.Test.YtogknhogphkddaaGreatJ31
import Derived.Test.YtogknhogphkddaaGreatHc3
/- A grove in memory: root whole: a contract. -/
namespace Go.Proofs.YtogknhogphkddaaGreat
open Go.RowKit W Kp Stl

theorem ck_vec {R A B n : Int} (h : ckC 5 R A B n = 0) : 0 ≤ n ∧ n ≤ 12 := by
  have h5 : ckN 5 n = 0 := by
    unfold ckC at h
    rw [if_neg (by decide)] at h
    split at h
    · omega
    · exact h
  unfold ckN at h5
  rw [if_neg (by decide), if_pos rfl] at h5
  unfold hc at h5
  rw [if_neg (by decide), if_neg (by decide), if_neg (by decide), if_pos rfl] at h5
  split at h5
  · omega
  · split at h5 <;> omega

section
variable {gp rb : Nat} {most grow : Int} {F : Nat → Prop} {s : Wrs} {w : World} {g : Gfn}

theorem rootG_any (h : (grO gp most grow rb).J F s w) (hv : Wcv s) (hG : Gok s.T s.wt (g s.T s.wt)) (g0 : -1000000 ≤ grow) (g1 : grow ≤ 1000000) (m0 : -1000000 ≤ most) (m1 : most ≤ 1000000) (k R A B I n : Int) (hk : ckC k R A B n = 0) (e9 : k ≠ 9) (e12 : k ≠ 12) (e15 : k ≠ 15) (e16 : k ≠ 16) :
    Calls Tryz.prog 23 #[.pointer (some ⟨gp, 0, none⟩), hsV k R A B I n] w fun e w' => ∃ F', e = .returned (.tuple #[.agg #[.int .i64 (s.rt g most grow k A.toNat B.toNat I n).1.1, .int .i64 (s.rt g most grow k A.toNat B.toNat I n).1.2], .int .i64 (s.rt g most grow k A.toNat B.toNat I n).2.1]) ∧ (grO gp most grow rb).J F' (s.rt g most grow k A.toNat B.toNat I n).2.2 w' ∧ Tn F w F' w' := by
  have two : ∀ k, usK k = 7 → ckC k R A B n = 0 → ∃ a b : Nat, A = a ∧ B = b ∧ a < 12 ∧ b < 12 := fun k hu hc => by
    have h1 := ck_A hc (Or.inr (Or.inr hu))
    have h2 := ck_B hc (Or.inr hu)
    exact ⟨A.toNat, B.toNat, by omega, by omega, by omega, by omega⟩
  have one : ∀ k, usK k = 3 → ckC k R A B n = 0 → ∃ a : Nat, A = a ∧ a < 12 := fun k hu hc => by
    have h1 := ck_A hc (Or.inl hu)
    exact ⟨A.toNat, by omega, by omega⟩
  have low : ∀ (t : (Int × Int) × Int × Wrs), t.2.2 = s → ∀ (e : Ending) (w' : World), (e = .returned (.tuple #[.agg #[.int .i64 t.1.1, .int .i64 t.1.2], .int .i64 t.2.1]) ∧ Below w.heap.size w w') → ∃ F', e = .returned (.tuple #[.agg #[.int .i64 t.1.1, .int .i64 t.1.2], .int .i64 t.2.1]) ∧ (grO gp most grow rb).J F' t.2.2 w' ∧ Tn F w F' w' := by
    rintro t e1 e w' ⟨rfl, hb⟩
    rw [e1]
    exact ⟨F, rfl, (grO gp most grow rb).below h hb, Tn.of hb⟩
  have no : (k < 1 ∨ 16 < k) → False := fun hx => by
    unfold ckC at hk
    rw [if_pos (usK_no hx)] at hk
    omega
  rcases kind_all k with rfl | rfl | rfl | rfl | rfl | rfl | rfl | rfl | rfl | rfl | rfl | rfl | rfl | rfl | rfl | rfl | hx
  · have e : s.rt g most grow 1 A.toNat B.toNat I n = ((1, n), 0, s) := by simp [Wrs.rt]
    rw [e]
    exact (rootG_int h R A B I n).mono (low ((1, n), 0, s) rfl)
  · have e : s.rt g most grow 2 A.toNat B.toNat I n = ((0, 0), 0, s) := by simp [Wrs.rt]
    rw [e]
    exact (rootG_nil h R A B I n).mono (low ((0, 0), 0, s) rfl)
  · obtain ⟨a, rfl, ha⟩ := one 3 (by decide) hk
    have e : s.rt g most grow 3 (a : Int).toNat B.toNat I n = (s.rs.getD a (0, 0), 0, s) := by simp [Wrs.rt]
    rw [e]
    exact (rootG_move h R B I n a ha).mono (low (s.rs.getD a (0, 0), 0, s) rfl)
  · obtain ⟨a, b, rfl, rfl, ha, hb⟩ := two 4 (by decide) hk
    have e : s.rt g most grow 4 (a : Int).toNat (b : Int).toNat I n = s.grow g most grow 1 [s.rs.getD a (0, 0), s.rs.getD b (0, 0)] := by simp [Wrs.rt]
    rw [e]
    exact rootG_pr h hv hG g0 g1 m0 m1 R I n (Or.inl ⟨rfl, rfl⟩) a b ha hb
  · obtain ⟨a, rfl, ha⟩ := one 5 (by decide) hk
    have hn := ck_vec hk
    obtain ⟨m, rfl⟩ := Int.eq_ofNat_of_zero_le hn.1
    have e : s.rt g most grow 5 (a : Int).toNat B.toNat I m = s.grow g most grow 2 (List.replicate m (s.rs.getD a (0, 0))) := by simp [Wrs.rt]
    rw [e]
    exact rootG_vec h hv hG g0 g1 m0 m1 R B I a m ha (by omega)
  · obtain ⟨a, b, rfl, rfl, ha, hb⟩ := two 6 (by decide) hk
    have e : s.rt g most grow 6 (a : Int).toNat (b : Int).toNat I n = s.grow g most grow 3 [s.rs.getD a (0, 0), s.rs.getD b (0, 0)] := by simp [Wrs.rt]
    rw [e]
    exact rootG_pr h hv hG g0 g1 m0 m1 R I n (Or.inr (Or.inl ⟨rfl, rfl⟩)) a b ha hb
  · obtain ⟨a, b, rfl, rfl, ha, hb⟩ := two 7 (by decide) hk
    have e : s.rt g most grow 7 (a : Int).toNat (b : Int).toNat I n = s.grow g most grow 4 [s.rs.getD a (0, 0), s.rs.getD b (0, 0)] := by simp [Wrs.rt]
    rw [e]
    exact rootG_pr h hv hG g0 g1 m0 m1 R I n (Or.inr (Or.inr ⟨rfl, rfl⟩)) a b ha hb
  · have e : s.rt g most grow 8 A.toNat B.toNat I n = s.grow g most grow 5 [] := by simp [Wrs.rt]
    rw [e]
    exact rootG_gd h hv hG g0 g1 m0 m1 R A B I n
  · exact absurd rfl e9
  · obtain ⟨a, rfl, ha⟩ := one 10 (by decide) hk
    have e : s.rt g most grow 10 (a : Int).toNat B.toNat I n = s.pop (s.rs.getD a (0, 0)) := by simp [Wrs.rt]
    rw [e]
    exact rootG_pop h hv R B I n a ha
  · obtain ⟨a, rfl, ha⟩ := one 11 (by decide) hk
    have e : s.rt g most grow 11 (a : Int).toNat B.toNat I n = s.gt (s.rs.getD a (0, 0)) I := by simp [Wrs.rt, Wrs.gt]
    rw [e]
    exact rootG_get h hv R B I n a ha
  · exact absurd rfl e12
  · obtain ⟨a, rfl, ha⟩ := one 13 (by decide) hk
    have e : s.rt g most grow 13 (a : Int).toNat B.toNat I n = s.ln (s.rs.getD a (0, 0)) := by simp [Wrs.rt, Wrs.ln]
    rw [e]
    exact rootG_len h hv R B I n a ha
  · obtain ⟨a, b, rfl, rfl, ha, hb⟩ := two 14 (by decide) hk
    have e : s.rt g most grow 14 (a : Int).toNat (b : Int).toNat I n = ((1, if s.rs.getD a (0, 0) = s.rs.getD b (0, 0) then 1 else 0), 0, s) := by simp [Wrs.rt]
    rw [e]
    exact (rootG_same h R I n a b ha hb).mono (low ((1, if s.rs.getD a (0, 0) = s.rs.getD b (0, 0) then 1 else 0), 0, s) rfl)
  · exact absurd rfl e15
  · exact absurd rfl e16
  · exact (no hx).elim
end

end Go.Proofs.YtogknhogphkddaaGreat

/- A heap: Check, whatever the step: a contract. -/
namespace Go.Proofs.YtogknhogphkddaaGreat
open Go.RowKit W Kp Stl

section
variable {k R A B I n : Int} {w : World}

set_option maxRecDepth 100000 in
set_option maxHeartbeats 1000000 in
theorem ck_1_0 (hu : usK k = 1) (hR : rtB R = false) : Calls Tryz.prog 18 #[.agg #[.int .i64 k, .int .i64 R, .int .i64 A, .int .i64 B, .int .i64 I, .int .i64 n]] w fun e w' => e = .returned (.int .i64 (1)) ∧ Below w.heap.size w w' := by
  have U : ∀ w, Calls Tryz.prog 37 #[.int .i64 k] w fun e w' => e = .returned (.int .i64 (1)) ∧ w' = w := fun w => by
    have h := usesH_any k w
    rw [hu] at h
    exact h
  have P0 : ∀ w, Calls Tryz.prog 38 #[.int .i64 R] w fun e w' => e = .returned (.bool false) ∧ w' = w := fun w => by
    have h := isRoot_any R w
    rw [hR] at h
    exact h
  have hb0 := (Below.refl w.heap.size w).alloc (Nat.le_refl _) (.cells #[.int .i64 k, .int .i64 R, .int .i64 A, .int .i64 B, .int .i64 I, .int .i64 n] 34)
  clear hu
  go_enter Tryz.func18, Tryz.ntmps18
  go_wp2_with fail
  refine (U _).mono ?_
  rintro e w1 ⟨rfl, rfl⟩
  go_wp2_with fail
  refine (P0 _).mono ?_
  rintro e w1 ⟨rfl, rfl⟩
  go_wp2_with fail
  go_ret
  exact ⟨rfl, hb0⟩
set_option maxRecDepth 100000 in
set_option maxHeartbeats 1000000 in
theorem ck_1_3 (hu : usK k = 1) (hR : rtB R = true) : Calls Tryz.prog 18 #[.agg #[.int .i64 k, .int .i64 R, .int .i64 A, .int .i64 B, .int .i64 I, .int .i64 n]] w fun e w' => e = .returned (.int .i64 (ckN k n)) ∧ Below w.heap.size w w' := by
  have U : ∀ w, Calls Tryz.prog 37 #[.int .i64 k] w fun e w' => e = .returned (.int .i64 (1)) ∧ w' = w := fun w => by
    have h := usesH_any k w
    rw [hu] at h
    exact h
  have P0 : ∀ w, Calls Tryz.prog 38 #[.int .i64 R] w fun e w' => e = .returned (.bool true) ∧ w' = w := fun w => by
    have h := isRoot_any R w
    rw [hR] at h
    exact h
  have hb0 := (Below.refl w.heap.size w).alloc (Nat.le_refl _) (.cells #[.int .i64 k, .int .i64 R, .int .i64 A, .int .i64 B, .int .i64 I, .int .i64 n] 34)
  clear hu
  go_enter Tryz.func18, Tryz.ntmps18
  go_wp2_with fail
  refine (U _).mono ?_
  rintro e w1 ⟨rfl, rfl⟩
  go_wp2_with fail
  refine (P0 _).mono ?_
  rintro e w1 ⟨rfl, rfl⟩
  go_wp2_with fail
  refine (checkN_any k R A B I n _).mono ?_
  rintro e w2 ⟨rfl, hb2⟩
  go_wp2_with fail
  go_ret
  exact ⟨rfl, hb0.trans (hb2.mono hb0.size)⟩
set_option maxRecDepth 100000 in
set_option maxHeartbeats 1000000 in
theorem ck_3_0 (hu : usK k = 3) (hR : rtB R = false) : Calls Tryz.prog 18 #[.agg #[.int .i64 k, .int .i64 R, .int .i64 A, .int .i64 B, .int .i64 I, .int .i64 n]] w fun e w' => e = .returned (.int .i64 (1)) ∧ Below w.heap.size w w' := by
  have U : ∀ w, Calls Tryz.prog 37 #[.int .i64 k] w fun e w' => e = .returned (.int .i64 (3)) ∧ w' = w := fun w => by
    have h := usesH_any k w
    rw [hu] at h
    exact h
  have P0 : ∀ w, Calls Tryz.prog 38 #[.int .i64 R] w fun e w' => e = .returned (.bool false) ∧ w' = w := fun w => by
    have h := isRoot_any R w
    rw [hR] at h
    exact h
  have hb0 := (Below.refl w.heap.size w).alloc (Nat.le_refl _) (.cells #[.int .i64 k, .int .i64 R, .int .i64 A, .int .i64 B, .int .i64 I, .int .i64 n] 34)
  clear hu
  go_enter Tryz.func18, Tryz.ntmps18
  go_wp2_with fail
  refine (U _).mono ?_
  rintro e w1 ⟨rfl, rfl⟩
  go_wp2_with fail
  refine (P0 _).mono ?_
  rintro e w1 ⟨rfl, rfl⟩
  go_wp2_with fail
  go_ret
  exact ⟨rfl, hb0⟩
set_option maxRecDepth 100000 in
set_option maxHeartbeats 1000000 in
theorem ck_3_1 (hu : usK k = 3) (hR : rtB R = true) (hA : rtB A = false) : Calls Tryz.prog 18 #[.agg #[.int .i64 k, .int .i64 R, .int .i64 A, .int .i64 B, .int .i64 I, .int .i64 n]] w fun e w' => e = .returned (.int .i64 (1)) ∧ Below w.heap.size w w' := by
  have U : ∀ w, Calls Tryz.prog 37 #[.int .i64 k] w fun e w' => e = .returned (.int .i64 (3)) ∧ w' = w := fun w => by
    have h := usesH_any k w
    rw [hu] at h
    exact h
  have P0 : ∀ w, Calls Tryz.prog 38 #[.int .i64 R] w fun e w' => e = .returned (.bool true) ∧ w' = w := fun w => by
    have h := isRoot_any R w
    rw [hR] at h
    exact h
  have P1 : ∀ w, Calls Tryz.prog 38 #[.int .i64 A] w fun e w' => e = .returned (.bool false) ∧ w' = w := fun w => by
    have h := isRoot_any A w
    rw [hA] at h
    exact h
  have hb0 := (Below.refl w.heap.size w).alloc (Nat.le_refl _) (.cells #[.int .i64 k, .int .i64 R, .int .i64 A, .int .i64 B, .int .i64 I, .int .i64 n] 34)
  clear hu
  go_enter Tryz.func18, Tryz.ntmps18
  go_wp2_with fail
  refine (U _).mono ?_
  rintro e w1 ⟨rfl, rfl⟩
  go_wp2_with fail
  refine (P0 _).mono ?_
  rintro e w1 ⟨rfl, rfl⟩
  go_wp2_with fail
  refine (P1 _).mono ?_
  rintro e w1 ⟨rfl, rfl⟩
  go_wp2_with fail
  go_ret
  exact ⟨rfl, hb0⟩
set_option maxRecDepth 100000 in
set_option maxHeartbeats 1000000 in
theorem ck_3_3 (hu : usK k = 3) (hR : rtB R = true) (hA : rtB A = true) : Calls Tryz.prog 18 #[.agg #[.int .i64 k, .int .i64 R, .int .i64 A, .int .i64 B, .int .i64 I, .int .i64 n]] w fun e w' => e = .returned (.int .i64 (ckN k n)) ∧ Below w.heap.size w w' := by
  have U : ∀ w, Calls Tryz.prog 37 #[.int .i64 k] w fun e w' => e = .returned (.int .i64 (3)) ∧ w' = w := fun w => by
    have h := usesH_any k w
    rw [hu] at h
    exact h
  have P0 : ∀ w, Calls Tryz.prog 38 #[.int .i64 R] w fun e w' => e = .returned (.bool true) ∧ w' = w := fun w => by
    have h := isRoot_any R w
    rw [hR] at h
    exact h
  have P1 : ∀ w, Calls Tryz.prog 38 #[.int .i64 A] w fun e w' => e = .returned (.bool true) ∧ w' = w := fun w => by
    have h := isRoot_any A w
    rw [hA] at h
    exact h
  have hb0 := (Below.refl w.heap.size w).alloc (Nat.le_refl _) (.cells #[.int .i64 k, .int .i64 R, .int .i64 A, .int .i64 B, .int .i64 I, .int .i64 n] 34)
  clear hu
  go_enter Tryz.func18, Tryz.ntmps18
  go_wp2_with fail
  refine (U _).mono ?_
  rintro e w1 ⟨rfl, rfl⟩
  go_wp2_with fail
  refine (P0 _).mono ?_
  rintro e w1 ⟨rfl, rfl⟩
  go_wp2_with fail
  refine (P1 _).mono ?_
  rintro e w1 ⟨rfl, rfl⟩
  go_wp2_with fail
  refine (checkN_any k R A B I n _).mono ?_
  rintro e w2 ⟨rfl, hb2⟩
  go_wp2_with fail
  go_ret
  exact ⟨rfl, hb0.trans (hb2.mono hb0.size)⟩
set_option maxRecDepth 100000 in
set_option maxHeartbeats 1000000 in
theorem ck_7_0 (hu : usK k = 7) (hR : rtB R = false) : Calls Tryz.prog 18 #[.agg #[.int .i64 k, .int .i64 R, .int .i64 A, .int .i64 B, .int .i64 I, .int .i64 n]] w fun e w' => e = .returned (.int .i64 (1)) ∧ Below w.heap.size w w' := by
  have U : ∀ w, Calls Tryz.prog 37 #[.int .i64 k] w fun e w' => e = .returned (.int .i64 (7)) ∧ w' = w := fun w => by
    have h := usesH_any k w
    rw [hu] at h
    exact h
  have P0 : ∀ w, Calls Tryz.prog 38 #[.int .i64 R] w fun e w' => e = .returned (.bool false) ∧ w' = w := fun w => by
    have h := isRoot_any R w
    rw [hR] at h
    exact h
  have hb0 := (Below.refl w.heap.size w).alloc (Nat.le_refl _) (.cells #[.int .i64 k, .int .i64 R, .int .i64 A, .int .i64 B, .int .i64 I, .int .i64 n] 34)
  clear hu
  go_enter Tryz.func18, Tryz.ntmps18
  go_wp2_with fail
  refine (U _).mono ?_
  rintro e w1 ⟨rfl, rfl⟩
  go_wp2_with fail
  refine (P0 _).mono ?_
  rintro e w1 ⟨rfl, rfl⟩
  go_wp2_with fail
  go_ret
  exact ⟨rfl, hb0⟩
set_option maxRecDepth 100000 in
set_option maxHeartbeats 1000000 in
theorem ck_7_1 (hu : usK k = 7) (hR : rtB R = true) (hA : rtB A = false) : Calls Tryz.prog 18 #[.agg #[.int .i64 k, .int .i64 R, .int .i64 A, .int .i64 B, .int .i64 I, .int .i64 n]] w fun e w' => e = .returned (.int .i64 (1)) ∧ Below w.heap.size w w' := by
  have U : ∀ w, Calls Tryz.prog 37 #[.int .i64 k] w fun e w' => e = .returned (.int .i64 (7)) ∧ w' = w := fun w => by
    have h := usesH_any k w
    rw [hu] at h
    exact h
  have P0 : ∀ w, Calls Tryz.prog 38 #[.int .i64 R] w fun e w' => e = .returned (.bool true) ∧ w' = w := fun w => by
    have h := isRoot_any R w
    rw [hR] at h
    exact h
  have P1 : ∀ w, Calls Tryz.prog 38 #[.int .i64 A] w fun e w' => e = .returned (.bool false) ∧ w' = w := fun w => by
    have h := isRoot_any A w
    rw [hA] at h
    exact h
  have hb0 := (Below.refl w.heap.size w).alloc (Nat.le_refl _) (.cells #[.int .i64 k, .int .i64 R, .int .i64 A, .int .i64 B, .int .i64 I, .int .i64 n] 34)
  clear hu
  go_enter Tryz.func18, Tryz.ntmps18
  go_wp2_with fail
  refine (U _).mono ?_
  rintro e w1 ⟨rfl, rfl⟩
  go_wp2_with fail
  refine (P0 _).mono ?_
  rintro e w1 ⟨rfl, rfl⟩
  go_wp2_with fail
  refine (P1 _).mono ?_
  rintro e w1 ⟨rfl, rfl⟩
  go_wp2_with fail
  go_ret
  exact ⟨rfl, hb0⟩
set_option maxRecDepth 100000 in
set_option maxHeartbeats 1000000 in
theorem ck_7_2 (hu : usK k = 7) (hR : rtB R = true) (hA : rtB A = true) (hB : rtB B = false) : Calls Tryz.prog 18 #[.agg #[.int .i64 k, .int .i64 R, .int .i64 A, .int .i64 B, .int .i64 I, .int .i64 n]] w fun e w' => e = .returned (.int .i64 (1)) ∧ Below w.heap.size w w' := by
  have U : ∀ w, Calls Tryz.prog 37 #[.int .i64 k] w fun e w' => e = .returned (.int .i64 (7)) ∧ w' = w := fun w => by
    have h := usesH_any k w
    rw [hu] at h
    exact h
  have P0 : ∀ w, Calls Tryz.prog 38 #[.int .i64 R] w fun e w' => e = .returned (.bool true) ∧ w' = w := fun w => by
    have h := isRoot_any R w
    rw [hR] at h
    exact h
  have P1 : ∀ w, Calls Tryz.prog 38 #[.int .i64 A] w fun e w' => e = .returned (.bool true) ∧ w' = w := fun w => by
    have h := isRoot_any A w
    rw [hA] at h
    exact h
  have P2 : ∀ w, Calls Tryz.prog 38 #[.int .i64 B] w fun e w' => e = .returned (.bool false) ∧ w' = w := fun w => by
    have h := isRoot_any B w
    rw [hB] at h
    exact h
  have hb0 := (Below.refl w.heap.size w).alloc (Nat.le_refl _) (.cells #[.int .i64 k, .int .i64 R, .int .i64 A, .int .i64 B, .int .i64 I, .int .i64 n] 34)
  clear hu
  go_enter Tryz.func18, Tryz.ntmps18
  go_wp2_with fail
  refine (U _).mono ?_
  rintro e w1 ⟨rfl, rfl⟩
  go_wp2_with fail
  refine (P0 _).mono ?_
  rintro e w1 ⟨rfl, rfl⟩
  go_wp2_with fail
  refine (P1 _).mono ?_
  rintro e w1 ⟨rfl, rfl⟩
  go_wp2_with fail
  refine (P2 _).mono ?_
  rintro e w1 ⟨rfl, rfl⟩
  go_wp2_with fail
  go_ret
  exact ⟨rfl, hb0⟩
set_option maxRecDepth 100000 in
set_option maxHeartbeats 1000000 in
theorem ck_7_3 (hu : usK k = 7) (hR : rtB R = true) (hA : rtB A = true) (hB : rtB B = true) : Calls Tryz.prog 18 #[.agg #[.int .i64 k, .int .i64 R, .int .i64 A, .int .i64 B, .int .i64 I, .int .i64 n]] w fun e w' => e = .returned (.int .i64 (ckN k n)) ∧ Below w.heap.size w w' := by
  have U : ∀ w, Calls Tryz.prog 37 #[.int .i64 k] w fun e w' => e = .returned (.int .i64 (7)) ∧ w' = w := fun w => by
    have h := usesH_any k w
    rw [hu] at h
    exact h
  have P0 : ∀ w, Calls Tryz.prog 38 #[.int .i64 R] w fun e w' => e = .returned (.bool true) ∧ w' = w := fun w => by
    have h := isRoot_any R w
    rw [hR] at h
    exact h
  have P1 : ∀ w, Calls Tryz.prog 38 #[.int .i64 A] w fun e w' => e = .returned (.bool true) ∧ w' = w := fun w => by
    have h := isRoot_any A w
    rw [hA] at h
    exact h
  have P2 : ∀ w, Calls Tryz.prog 38 #[.int .i64 B] w fun e w' => e = .returned (.bool true) ∧ w' = w := fun w => by
    have h := isRoot_any B w
    rw [hB] at h
    exact h
  have hb0 := (Below.refl w.heap.size w).alloc (Nat.le_refl _) (.cells #[.int .i64 k, .int .i64 R, .int .i64 A, .int .i64 B, .int .i64 I, .int .i64 n] 34)
  clear hu
  go_enter Tryz.func18, Tryz.ntmps18
  go_wp2_with fail
  refine (U _).mono ?_
  rintro e w1 ⟨rfl, rfl⟩
  go_wp2_with fail
  refine (P0 _).mono ?_
  rintro e w1 ⟨rfl, rfl⟩
  go_wp2_with fail
  refine (P1 _).mono ?_
  rintro e w1 ⟨rfl, rfl⟩
  go_wp2_with fail
  refine (P2 _).mono ?_
  rintro e w1 ⟨rfl, rfl⟩
  go_wp2_with fail
  refine (checkN_any k R A B I n _).mono ?_
  rintro e w2 ⟨rfl, hb2⟩
  go_wp2_with fail
  go_ret
  exact ⟨rfl, hb0.trans (hb2.mono hb0.size)⟩
set_option maxRecDepth 100000 in
set_option maxHeartbeats 1000000 in
theorem ck_6_1 (hu : usK k = 6) (hA : rtB A = false) : Calls Tryz.prog 18 #[.agg #[.int .i64 k, .int .i64 R, .int .i64 A, .int .i64 B, .int .i64 I, .int .i64 n]] w fun e w' => e = .returned (.int .i64 (1)) ∧ Below w.heap.size w w' := by
  have U : ∀ w, Calls Tryz.prog 37 #[.int .i64 k] w fun e w' => e = .returned (.int .i64 (6)) ∧ w' = w := fun w => by
    have h := usesH_any k w
    rw [hu] at h
    exact h
  have P1 : ∀ w, Calls Tryz.prog 38 #[.int .i64 A] w fun e w' => e = .returned (.bool false) ∧ w' = w := fun w => by
    have h := isRoot_any A w
    rw [hA] at h
    exact h
  have hb0 := (Below.refl w.heap.size w).alloc (Nat.le_refl _) (.cells #[.int .i64 k, .int .i64 R, .int .i64 A, .int .i64 B, .int .i64 I, .int .i64 n] 34)
  clear hu
  go_enter Tryz.func18, Tryz.ntmps18
  go_wp2_with fail
  refine (U _).mono ?_
  rintro e w1 ⟨rfl, rfl⟩
  go_wp2_with fail
  refine (P1 _).mono ?_
  rintro e w1 ⟨rfl, rfl⟩
  go_wp2_with fail
  go_ret
  exact ⟨rfl, hb0⟩
set_option maxRecDepth 100000 in
set_option maxHeartbeats 1000000 in
theorem ck_6_2 (hu : usK k = 6) (hA : rtB A = true) (hB : rtB B = false) : Calls Tryz.prog 18 #[.agg #[.int .i64 k, .int .i64 R, .int .i64 A, .int .i64 B, .int .i64 I, .int .i64 n]] w fun e w' => e = .returned (.int .i64 (1)) ∧ Below w.heap.size w w' := by
  have U : ∀ w, Calls Tryz.prog 37 #[.int .i64 k] w fun e w' => e = .returned (.int .i64 (6)) ∧ w' = w := fun w => by
    have h := usesH_any k w
    rw [hu] at h
    exact h
  have P1 : ∀ w, Calls Tryz.prog 38 #[.int .i64 A] w fun e w' => e = .returned (.bool true) ∧ w' = w := fun w => by
    have h := isRoot_any A w
    rw [hA] at h
    exact h
  have P2 : ∀ w, Calls Tryz.prog 38 #[.int .i64 B] w fun e w' => e = .returned (.bool false) ∧ w' = w := fun w => by
    have h := isRoot_any B w
    rw [hB] at h
    exact h
  have hb0 := (Below.refl w.heap.size w).alloc (Nat.le_refl _) (.cells #[.int .i64 k, .int .i64 R, .int .i64 A, .int .i64 B, .int .i64 I, .int .i64 n] 34)
  clear hu
  go_enter Tryz.func18, Tryz.ntmps18
  go_wp2_with fail
  refine (U _).mono ?_
  rintro e w1 ⟨rfl, rfl⟩
  go_wp2_with fail
  refine (P1 _).mono ?_
  rintro e w1 ⟨rfl, rfl⟩
  go_wp2_with fail
  refine (P2 _).mono ?_
  rintro e w1 ⟨rfl, rfl⟩
  go_wp2_with fail
  go_ret
  exact ⟨rfl, hb0⟩
set_option maxRecDepth 100000 in
set_option maxHeartbeats 1000000 in
theorem ck_6_3 (hu : usK k = 6) (hA : rtB A = true) (hB : rtB B = true) : Calls Tryz.prog 18 #[.agg #[.int .i64 k, .int .i64 R, .int .i64 A, .int .i64 B, .int .i64 I, .int .i64 n]] w fun e w' => e = .returned (.int .i64 (ckN k n)) ∧ Below w.heap.size w w' := by
  have U : ∀ w, Calls Tryz.prog 37 #[.int .i64 k] w fun e w' => e = .returned (.int .i64 (6)) ∧ w' = w := fun w => by
    have h := usesH_any k w
    rw [hu] at h
    exact h
  have P1 : ∀ w, Calls Tryz.prog 38 #[.int .i64 A] w fun e w' => e = .returned (.bool true) ∧ w' = w := fun w => by
    have h := isRoot_any A w
    rw [hA] at h
    exact h
  have P2 : ∀ w, Calls Tryz.prog 38 #[.int .i64 B] w fun e w' => e = .returned (.bool true) ∧ w' = w := fun w => by
    have h := isRoot_any B w
    rw [hB] at h
    exact h
  have hb0 := (Below.refl w.heap.size w).alloc (Nat.le_refl _) (.cells #[.int .i64 k, .int .i64 R, .int .i64 A, .int .i64 B, .int .i64 I, .int .i64 n] 34)
  clear hu
  go_enter Tryz.func18, Tryz.ntmps18
  go_wp2_with fail
  refine (U _).mono ?_
  rintro e w1 ⟨rfl, rfl⟩
  go_wp2_with fail
  refine (P1 _).mono ?_
  rintro e w1 ⟨rfl, rfl⟩
  go_wp2_with fail
  refine (P2 _).mono ?_
  rintro e w1 ⟨rfl, rfl⟩
  go_wp2_with fail
  refine (checkN_any k R A B I n _).mono ?_
  rintro e w2 ⟨rfl, hb2⟩
  go_wp2_with fail
  go_ret
  exact ⟨rfl, hb0.trans (hb2.mono hb0.size)⟩
set_option maxRecDepth 100000 in
set_option maxHeartbeats 1000000 in
theorem ck_0_3 (hu : usK k = 0) : Calls Tryz.prog 18 #[.agg #[.int .i64 k, .int .i64 R, .int .i64 A, .int .i64 B, .int .i64 I, .int .i64 n]] w fun e w' => e = .returned (.int .i64 (ckN k n)) ∧ Below w.heap.size w w' := by
  have U : ∀ w, Calls Tryz.prog 37 #[.int .i64 k] w fun e w' => e = .returned (.int .i64 (0)) ∧ w' = w := fun w => by
    have h := usesH_any k w
    rw [hu] at h
    exact h
  have hb0 := (Below.refl w.heap.size w).alloc (Nat.le_refl _) (.cells #[.int .i64 k, .int .i64 R, .int .i64 A, .int .i64 B, .int .i64 I, .int .i64 n] 34)
  clear hu
  go_enter Tryz.func18, Tryz.ntmps18
  go_wp2_with fail
  refine (U _).mono ?_
  rintro e w1 ⟨rfl, rfl⟩
  go_wp2_with fail
  refine (checkN_any k R A B I n _).mono ?_
  rintro e w2 ⟨rfl, hb2⟩
  go_wp2_with fail
  go_ret
  exact ⟨rfl, hb0.trans (hb2.mono hb0.size)⟩
set_option maxRecDepth 100000 in
set_option maxHeartbeats 1000000 in
theorem ck_none (hu : usK k = -1) : Calls Tryz.prog 18 #[.agg #[.int .i64 k, .int .i64 R, .int .i64 A, .int .i64 B, .int .i64 I, .int .i64 n]] w fun e w' => e = .returned (.int .i64 (2)) ∧ Below w.heap.size w w' := by
  have U : ∀ w, Calls Tryz.prog 37 #[.int .i64 k] w fun e w' => e = .returned (.int .i64 (-1)) ∧ w' = w := fun w => by
    have h := usesH_any k w
    rw [hu] at h
    exact h
  have hb0 := (Below.refl w.heap.size w).alloc (Nat.le_refl _) (.cells #[.int .i64 k, .int .i64 R, .int .i64 A, .int .i64 B, .int .i64 I, .int .i64 n] 34)
  clear hu
  go_enter Tryz.func18, Tryz.ntmps18
  go_wp2_with fail
  refine (U _).mono ?_
  rintro e w1 ⟨rfl, rfl⟩
  go_wp2_with fail
  go_ret
  exact ⟨rfl, hb0⟩
end

theorem checkH_any (k R A B I n : Int) (w : World) : Calls Tryz.prog 18 #[.agg #[.int .i64 k, .int .i64 R, .int .i64 A, .int .i64 B, .int .i64 I, .int .i64 n]] w fun e w' => e = .returned (.int .i64 (ckC k R A B n)) ∧ Below w.heap.size w w' := by
  unfold ckC
  rcases usK_all k with hu | hu | hu | hu | hu | hu
  · rw [hu, if_neg (by decide)]
    cases hR : rtB R
    · rw [if_pos (by simp)]
      exact ck_1_0 hu  hR
    · rw [if_neg (by simp)]
      exact ck_1_3 hu hR
  · rw [hu, if_neg (by decide)]
    cases hR : rtB R
    · rw [if_pos (by simp)]
      exact ck_3_0 hu  hR
    · cases hA : rtB A
      · rw [if_pos (by simp)]
        exact ck_3_1 hu hR hA
      · rw [if_neg (by simp)]
        exact ck_3_3 hu hR hA
  · rw [hu, if_neg (by decide)]
    cases hR : rtB R
    · rw [if_pos (by simp)]
      exact ck_7_0 hu  hR
    · cases hA : rtB A
      · rw [if_pos (by simp)]
        exact ck_7_1 hu hR hA
      · cases hB : rtB B
        · rw [if_pos (by simp)]
          exact ck_7_2 hu hR hA hB
        · rw [if_neg (by simp)]
          exact ck_7_3 hu hR hA hB
  · rw [hu, if_neg (by decide)]
    cases hA : rtB A
    · rw [if_pos (by simp)]
      exact ck_6_1 hu  hA
    · cases hB : rtB B
      · rw [if_pos (by simp)]
        exact ck_6_2 hu hA hB
      · rw [if_neg (by simp)]
        exact ck_6_3 hu hA hB
  · rw [hu, if_neg (by decide)]
    rw [if_neg (by simp)]
    exact ck_0_3 hu 
  · rw [if_pos hu]
    exact ck_none hu

end Go.Proofs.YtogknhogphkddaaGreat

/- A grove in memory: Do: what is refused, cuts, what root refuses: contracts. -/
namespace Go.Proofs.YtogknhogphkddaaGreat
open Go.RowKit W Kp Stl

section
variable {gp rb : Nat} {most grow : Int} {F : Nat → Prop} {w : World}

set_option maxRecDepth 100000 in
set_option maxHeartbeats 2000000 in
theorem doG_bad (k R A B I n : Int) (hc : ckC k R A B n ≠ 0) :
    Calls Tryz.prog 8 #[.pointer (some ⟨gp, 0, none⟩), hsV k R A B I n] w fun e w' => e = .returned (.int .i64 (ckC k R A B n)) ∧ Below w.heap.size w w' := by
  have hb0 := (Below.refl w.heap.size w).alloc (Nat.le_refl _) (hsC k R A B I n)
  have PC := checkH_any k R A B I n (w.alloc (hsC k R A B I n))
  have HB : Hid (Below w.heap.size w (w.alloc (hsC k R A B I n))) := hb0
  have cb : (ckC k R A B n == 0) = false := by simpa using hc
  generalize ckC k R A B n = cd at *
  clear hb0 hc
  go_enter Tryz.func8, Tryz.ntmps8
  go_wp2_with fail
  refine PC.mono ?_
  clear PC
  rintro e w1 ⟨rfl, hb1⟩
  have hbt := HB.out.trans (hb1.mono HB.out.size)
  clear hb1
  go_wp2_with fail
  go_ret
  exact ⟨rfl, hbt⟩

set_option maxRecDepth 100000 in
set_option maxHeartbeats 2000000 in
theorem doG_cut (k R A B I n : Int) (hk : k = 15 ∨ k = 16) (hc : ckC k R A B n = 0) (cd : Int) (S2 : Wrs)
    (P1 : k = 15 → ∀ w', Below w.heap.size w w' → Calls Tryz.prog 21 #[.pointer (some ⟨gp, 0, none⟩)] w' fun e w'' => ∃ F2, e = .returned (.int .i64 cd) ∧ (grO gp most grow rb).J F2 S2 w'' ∧ Tn F w' F2 w'') (P2 : k = 16 → ∀ w', Below w.heap.size w w' → Calls Tryz.prog 22 #[.pointer (some ⟨gp, 0, none⟩)] w' fun e w'' => ∃ F2, e = .returned (.int .i64 cd) ∧ (grO gp most grow rb).J F2 S2 w'' ∧ Tn F w' F2 w'') :
    Calls Tryz.prog 8 #[.pointer (some ⟨gp, 0, none⟩), hsV k R A B I n] w fun e w' => ∃ F', e = .returned (.int .i64 cd) ∧ (grO gp most grow rb).J F' S2 w' ∧ Tn F w F' w' := by
  have hb0 := (Below.refl w.heap.size w).alloc (Nat.le_refl _) (hsC k R A B I n)
  have hx0 := heap_alloc_new w (.cells #[.int .i64 k, .int .i64 R, .int .i64 A, .int .i64 B, .int .i64 I, .int .i64 n] 34)
  have PC := checkH_any k R A B I n (w.alloc (hsC k R A B I n))
  rw [hc] at PC
  have HE : Hid (∀ w1, Below (w.alloc (hsC k R A B I n)).heap.size (w.alloc (hsC k R A B I n)) w1 → Below w.heap.size w w1 ∧ w1.heap[w.heap.size]? = some (hsC k R A B I n)) := fun w1 hb => ⟨hb0.trans (hb.mono hb0.size), (hb.block _ (lt_of_some hx0)).trans hx0⟩
  clear hb0 hx0 hc
  rcases hk with rfl | rfl
  · have HP : Hid (_) := P1 rfl
    clear P1 P2
    go_enter Tryz.func8, Tryz.ntmps8
    go_wp2_with fail
    refine PC.mono ?_
    clear PC
    rintro e w1 ⟨rfl, hb1⟩
    obtain ⟨hbt, hx1⟩ := HE.out w1 hb1
    obtain ⟨q0, q1, q2, q3, q4, q5⟩ := hs_cells hx1
    have P := HP.out w1 hbt
    have HT : Hid (Tn F w F w1) := Tn.of hbt
    clear hb1 hbt hx1 q1 q2 q3 q4 q5 HE HP
    go_wp2_with fail
    refine P.mono ?_
    clear P
    rintro e w2 ⟨F2, rfl, J2, T2⟩
    have HF : Hid ((grO gp most grow rb).J F2 S2 w2 ∧ Tn F w F2 w2) := ⟨J2, HT.out.trans T2⟩
    clear J2 T2
    go_wp2_with fail
    go_ret
    exact ⟨F2, rfl, HF.out.1, HF.out.2⟩
  · have HP : Hid (_) := P2 rfl
    clear P1 P2
    go_enter Tryz.func8, Tryz.ntmps8
    go_wp2_with fail
    refine PC.mono ?_
    clear PC
    rintro e w1 ⟨rfl, hb1⟩
    obtain ⟨hbt, hx1⟩ := HE.out w1 hb1
    obtain ⟨q0, q1, q2, q3, q4, q5⟩ := hs_cells hx1
    have P := HP.out w1 hbt
    have HT : Hid (Tn F w F w1) := Tn.of hbt
    clear hb1 hbt hx1 q1 q2 q3 q4 q5 HE HP
    go_wp2_with fail
    refine P.mono ?_
    clear P
    rintro e w2 ⟨F2, rfl, J2, T2⟩
    have HF : Hid ((grO gp most grow rb).J F2 S2 w2 ∧ Tn F w F2 w2) := ⟨J2, HT.out.trans T2⟩
    clear J2 T2
    go_wp2_with fail
    go_ret
    exact ⟨F2, rfl, HF.out.1, HF.out.2⟩
end

end Go.Proofs.YtogknhogphkddaaGreat

/- A grove in memory: Do: register, set: contracts (gdo.py). -/
namespace Go.Proofs.YtogknhogphkddaaGreat
open Go.RowKit W Kp Stl

section
variable {gp rb : Nat} {most grow : Int} {F : Nat → Prop} {s : Wrs} {w : World}

set_option maxRecDepth 100000 in
set_option maxHeartbeats 4000000 in
theorem doG_reg (h : (grO gp most grow rb).J F s w) (R I n : Int) (A B : Nat) (hA : A < 12) (hB : B < 12) (hc : ckC 9 R A B n = 0) (cd : Int) (S2 : Wrs) (hrs : S2.rs = s.rs)
    (P0 : ∀ w', Below w.heap.size w w' → Calls Tryz.prog 19 #[.pointer (some ⟨gp, 0, none⟩), .agg #[.int .i64 (s.rs.getD A (0, 0)).1, .int .i64 (s.rs.getD A (0, 0)).2], .agg #[.int .i64 (s.rs.getD B (0, 0)).1, .int .i64 (s.rs.getD B (0, 0)).2]] w' fun e w'' => ∃ F2, e = .returned (.int .i64 cd) ∧ (grO gp most grow rb).J F2 S2 w'' ∧ Tn F w' F2 w'') :
    Calls Tryz.prog 8 #[.pointer (some ⟨gp, 0, none⟩), hsV 9 R A B I n] w fun e w' => ∃ F', e = .returned (.int .i64 cd) ∧ (grO gp most grow rb).J F' S2 w' ∧ Tn F w F' w' := by
  have hb0 := (Below.refl w.heap.size w).alloc (Nat.le_refl _) (hsC 9 R A B I n)
  have hx0 := heap_alloc_new w (.cells #[.int .i64 9, .int .i64 R, .int .i64 (A : Int), .int .i64 (B : Int), .int .i64 I, .int .i64 n] 34)
  have PC := checkH_any 9 R A B I n (w.alloc (hsC 9 R A B I n))
  rw [hc] at PC
  have lF : ∀ b, F b → b < w.heap.size := fun b hb => (grO gp most grow rb).lt h b hb
  have HE : Hid (∀ w1, Below (w.alloc (hsC 9 R A B I n)).heap.size (w.alloc (hsC 9 R A B I n)) w1 → (w1.cell? ⟨gp, 6, none⟩ = some (.slice (some ⟨rb, 0, none⟩) 12 12) ∧ w1.cell? ⟨rb, A * 2, none⟩ = some (.int .i64 (s.rs.getD A (0, 0)).1) ∧ w1.cell? ⟨rb, A * 2 + 1, none⟩ = some (.int .i64 (s.rs.getD A (0, 0)).2) ∧ w1.cell? ⟨rb, B * 2, none⟩ = some (.int .i64 (s.rs.getD B (0, 0)).1) ∧ w1.cell? ⟨rb, B * 2 + 1, none⟩ = some (.int .i64 (s.rs.getD B (0, 0)).2) ∧ w1.heap[w.heap.size]? = some (hsC 9 R A B I n)) ∧
      Calls Tryz.prog 19 #[.pointer (some ⟨gp, 0, none⟩), .agg #[.int .i64 (s.rs.getD A (0, 0)).1, .int .i64 (s.rs.getD A (0, 0)).2], .agg #[.int .i64 (s.rs.getD B (0, 0)).1, .int .i64 (s.rs.getD B (0, 0)).2]] w1.drew fun e w2 => ∃ F2, e = .returned (.int .i64 cd) ∧ (w2.cell? ⟨gp, 6, none⟩ = some (.slice (some ⟨rb, 0, none⟩) 12 12) ∧ w2.cell? ⟨rb, A * 2, none⟩ = some (.int .i64 (s.rs.getD A (0, 0)).1) ∧ w2.cell? ⟨rb, A * 2 + 1, none⟩ = some (.int .i64 (s.rs.getD A (0, 0)).2) ∧ w2.cell? ⟨rb, B * 2, none⟩ = some (.int .i64 (s.rs.getD B (0, 0)).1) ∧ w2.cell? ⟨rb, B * 2 + 1, none⟩ = some (.int .i64 (s.rs.getD B (0, 0)).2) ∧ w2.cell? ⟨w.heap.size, 2, none⟩ = some (.int .i64 A) ∧ w2.cell? ⟨w.heap.size, 3, none⟩ = some (.int .i64 B)) ∧ Hid ((grO gp most grow rb).J F2 S2 w2 ∧ Tn F w F2 w2)) := fun w1 hb => by
    have hbt : Below w.heap.size w w1 := hb0.trans (hb.mono hb0.size)
    have hx1 := (hb.block _ (lt_of_some hx0)).trans hx0
    obtain ⟨c6, rt, _, _⟩ := grO_lk ((grO gp most grow rb).below h hbt)
    refine ⟨⟨c6, (rt A hA).1, (rt A hA).2, (rt B hB).1, (rt B hB).2, hx1⟩, (P0 w1.drew hbt.drew).mono ?_⟩
    rintro e w2 ⟨F2, rfl, hj, tn⟩
    obtain ⟨d6, rt', _, _⟩ := grO_lk hj
    rw [hrs] at rt'
    have hx2 := (tn.fr.block w.heap.size (lt_of_some hx1) (fun d => by have := lF _ d; omega)).trans hx1
    obtain ⟨_, _, p2, p3, p4, _⟩ := hs_cells hx2
    exact ⟨F2, rfl, ⟨d6, (rt' A hA).1, (rt' A hA).2, (rt' B hB).1, (rt' B hB).2, p2, p3⟩, hj, (Tn.of hbt.drew).trans tn⟩
  generalize (s.rs.getD A (0, 0)).1 = a0 at *
  generalize (s.rs.getD A (0, 0)).2 = a1 at *
  generalize (s.rs.getD B (0, 0)).1 = e0 at *
  generalize (s.rs.getD B (0, 0)).2 = e1 at *
  have i0 : (0 : Int) ≤ (A : Int) := by omega
  have i1 : (A : Int) < 12 := by omega
  have i2 : (0 : Int) ≤ (B : Int) := by omega
  have i3 : (B : Int) < 12 := by omega
  clear h hb0 hx0 hc lF P0 hrs
  go_enter Tryz.func8, Tryz.ntmps8
  go_wp2_with fail
  refine PC.mono ?_
  clear PC
  rintro e w1 ⟨rfl, hb1⟩
  obtain ⟨⟨k1, k2, k3, k4, k5, hx1⟩, HP⟩ := HE.out w1 hb1
  obtain ⟨q0, q1, q2, q3, q4, q5⟩ := hs_cells hx1
  clear hb1 hx1 HE q1 q5 q4
  go_wp2_with fail
  go_region_held3 (fun w' => w'.cell? ⟨gp, 6, none⟩ = some (.slice (some ⟨rb, 0, none⟩) 12 12) ∧ w'.cell? ⟨rb, A * 2, none⟩ = some (.int .i64 a0) ∧ w'.cell? ⟨rb, A * 2 + 1, none⟩ = some (.int .i64 a1) ∧ w'.cell? ⟨rb, B * 2, none⟩ = some (.int .i64 e0) ∧ w'.cell? ⟨rb, B * 2 + 1, none⟩ = some (.int .i64 e1) ∧ w'.cell? ⟨w.heap.size, 2, none⟩ = some (.int .i64 A) ∧ w'.cell? ⟨w.heap.size, 3, none⟩ = some (.int .i64 B)) (first | exact ⟨d1, d2, d3, d4, d5, d6, d7⟩ | (go_keep; done))
    (first | (go_at_call 19; refine HP.mono ?_; clear HP; rintro e w2 ⟨F2, rfl, ⟨d1, d2, d3, d4, d5, d6, d7⟩, HF⟩; clear k1 k2 k3 k4 k5 q2 q3))
  all_goals
    clear d1 d2 d3 d4 d5 d6 d7 ‹_ ∧ _›
    go_wp2_with fail
    go_ret
    exact ⟨F2, rfl, HF.out.1, HF.out.2⟩

set_option maxRecDepth 100000 in
set_option maxHeartbeats 4000000 in
theorem doG_set (h : (grO gp most grow rb).J F s w) (R I n : Int) (A B : Nat) (hA : A < 12) (hB : B < 12) (hc : ckC 12 R A B n = 0) (cd : Int) (S2 : Wrs) (hrs : S2.rs = s.rs)
    (P0 : ∀ w', Below w.heap.size w w' → Calls Tryz.prog 20 #[.pointer (some ⟨gp, 0, none⟩), .agg #[.int .i64 (s.rs.getD A (0, 0)).1, .int .i64 (s.rs.getD A (0, 0)).2], .int .i64 I, .agg #[.int .i64 (s.rs.getD B (0, 0)).1, .int .i64 (s.rs.getD B (0, 0)).2]] w' fun e w'' => ∃ F2, e = .returned (.int .i64 cd) ∧ (grO gp most grow rb).J F2 S2 w'' ∧ Tn F w' F2 w'') :
    Calls Tryz.prog 8 #[.pointer (some ⟨gp, 0, none⟩), hsV 12 R A B I n] w fun e w' => ∃ F', e = .returned (.int .i64 cd) ∧ (grO gp most grow rb).J F' S2 w' ∧ Tn F w F' w' := by
  have hb0 := (Below.refl w.heap.size w).alloc (Nat.le_refl _) (hsC 12 R A B I n)
  have hx0 := heap_alloc_new w (.cells #[.int .i64 12, .int .i64 R, .int .i64 (A : Int), .int .i64 (B : Int), .int .i64 I, .int .i64 n] 34)
  have PC := checkH_any 12 R A B I n (w.alloc (hsC 12 R A B I n))
  rw [hc] at PC
  have lF : ∀ b, F b → b < w.heap.size := fun b hb => (grO gp most grow rb).lt h b hb
  have HE : Hid (∀ w1, Below (w.alloc (hsC 12 R A B I n)).heap.size (w.alloc (hsC 12 R A B I n)) w1 → (w1.cell? ⟨gp, 6, none⟩ = some (.slice (some ⟨rb, 0, none⟩) 12 12) ∧ w1.cell? ⟨rb, A * 2, none⟩ = some (.int .i64 (s.rs.getD A (0, 0)).1) ∧ w1.cell? ⟨rb, A * 2 + 1, none⟩ = some (.int .i64 (s.rs.getD A (0, 0)).2) ∧ w1.cell? ⟨rb, B * 2, none⟩ = some (.int .i64 (s.rs.getD B (0, 0)).1) ∧ w1.cell? ⟨rb, B * 2 + 1, none⟩ = some (.int .i64 (s.rs.getD B (0, 0)).2) ∧ w1.heap[w.heap.size]? = some (hsC 12 R A B I n)) ∧
      Calls Tryz.prog 20 #[.pointer (some ⟨gp, 0, none⟩), .agg #[.int .i64 (s.rs.getD A (0, 0)).1, .int .i64 (s.rs.getD A (0, 0)).2], .int .i64 I, .agg #[.int .i64 (s.rs.getD B (0, 0)).1, .int .i64 (s.rs.getD B (0, 0)).2]] w1.drew fun e w2 => ∃ F2, e = .returned (.int .i64 cd) ∧ (w2.cell? ⟨gp, 6, none⟩ = some (.slice (some ⟨rb, 0, none⟩) 12 12) ∧ w2.cell? ⟨rb, A * 2, none⟩ = some (.int .i64 (s.rs.getD A (0, 0)).1) ∧ w2.cell? ⟨rb, A * 2 + 1, none⟩ = some (.int .i64 (s.rs.getD A (0, 0)).2) ∧ w2.cell? ⟨rb, B * 2, none⟩ = some (.int .i64 (s.rs.getD B (0, 0)).1) ∧ w2.cell? ⟨rb, B * 2 + 1, none⟩ = some (.int .i64 (s.rs.getD B (0, 0)).2) ∧ w2.cell? ⟨w.heap.size, 2, none⟩ = some (.int .i64 A) ∧ w2.cell? ⟨w.heap.size, 3, none⟩ = some (.int .i64 B) ∧ w2.cell? ⟨w.heap.size, 4, none⟩ = some (.int .i64 I)) ∧ Hid ((grO gp most grow rb).J F2 S2 w2 ∧ Tn F w F2 w2)) := fun w1 hb => by
    have hbt : Below w.heap.size w w1 := hb0.trans (hb.mono hb0.size)
    have hx1 := (hb.block _ (lt_of_some hx0)).trans hx0
    obtain ⟨c6, rt, _, _⟩ := grO_lk ((grO gp most grow rb).below h hbt)
    refine ⟨⟨c6, (rt A hA).1, (rt A hA).2, (rt B hB).1, (rt B hB).2, hx1⟩, (P0 w1.drew hbt.drew).mono ?_⟩
    rintro e w2 ⟨F2, rfl, hj, tn⟩
    obtain ⟨d6, rt', _, _⟩ := grO_lk hj
    rw [hrs] at rt'
    have hx2 := (tn.fr.block w.heap.size (lt_of_some hx1) (fun d => by have := lF _ d; omega)).trans hx1
    obtain ⟨_, _, p2, p3, p4, _⟩ := hs_cells hx2
    exact ⟨F2, rfl, ⟨d6, (rt' A hA).1, (rt' A hA).2, (rt' B hB).1, (rt' B hB).2, p2, p3, p4⟩, hj, (Tn.of hbt.drew).trans tn⟩
  generalize (s.rs.getD A (0, 0)).1 = a0 at *
  generalize (s.rs.getD A (0, 0)).2 = a1 at *
  generalize (s.rs.getD B (0, 0)).1 = e0 at *
  generalize (s.rs.getD B (0, 0)).2 = e1 at *
  have i0 : (0 : Int) ≤ (A : Int) := by omega
  have i1 : (A : Int) < 12 := by omega
  have i2 : (0 : Int) ≤ (B : Int) := by omega
  have i3 : (B : Int) < 12 := by omega
  clear h hb0 hx0 hc lF P0 hrs
  go_enter Tryz.func8, Tryz.ntmps8
  go_wp2_with fail
  refine PC.mono ?_
  clear PC
  rintro e w1 ⟨rfl, hb1⟩
  obtain ⟨⟨k1, k2, k3, k4, k5, hx1⟩, HP⟩ := HE.out w1 hb1
  obtain ⟨q0, q1, q2, q3, q4, q5⟩ := hs_cells hx1
  clear hb1 hx1 HE q1 q5
  go_wp2_with fail
  go_region_held3 (fun w' => w'.cell? ⟨gp, 6, none⟩ = some (.slice (some ⟨rb, 0, none⟩) 12 12) ∧ w'.cell? ⟨rb, A * 2, none⟩ = some (.int .i64 a0) ∧ w'.cell? ⟨rb, A * 2 + 1, none⟩ = some (.int .i64 a1) ∧ w'.cell? ⟨rb, B * 2, none⟩ = some (.int .i64 e0) ∧ w'.cell? ⟨rb, B * 2 + 1, none⟩ = some (.int .i64 e1) ∧ w'.cell? ⟨w.heap.size, 2, none⟩ = some (.int .i64 A) ∧ w'.cell? ⟨w.heap.size, 3, none⟩ = some (.int .i64 B) ∧ w'.cell? ⟨w.heap.size, 4, none⟩ = some (.int .i64 I)) (first | exact ⟨d1, d2, d3, d4, d5, d6, d7, d8⟩ | (go_keep; done))
    (first | (go_at_call 20; refine HP.mono ?_; clear HP; rintro e w2 ⟨F2, rfl, ⟨d1, d2, d3, d4, d5, d6, d7, d8⟩, HF⟩; clear k1 k2 k3 k4 k5 q2 q3 q4))
  all_goals
    clear d1 d2 d3 d4 d5 d6 d7 d8 ‹_ ∧ _›
    go_wp2_with fail
    go_ret
    exact ⟨F2, rfl, HF.out.1, HF.out.2⟩
end

end Go.Proofs.YtogknhogphkddaaGreat

/- A grove in memory: Do: what root refuses: a contract. -/
namespace Go.Proofs.YtogknhogphkddaaGreat
open Go.RowKit W Kp Stl

section
variable {gp rb : Nat} {most grow : Int} {F : Nat → Prop} {w : World}

set_option maxRecDepth 100000 in
set_option maxHeartbeats 4000000 in
theorem doG_code (k R A B I n : Int) (hc : ckC k R A B n = 0) (k1 : k ≠ 9) (k2 : k ≠ 12) (k3 : k ≠ 15) (k4 : k ≠ 16) (v : Int × Int) (cd : Int) (hcd : cd ≠ 0) (S2 : Wrs)
    (PR : ∀ w', Below w.heap.size w w' → Calls Tryz.prog 23 #[.pointer (some ⟨gp, 0, none⟩), hsV k R A B I n] w' fun e w'' => ∃ F2, e = .returned (.tuple #[.agg #[.int .i64 v.1, .int .i64 v.2], .int .i64 cd]) ∧ (grO gp most grow rb).J F2 S2 w'' ∧ Tn F w' F2 w'') :
    Calls Tryz.prog 8 #[.pointer (some ⟨gp, 0, none⟩), hsV k R A B I n] w fun e w' => ∃ F', e = .returned (.int .i64 cd) ∧ (grO gp most grow rb).J F' S2 w' ∧ Tn F w F' w' := by
  obtain ⟨v0, v1⟩ := v
  dsimp only at PR
  have hb0 := (Below.refl w.heap.size w).alloc (Nat.le_refl _) (hsC k R A B I n)
  have hx0 := heap_alloc_new w (.cells #[.int .i64 k, .int .i64 R, .int .i64 A, .int .i64 B, .int .i64 I, .int .i64 n] 34)
  have PC := checkH_any k R A B I n (w.alloc (hsC k R A B I n))
  rw [hc] at PC
  have HE : Hid (∀ w1, Below (w.alloc (hsC k R A B I n)).heap.size (w.alloc (hsC k R A B I n)) w1 → w1.heap[w.heap.size]? = some (hsC k R A B I n) ∧ Calls Tryz.prog 23 #[.pointer (some ⟨gp, 0, none⟩), hsV k R A B I n] w1 fun e w2 => ∃ F2, e = .returned (.tuple #[.agg #[.int .i64 v0, .int .i64 v1], .int .i64 cd]) ∧ Hid ((grO gp most grow rb).J F2 S2 w2 ∧ Tn F w F2 w2)) := fun w1 hb => by
    have hbt : Below w.heap.size w w1 := hb0.trans (hb.mono hb0.size)
    refine ⟨(hb.block _ (lt_of_some hx0)).trans hx0, (PR w1 hbt).mono ?_⟩
    rintro e w2 ⟨F2, rfl, hj, tn⟩
    exact ⟨F2, rfl, hj, (Tn.of hbt).trans tn⟩
  have k1b : (k == 9) = false := by simpa using k1
  have k2b : (k == 12) = false := by simpa using k2
  have k3b : (k == 15) = false := by simpa using k3
  have k4b : (k == 16) = false := by simpa using k4
  have cb : (cd == 0) = false := by simpa using hcd
  clear hb0 hx0 hc PR
  go_enter Tryz.func8, Tryz.ntmps8
  go_wp2_with fail
  refine PC.mono ?_
  clear PC
  rintro e w1 ⟨rfl, hb1⟩
  obtain ⟨hx1, P⟩ := HE.out w1 hb1
  obtain ⟨q0, q1, q2, q3, q4, q5⟩ := hs_cells hx1
  clear hb1 hx1 HE
  go_wp2_with fail
  refine P.mono ?_
  clear P
  rintro e w2 ⟨F2, rfl, HJ⟩
  clear q0 q1 q2 q3 q4 q5
  have HB : Hid ((grO gp most grow rb).J F2 S2 (w2.alloc (.cells #[.int .i64 v0, .int .i64 v1] 54)) ∧ Tn F w F2 (w2.alloc (.cells #[.int .i64 v0, .int .i64 v1] 54))) := ⟨(grO gp most grow rb).below HJ.out.1 ((Below.refl _ _).alloc (Nat.le_refl _) _), HJ.out.2.below ((Below.refl _ _).alloc (Nat.le_refl _) _)⟩
  clear HJ
  go_wp2_with fail
  go_ret
  exact ⟨F2, rfl, HB.out.1, HB.out.2⟩
end

end Go.Proofs.YtogknhogphkddaaGreat
