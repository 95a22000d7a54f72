/- Joined: Hc3, Hc4, He1, He2. -/
import Derived.Test.YtalgochmjddodaaGreatJ17
import Derived.Test.YtalgochmjddodaaGreatJ05
import Derived.Test.YtalgochmjddodaaGreatJ03
namespace Go.Proofs.YtalgochmjddodaaGreat
open Go.RowKit W Kp Stl
section
variable {k R A B I n : Int} {w : World}
end
theorem usK_all (k : Int) : usK k = 1 \/ usK k = 3 \/ usK k = 7 \/ usK k = 6 \/ usK k = 0 \/ usK k = -1 := by
 unfold usK
 repeat' split
 all_goals simp
end Go.Proofs.YtalgochmjddodaaGreat

namespace Go.Proofs.YtalgochmjddodaaGreat
set_option maxRecDepth 100000
set_option maxHeartbeats 1000000
open Go.RowKit W Kp Stl
section
variable {k R A B I n : Int} {w : World}
theorem ck_1_0 (hu : usK k = 1) (hR : rtB R = false) : Calls Tryz.prog 85 #[.agg #[.int .i64 k, .int .i64 R, .int .i64 A, .int .i64 B, .int .i64 I, .int .i64 n]] w fun e w' => e = .returned (.int .i64 (1)) /\ Below w.heap.size w w' := by
 have U : ∀ w, Calls Tryz.prog 84 #[.int .i64 k] w fun e w' => e = .returned (.int .i64 (1)) /\ w' = w := fun w => by
  have h := usesH_any k w
  rw [hu] at h
  exact h
 have P0 : ∀ w, Calls Tryz.prog 169 #[.int .i64 R] w fun e w' => e = .returned (.bool false) /\ w' = w := fun w => by
  have h := isRoot_any R w
  rw [hR] at h
  exact h
 have hb0 := (Below.refl w.heap.size w).alloc (Nat.le_refl _) (.cells #[.int .i64 k, .int .i64 R, .int .i64 A, .int .i64 B, .int .i64 I, .int .i64 n] 65)
 clear hu
 go_enter Tryz.func85, Tryz.ntmps85
 go_wp2_with fail
 refine (U _).mono ?_
 rintro e w1 ⟨rfl, rfl⟩
 go_wp2_with fail
 refine (P0 _).mono ?_
 rintro e w1 ⟨rfl, rfl⟩
 go_wp2_with fail
 go_ret
 exact ⟨rfl, hb0⟩
theorem ck_1_3 (hu : usK k = 1) (hR : rtB R = true) : Calls Tryz.prog 85 #[.agg #[.int .i64 k, .int .i64 R, .int .i64 A, .int .i64 B, .int .i64 I, .int .i64 n]] w fun e w' => e = .returned (.int .i64 (ckN k n)) /\ Below w.heap.size w w' := by
 have U : ∀ w, Calls Tryz.prog 84 #[.int .i64 k] w fun e w' => e = .returned (.int .i64 (1)) /\ w' = w := fun w => by
  have h := usesH_any k w
  rw [hu] at h
  exact h
 have P0 : ∀ w, Calls Tryz.prog 169 #[.int .i64 R] w fun e w' => e = .returned (.bool true) /\ w' = w := fun w => by
  have h := isRoot_any R w
  rw [hR] at h
  exact h
 have hb0 := (Below.refl w.heap.size w).alloc (Nat.le_refl _) (.cells #[.int .i64 k, .int .i64 R, .int .i64 A, .int .i64 B, .int .i64 I, .int .i64 n] 65)
 clear hu
 go_enter Tryz.func85, Tryz.ntmps85
 go_wp2_with fail
 refine (U _).mono ?_
 rintro e w1 ⟨rfl, rfl⟩
 go_wp2_with fail
 refine (P0 _).mono ?_
 rintro e w1 ⟨rfl, rfl⟩
 go_wp2_with fail
 refine (checkN_any k R A B I n _).mono ?_
 rintro e w2 ⟨rfl, hb2⟩
 go_wp2_with fail
 go_ret
 exact ⟨rfl, hb0.trans (hb2.mono hb0.size)⟩
theorem ck_3_0 (hu : usK k = 3) (hR : rtB R = false) : Calls Tryz.prog 85 #[.agg #[.int .i64 k, .int .i64 R, .int .i64 A, .int .i64 B, .int .i64 I, .int .i64 n]] w fun e w' => e = .returned (.int .i64 (1)) /\ Below w.heap.size w w' := by
 have U : ∀ w, Calls Tryz.prog 84 #[.int .i64 k] w fun e w' => e = .returned (.int .i64 (3)) /\ w' = w := fun w => by
  have h := usesH_any k w
  rw [hu] at h
  exact h
 have P0 : ∀ w, Calls Tryz.prog 169 #[.int .i64 R] w fun e w' => e = .returned (.bool false) /\ w' = w := fun w => by
  have h := isRoot_any R w
  rw [hR] at h
  exact h
 have hb0 := (Below.refl w.heap.size w).alloc (Nat.le_refl _) (.cells #[.int .i64 k, .int .i64 R, .int .i64 A, .int .i64 B, .int .i64 I, .int .i64 n] 65)
 clear hu
 go_enter Tryz.func85, Tryz.ntmps85
 go_wp2_with fail
 refine (U _).mono ?_
 rintro e w1 ⟨rfl, rfl⟩
 go_wp2_with fail
 refine (P0 _).mono ?_
 rintro e w1 ⟨rfl, rfl⟩
 go_wp2_with fail
 go_ret
 exact ⟨rfl, hb0⟩
theorem ck_3_1 (hu : usK k = 3) (hR : rtB R = true) (hA : rtB A = false) : Calls Tryz.prog 85 #[.agg #[.int .i64 k, .int .i64 R, .int .i64 A, .int .i64 B, .int .i64 I, .int .i64 n]] w fun e w' => e = .returned (.int .i64 (1)) /\ Below w.heap.size w w' := by
 have U : ∀ w, Calls Tryz.prog 84 #[.int .i64 k] w fun e w' => e = .returned (.int .i64 (3)) /\ w' = w := fun w => by
  have h := usesH_any k w
  rw [hu] at h
  exact h
 have P0 : ∀ w, Calls Tryz.prog 169 #[.int .i64 R] w fun e w' => e = .returned (.bool true) /\ w' = w := fun w => by
  have h := isRoot_any R w
  rw [hR] at h
  exact h
 have P1 : ∀ w, Calls Tryz.prog 169 #[.int .i64 A] w fun e w' => e = .returned (.bool false) /\ w' = w := fun w => by
  have h := isRoot_any A w
  rw [hA] at h
  exact h
 have hb0 := (Below.refl w.heap.size w).alloc (Nat.le_refl _) (.cells #[.int .i64 k, .int .i64 R, .int .i64 A, .int .i64 B, .int .i64 I, .int .i64 n] 65)
 clear hu
 go_enter Tryz.func85, Tryz.ntmps85
 go_wp2_with fail
 refine (U _).mono ?_
 rintro e w1 ⟨rfl, rfl⟩
 go_wp2_with fail
 refine (P0 _).mono ?_
 rintro e w1 ⟨rfl, rfl⟩
 go_wp2_with fail
 refine (P1 _).mono ?_
 rintro e w1 ⟨rfl, rfl⟩
 go_wp2_with fail
 go_ret
 exact ⟨rfl, hb0⟩
theorem ck_3_3 (hu : usK k = 3) (hR : rtB R = true) (hA : rtB A = true) : Calls Tryz.prog 85 #[.agg #[.int .i64 k, .int .i64 R, .int .i64 A, .int .i64 B, .int .i64 I, .int .i64 n]] w fun e w' => e = .returned (.int .i64 (ckN k n)) /\ Below w.heap.size w w' := by
 have U : ∀ w, Calls Tryz.prog 84 #[.int .i64 k] w fun e w' => e = .returned (.int .i64 (3)) /\ w' = w := fun w => by
  have h := usesH_any k w
  rw [hu] at h
  exact h
 have P0 : ∀ w, Calls Tryz.prog 169 #[.int .i64 R] w fun e w' => e = .returned (.bool true) /\ w' = w := fun w => by
  have h := isRoot_any R w
  rw [hR] at h
  exact h
 have P1 : ∀ w, Calls Tryz.prog 169 #[.int .i64 A] w fun e w' => e = .returned (.bool true) /\ w' = w := fun w => by
  have h := isRoot_any A w
  rw [hA] at h
  exact h
 have hb0 := (Below.refl w.heap.size w).alloc (Nat.le_refl _) (.cells #[.int .i64 k, .int .i64 R, .int .i64 A, .int .i64 B, .int .i64 I, .int .i64 n] 65)
 clear hu
 go_enter Tryz.func85, Tryz.ntmps85
 go_wp2_with fail
 refine (U _).mono ?_
 rintro e w1 ⟨rfl, rfl⟩
 go_wp2_with fail
 refine (P0 _).mono ?_
 rintro e w1 ⟨rfl, rfl⟩
 go_wp2_with fail
 refine (P1 _).mono ?_
 rintro e w1 ⟨rfl, rfl⟩
 go_wp2_with fail
 refine (checkN_any k R A B I n _).mono ?_
 rintro e w2 ⟨rfl, hb2⟩
 go_wp2_with fail
 go_ret
 exact ⟨rfl, hb0.trans (hb2.mono hb0.size)⟩
theorem ck_7_0 (hu : usK k = 7) (hR : rtB R = false) : Calls Tryz.prog 85 #[.agg #[.int .i64 k, .int .i64 R, .int .i64 A, .int .i64 B, .int .i64 I, .int .i64 n]] w fun e w' => e = .returned (.int .i64 (1)) /\ Below w.heap.size w w' := by
 have U : ∀ w, Calls Tryz.prog 84 #[.int .i64 k] w fun e w' => e = .returned (.int .i64 (7)) /\ w' = w := fun w => by
  have h := usesH_any k w
  rw [hu] at h
  exact h
 have P0 : ∀ w, Calls Tryz.prog 169 #[.int .i64 R] w fun e w' => e = .returned (.bool false) /\ w' = w := fun w => by
  have h := isRoot_any R w
  rw [hR] at h
  exact h
 have hb0 := (Below.refl w.heap.size w).alloc (Nat.le_refl _) (.cells #[.int .i64 k, .int .i64 R, .int .i64 A, .int .i64 B, .int .i64 I, .int .i64 n] 65)
 clear hu
 go_enter Tryz.func85, Tryz.ntmps85
 go_wp2_with fail
 refine (U _).mono ?_
 rintro e w1 ⟨rfl, rfl⟩
 go_wp2_with fail
 refine (P0 _).mono ?_
 rintro e w1 ⟨rfl, rfl⟩
 go_wp2_with fail
 go_ret
 exact ⟨rfl, hb0⟩
theorem ck_7_1 (hu : usK k = 7) (hR : rtB R = true) (hA : rtB A = false) : Calls Tryz.prog 85 #[.agg #[.int .i64 k, .int .i64 R, .int .i64 A, .int .i64 B, .int .i64 I, .int .i64 n]] w fun e w' => e = .returned (.int .i64 (1)) /\ Below w.heap.size w w' := by
 have U : ∀ w, Calls Tryz.prog 84 #[.int .i64 k] w fun e w' => e = .returned (.int .i64 (7)) /\ w' = w := fun w => by
  have h := usesH_any k w
  rw [hu] at h
  exact h
 have P0 : ∀ w, Calls Tryz.prog 169 #[.int .i64 R] w fun e w' => e = .returned (.bool true) /\ w' = w := fun w => by
  have h := isRoot_any R w
  rw [hR] at h
  exact h
 have P1 : ∀ w, Calls Tryz.prog 169 #[.int .i64 A] w fun e w' => e = .returned (.bool false) /\ w' = w := fun w => by
  have h := isRoot_any A w
  rw [hA] at h
  exact h
 have hb0 := (Below.refl w.heap.size w).alloc (Nat.le_refl _) (.cells #[.int .i64 k, .int .i64 R, .int .i64 A, .int .i64 B, .int .i64 I, .int .i64 n] 65)
 clear hu
 go_enter Tryz.func85, Tryz.ntmps85
 go_wp2_with fail
 refine (U _).mono ?_
 rintro e w1 ⟨rfl, rfl⟩
 go_wp2_with fail
 refine (P0 _).mono ?_
 rintro e w1 ⟨rfl, rfl⟩
 go_wp2_with fail
 refine (P1 _).mono ?_
 rintro e w1 ⟨rfl, rfl⟩
 go_wp2_with fail
 go_ret
 exact ⟨rfl, hb0⟩
theorem ck_7_2 (hu : usK k = 7) (hR : rtB R = true) (hA : rtB A = true) (hB : rtB B = false) : Calls Tryz.prog 85 #[.agg #[.int .i64 k, .int .i64 R, .int .i64 A, .int .i64 B, .int .i64 I, .int .i64 n]] w fun e w' => e = .returned (.int .i64 (1)) /\ Below w.heap.size w w' := by
 have U : ∀ w, Calls Tryz.prog 84 #[.int .i64 k] w fun e w' => e = .returned (.int .i64 (7)) /\ w' = w := fun w => by
  have h := usesH_any k w
  rw [hu] at h
  exact h
 have P0 : ∀ w, Calls Tryz.prog 169 #[.int .i64 R] w fun e w' => e = .returned (.bool true) /\ w' = w := fun w => by
  have h := isRoot_any R w
  rw [hR] at h
  exact h
 have P1 : ∀ w, Calls Tryz.prog 169 #[.int .i64 A] w fun e w' => e = .returned (.bool true) /\ w' = w := fun w => by
  have h := isRoot_any A w
  rw [hA] at h
  exact h
 have P2 : ∀ w, Calls Tryz.prog 169 #[.int .i64 B] w fun e w' => e = .returned (.bool false) /\ w' = w := fun w => by
  have h := isRoot_any B w
  rw [hB] at h
  exact h
 have hb0 := (Below.refl w.heap.size w).alloc (Nat.le_refl _) (.cells #[.int .i64 k, .int .i64 R, .int .i64 A, .int .i64 B, .int .i64 I, .int .i64 n] 65)
 clear hu
 go_enter Tryz.func85, Tryz.ntmps85
 go_wp2_with fail
 refine (U _).mono ?_
 rintro e w1 ⟨rfl, rfl⟩
 go_wp2_with fail
 refine (P0 _).mono ?_
 rintro e w1 ⟨rfl, rfl⟩
 go_wp2_with fail
 refine (P1 _).mono ?_
 rintro e w1 ⟨rfl, rfl⟩
 go_wp2_with fail
 refine (P2 _).mono ?_
 rintro e w1 ⟨rfl, rfl⟩
 go_wp2_with fail
 go_ret
 exact ⟨rfl, hb0⟩
theorem ck_7_3 (hu : usK k = 7) (hR : rtB R = true) (hA : rtB A = true) (hB : rtB B = true) : Calls Tryz.prog 85 #[.agg #[.int .i64 k, .int .i64 R, .int .i64 A, .int .i64 B, .int .i64 I, .int .i64 n]] w fun e w' => e = .returned (.int .i64 (ckN k n)) /\ Below w.heap.size w w' := by
 have U : ∀ w, Calls Tryz.prog 84 #[.int .i64 k] w fun e w' => e = .returned (.int .i64 (7)) /\ w' = w := fun w => by
  have h := usesH_any k w
  rw [hu] at h
  exact h
 have P0 : ∀ w, Calls Tryz.prog 169 #[.int .i64 R] w fun e w' => e = .returned (.bool true) /\ w' = w := fun w => by
  have h := isRoot_any R w
  rw [hR] at h
  exact h
 have P1 : ∀ w, Calls Tryz.prog 169 #[.int .i64 A] w fun e w' => e = .returned (.bool true) /\ w' = w := fun w => by
  have h := isRoot_any A w
  rw [hA] at h
  exact h
 have P2 : ∀ w, Calls Tryz.prog 169 #[.int .i64 B] w fun e w' => e = .returned (.bool true) /\ w' = w := fun w => by
  have h := isRoot_any B w
  rw [hB] at h
  exact h
 have hb0 := (Below.refl w.heap.size w).alloc (Nat.le_refl _) (.cells #[.int .i64 k, .int .i64 R, .int .i64 A, .int .i64 B, .int .i64 I, .int .i64 n] 65)
 clear hu
 go_enter Tryz.func85, Tryz.ntmps85
 go_wp2_with fail
 refine (U _).mono ?_
 rintro e w1 ⟨rfl, rfl⟩
 go_wp2_with fail
 refine (P0 _).mono ?_
 rintro e w1 ⟨rfl, rfl⟩
 go_wp2_with fail
 refine (P1 _).mono ?_
 rintro e w1 ⟨rfl, rfl⟩
 go_wp2_with fail
 refine (P2 _).mono ?_
 rintro e w1 ⟨rfl, rfl⟩
 go_wp2_with fail
 refine (checkN_any k R A B I n _).mono ?_
 rintro e w2 ⟨rfl, hb2⟩
 go_wp2_with fail
 go_ret
 exact ⟨rfl, hb0.trans (hb2.mono hb0.size)⟩
theorem ck_6_1 (hu : usK k = 6) (hA : rtB A = false) : Calls Tryz.prog 85 #[.agg #[.int .i64 k, .int .i64 R, .int .i64 A, .int .i64 B, .int .i64 I, .int .i64 n]] w fun e w' => e = .returned (.int .i64 (1)) /\ Below w.heap.size w w' := by
 have U : ∀ w, Calls Tryz.prog 84 #[.int .i64 k] w fun e w' => e = .returned (.int .i64 (6)) /\ w' = w := fun w => by
  have h := usesH_any k w
  rw [hu] at h
  exact h
 have P1 : ∀ w, Calls Tryz.prog 169 #[.int .i64 A] w fun e w' => e = .returned (.bool false) /\ w' = w := fun w => by
  have h := isRoot_any A w
  rw [hA] at h
  exact h
 have hb0 := (Below.refl w.heap.size w).alloc (Nat.le_refl _) (.cells #[.int .i64 k, .int .i64 R, .int .i64 A, .int .i64 B, .int .i64 I, .int .i64 n] 65)
 clear hu
 go_enter Tryz.func85, Tryz.ntmps85
 go_wp2_with fail
 refine (U _).mono ?_
 rintro e w1 ⟨rfl, rfl⟩
 go_wp2_with fail
 refine (P1 _).mono ?_
 rintro e w1 ⟨rfl, rfl⟩
 go_wp2_with fail
 go_ret
 exact ⟨rfl, hb0⟩
theorem ck_6_2 (hu : usK k = 6) (hA : rtB A = true) (hB : rtB B = false) : Calls Tryz.prog 85 #[.agg #[.int .i64 k, .int .i64 R, .int .i64 A, .int .i64 B, .int .i64 I, .int .i64 n]] w fun e w' => e = .returned (.int .i64 (1)) /\ Below w.heap.size w w' := by
 have U : ∀ w, Calls Tryz.prog 84 #[.int .i64 k] w fun e w' => e = .returned (.int .i64 (6)) /\ w' = w := fun w => by
  have h := usesH_any k w
  rw [hu] at h
  exact h
 have P1 : ∀ w, Calls Tryz.prog 169 #[.int .i64 A] w fun e w' => e = .returned (.bool true) /\ w' = w := fun w => by
  have h := isRoot_any A w
  rw [hA] at h
  exact h
 have P2 : ∀ w, Calls Tryz.prog 169 #[.int .i64 B] w fun e w' => e = .returned (.bool false) /\ w' = w := fun w => by
  have h := isRoot_any B w
  rw [hB] at h
  exact h
 have hb0 := (Below.refl w.heap.size w).alloc (Nat.le_refl _) (.cells #[.int .i64 k, .int .i64 R, .int .i64 A, .int .i64 B, .int .i64 I, .int .i64 n] 65)
 clear hu
 go_enter Tryz.func85, Tryz.ntmps85
 go_wp2_with fail
 refine (U _).mono ?_
 rintro e w1 ⟨rfl, rfl⟩
 go_wp2_with fail
 refine (P1 _).mono ?_
 rintro e w1 ⟨rfl, rfl⟩
 go_wp2_with fail
 refine (P2 _).mono ?_
 rintro e w1 ⟨rfl, rfl⟩
 go_wp2_with fail
 go_ret
 exact ⟨rfl, hb0⟩
theorem ck_6_3 (hu : usK k = 6) (hA : rtB A = true) (hB : rtB B = true) : Calls Tryz.prog 85 #[.agg #[.int .i64 k, .int .i64 R, .int .i64 A, .int .i64 B, .int .i64 I, .int .i64 n]] w fun e w' => e = .returned (.int .i64 (ckN k n)) /\ Below w.heap.size w w' := by
 have U : ∀ w, Calls Tryz.prog 84 #[.int .i64 k] w fun e w' => e = .returned (.int .i64 (6)) /\ w' = w := fun w => by
  have h := usesH_any k w
  rw [hu] at h
  exact h
 have P1 : ∀ w, Calls Tryz.prog 169 #[.int .i64 A] w fun e w' => e = .returned (.bool true) /\ w' = w := fun w => by
  have h := isRoot_any A w
  rw [hA] at h
  exact h
 have P2 : ∀ w, Calls Tryz.prog 169 #[.int .i64 B] w fun e w' => e = .returned (.bool true) /\ w' = w := fun w => by
  have h := isRoot_any B w
  rw [hB] at h
  exact h
 have hb0 := (Below.refl w.heap.size w).alloc (Nat.le_refl _) (.cells #[.int .i64 k, .int .i64 R, .int .i64 A, .int .i64 B, .int .i64 I, .int .i64 n] 65)
 clear hu
 go_enter Tryz.func85, Tryz.ntmps85
 go_wp2_with fail
 refine (U _).mono ?_
 rintro e w1 ⟨rfl, rfl⟩
 go_wp2_with fail
 refine (P1 _).mono ?_
 rintro e w1 ⟨rfl, rfl⟩
 go_wp2_with fail
 refine (P2 _).mono ?_
 rintro e w1 ⟨rfl, rfl⟩
 go_wp2_with fail
 refine (checkN_any k R A B I n _).mono ?_
 rintro e w2 ⟨rfl, hb2⟩
 go_wp2_with fail
 go_ret
 exact ⟨rfl, hb0.trans (hb2.mono hb0.size)⟩
theorem ck_0_3 (hu : usK k = 0) : Calls Tryz.prog 85 #[.agg #[.int .i64 k, .int .i64 R, .int .i64 A, .int .i64 B, .int .i64 I, .int .i64 n]] w fun e w' => e = .returned (.int .i64 (ckN k n)) /\ Below w.heap.size w w' := by
 have U : ∀ w, Calls Tryz.prog 84 #[.int .i64 k] w fun e w' => e = .returned (.int .i64 (0)) /\ w' = w := fun w => by
  have h := usesH_any k w
  rw [hu] at h
  exact h
 have hb0 := (Below.refl w.heap.size w).alloc (Nat.le_refl _) (.cells #[.int .i64 k, .int .i64 R, .int .i64 A, .int .i64 B, .int .i64 I, .int .i64 n] 65)
 clear hu
 go_enter Tryz.func85, Tryz.ntmps85
 go_wp2_with fail
 refine (U _).mono ?_
 rintro e w1 ⟨rfl, rfl⟩
 go_wp2_with fail
 refine (checkN_any k R A B I n _).mono ?_
 rintro e w2 ⟨rfl, hb2⟩
 go_wp2_with fail
 go_ret
 exact ⟨rfl, hb0.trans (hb2.mono hb0.size)⟩
theorem ck_none (hu : usK k = -1) : Calls Tryz.prog 85 #[.agg #[.int .i64 k, .int .i64 R, .int .i64 A, .int .i64 B, .int .i64 I, .int .i64 n]] w fun e w' => e = .returned (.int .i64 (2)) /\ Below w.heap.size w w' := by
 have U : ∀ w, Calls Tryz.prog 84 #[.int .i64 k] w fun e w' => e = .returned (.int .i64 (-1)) /\ w' = w := fun w => by
  have h := usesH_any k w
  rw [hu] at h
  exact h
 have hb0 := (Below.refl w.heap.size w).alloc (Nat.le_refl _) (.cells #[.int .i64 k, .int .i64 R, .int .i64 A, .int .i64 B, .int .i64 I, .int .i64 n] 65)
 clear hu
 go_enter Tryz.func85, Tryz.ntmps85
 go_wp2_with fail
 refine (U _).mono ?_
 rintro e w1 ⟨rfl, rfl⟩
 go_wp2_with fail
 go_ret
 exact ⟨rfl, hb0⟩
end
theorem checkH_any (k R A B I n : Int) (w : World) : Calls Tryz.prog 85 #[.agg #[.int .i64 k, .int .i64 R, .int .i64 A, .int .i64 B, .int .i64 I, .int .i64 n]] w fun e w' => e = .returned (.int .i64 (ckC k R A B n)) /\ Below w.heap.size w w' := by
 unfold ckC
 rcases usK_all k with hu | hu | hu | hu | hu | hu
 ·rw [hu, if_neg (by decide)]
  cases hR : rtB R
  ·rw [if_pos (by simp)]
   exact ck_1_0 hu  hR
  ·rw [if_neg (by simp)]
   exact ck_1_3 hu hR
 ·rw [hu, if_neg (by decide)]
  cases hR : rtB R
  ·rw [if_pos (by simp)]
   exact ck_3_0 hu  hR
  ·cases hA : rtB A
   ·rw [if_pos (by simp)]
    exact ck_3_1 hu hR hA
   ·rw [if_neg (by simp)]
    exact ck_3_3 hu hR hA
 ·rw [hu, if_neg (by decide)]
  cases hR : rtB R
  ·rw [if_pos (by simp)]
   exact ck_7_0 hu  hR
  ·cases hA : rtB A
   ·rw [if_pos (by simp)]
    exact ck_7_1 hu hR hA
   ·cases hB : rtB B
    ·rw [if_pos (by simp)]
     exact ck_7_2 hu hR hA hB
    ·rw [if_neg (by simp)]
     exact ck_7_3 hu hR hA hB
 ·rw [hu, if_neg (by decide)]
  cases hA : rtB A
  ·rw [if_pos (by simp)]
   exact ck_6_1 hu  hA
  ·cases hB : rtB B
   ·rw [if_pos (by simp)]
    exact ck_6_2 hu hA hB
   ·rw [if_neg (by simp)]
    exact ck_6_3 hu hA hB
 ·rw [hu, if_neg (by decide)]
  rw [if_neg (by simp)]
  exact ck_0_3 hu 
 ·rw [if_pos hu]
  exact ck_none hu
end Go.Proofs.YtalgochmjddodaaGreat

namespace Go.Proofs.YtalgochmjddodaaGreat
set_option maxRecDepth 100000
set_option maxHeartbeats 2000000
open Go.RowKit W Kp Stl
def heO (a : Wc) (hp : Nat) : Ob Ww where
  J F S w := ∃ FW, (wsO a).J FW S w /\ w.heap[hp]? = some (.cells #[.pointer (some ⟨a.pw, 0, none⟩)] 67 (0, 0)) /\ ¬ FW hp /\ ∀ b, F b ↔ (FW b \/ b = hp)
  lt := by
    rintro F S w ⟨FW, h1, h2, h3, hF⟩ b hb
    rcases (hF b).1 hb with d | d
    · exact (wsO a).lt h1 b d
    · rw [d]; exact lt_of_some h2
  keep := by
    rintro F S w w' ⟨FW, h1, h2, h3, hF⟩ hs hk
    exact ⟨FW, (wsO a).keep h1 hs (fun b d => hk b ((hF b).2 (Or.inl d))), (hk _ ((hF _).2 (Or.inr rfl))).trans h2, h3, hF⟩
abbrev hsV (k R A B I n : Int) : Value := .agg #[.int .i64 k, .int .i64 R, .int .i64 A, .int .i64 B, .int .i64 I, .int .i64 n]
abbrev hsC (k R A B I n : Int) : Obj := .cells #[.int .i64 k, .int .i64 R, .int .i64 A, .int .i64 B, .int .i64 I, .int .i64 n] 65 (0, 0)
theorem hs_cells {w : World} {xb : Nat} {k R A B I n : Int} (h : w.heap[xb]? = some (hsC k R A B I n)) : w.cell? ⟨xb, 0, none⟩ = some (.int .i64 k) /\ w.cell? ⟨xb, 1, none⟩ = some (.int .i64 R) /\ w.cell? ⟨xb, 2, none⟩ = some (.int .i64 A) /\ w.cell? ⟨xb, 3, none⟩ = some (.int .i64 B) /\ w.cell? ⟨xb, 4, none⟩ = some (.int .i64 I) /\ w.cell? ⟨xb, 5, none⟩ = some (.int .i64 n) := by
 refine ⟨?_, ?_, ?_, ?_, ?_, ?_⟩ <;> simp [World.cell?, h]
section
variable {a : Wc} {hp : Nat} {F : Nat -> Prop} {S : Ww} {w : World}
theorem he_ws (h : (heO a hp).J F S w) : ∃ FW, (wsO a).J FW S w /\ (∀ b, FW b -> F b) /\ ∀ F1 s1 w', (wsO a).J F1 s1 w' -> Tn FW w F1 w' -> ∃ F', (heO a hp).J F' s1 w' /\ Tn F w F' w' := by
 obtain ⟨FW, h1, h2, h3, hF⟩ := h
 refine ⟨FW, h1, fun b d => (hF b).2 (Or.inl d), fun F1 s1 w' hJ hT => ?_⟩
 have lp := lt_of_some h2
 refine ⟨fun b => F1 b \/ b = hp, ⟨F1, hJ, (hT.fr.block _ lp h3).trans h2, fun d => ?_, fun b => Iff.rfl⟩, ⟨hT.fr.mono (fun b d => (hF b).2 (Or.inl d)), fun b d => ?_⟩⟩
 ·rcases hT.sub _ d with d | d
  ·exact h3 d
  ·omega
 ·rcases d with d | d
  ·exact (hT.sub b d).imp (fun d => (hF b).2 (Or.inl d)) id
  ·exact Or.inl ((hF b).2 (Or.inr d))
structure Hlk (a : Wc) (hp : Nat) (s : Wst) (w : World) : Prop where
  h0 : w.cell? ⟨hp, 0, none⟩ = some (.pointer (some ⟨a.pw, 0, none⟩))
  c0 : w.cell? ⟨a.pw, 0, none⟩ = some (.pointer (some ⟨a.p, 0, none⟩))
  c3 : w.cell? ⟨a.pw, 3, none⟩ = some (.slice (some ⟨a.nb, 0, none⟩) 12 12)
  rt : ∀ i, i < 12 -> w.cell? ⟨a.nb, i, none⟩ = some (.int .i64 (s.rs.getD i 0)) /\ w.frozen? ⟨a.nb, i, none⟩ = false
  rl : s.rs.length = 12
  lp : hp < w.heap.size
  lw : a.pw < w.heap.size
  ln : a.nb < w.heap.size
theorem he_lk (h : (heO a hp).J F S w) : Hlk a hp S.s w := by
 have h2 : w.heap[hp]? = some (.cells #[.pointer (some ⟨a.pw, 0, none⟩)] 67 (0, 0)) := by
  obtain ⟨FW, _, h2, _⟩ := h
  exact h2
 obtain ⟨FW, h1, _⟩ := he_ws h
 obtain ⟨F0, g1, _⟩ := ws_wod h1
 obtain ⟨c0, _, _, c3, lw, rl, ln, rt⟩ := wod_cells g1
 exact ⟨by simp [World.cell?, h2], c0, c3, rt, rl, lt_of_some h2, lw, ln⟩
theorem he_at (h : (heO a hp).J F S w) : At w a.p a.q a.N a.O S.s.y S.s.g S.s.ws /\ ∀ w' y g ws, At w' a.p a.q a.N a.O y g ws -> Sv a.p a.q w w' -> ∃ F', (heO a hp).J F' ⟨{ S.s with y := y, g := g, ws := ws }, S.r, S.q⟩ w' /\ Tn F w F' w' := by
 obtain ⟨FW, h1, _, h3⟩ := he_ws h
 obtain ⟨F0, g1, g2⟩ := ws_wod h1
 obtain ⟨k1, k2⟩ := wod_arena g1
 refine ⟨k1, fun w' y g ws ha sv => ?_⟩
 obtain ⟨m1, m2⟩ := k2 w' y g ws ha sv
 obtain ⟨F2, n1, n2⟩ := g2 _ _ _ m1 m2
 exact h3 _ _ _ n1 n2
theorem he_root (h : (heO a hp).J F S w) (i : Nat) (x : Int) : ∃ F', (heO a hp).J F' ⟨{ S.s with rs := S.s.rs.set i x }, S.r, S.q⟩ (w.setCell ⟨a.nb, i, none⟩ (.int .i64 x)) /\ Tn F w F' (w.setCell ⟨a.nb, i, none⟩ (.int .i64 x)) := by
 obtain ⟨FW, h1, _, h3⟩ := he_ws h
 obtain ⟨F0, g1, g2⟩ := ws_wod h1
 obtain ⟨m1, m2⟩ := wod_root g1 i x
 obtain ⟨F2, n1, n2⟩ := g2 _ _ _ m1 m2
 exact h3 _ _ _ n1 n2
end
theorem he_ne {a : Wc} {hp : Nat} {F : Nat -> Prop} {S : Ww} {w : World} (h : (heO a hp).J F S w) : a.nb ≠ hp /\ a.nb ≠ a.pw := by
 obtain ⟨FW, h1, h2, h5, _⟩ := h
 obtain ⟨F0', ar, cr', ⟨F00, ad, cap, ⟨own, pq, hM, hO⟩, d2, d3, d4, _⟩, r0, r1, hFW⟩ := h1
 have fnb : FW a.nb := (hFW _).2 (Or.inl (d4 _ ((hO _).2 (by rw [hM.r1]; decide))))
 exact ⟨fun e => h5 (by rw [<- e]; exact fnb), fun e => by
  have h1 := hM.r1
  rw [e, hM.w1] at h1
  omega⟩
theorem newH_yes (n o : Nat) (w : World) (h0 : 16 <= n) (h1 : n <= 256) (h3 : o <= 1024) :
  Calls Tryz.prog 28 #[.int .i64 n, .int .i64 o] w fun e w' => ∃ a hp F, e = .returned (.tuple #[.pointer (some ⟨hp, 0, none⟩), .agg #[.int .i64 0, .int .i64 0]]) /\ (heO a hp).J F (bo0 n o).1 w' /\ (a.N = n /\ a.O = o) /\ (∀ b, F b -> w.heap.size <= b) /\ Below w.heap.size w w' := by
 have hba0 := (Below.refl w.heap.size w).alloc (Nat.le_refl _) (.cells #[.int .i64 0, .int .i64 0] 28)
 have P := newW_yes n o (w.alloc (.cells #[.int .i64 0, .int .i64 0] 28)) h0 h1 h3
 have hf0 := heap_alloc_new w (.cells #[.int .i64 0, .int .i64 0] 28)
 have lf0 : w.heap.size < (w.alloc (.cells #[.int .i64 0, .int .i64 0] 28)).heap.size := by simp
 have HB0 : Hid (Below w.heap.size w (w.alloc (.cells #[.int .i64 0, .int .i64 0] 28))) := hba0
 clear hba0
 go_enter Tryz.func28, Tryz.ntmps28
 go_wp2_with fail
 generalize w.alloc (.cells #[.int .i64 0, .int .i64 0] 28) = w0 at *
 generalize hfb : w.heap.size = fb at *
 refine P.mono ?_
 clear P
 rintro e w1 ⟨pw, p, q, pc, pq, s, nb, rfl, hW, hs, hr, hg, hb1⟩
 obtain ⟨F1, j1, g1⟩ := wf_ws (wf_new hW hs hr hb1 (by omega)) (by decide) hr hs
 have hfw := (hb1.block fb lf0).trans hf0
 have y0 : w1.cell? ⟨fb, 0, none⟩ = some (.int .i64 0) := by simp [World.cell?, hfw]
 have y1 : w1.cell? ⟨fb, 1, none⟩ = some (.int .i64 0) := by simp [World.cell?, hfw]
 have z0 : w1.frozen? ⟨fb, 0, none⟩ = false := by simp [World.frozen?, hfw]
 have z1 : w1.frozen? ⟨fb, 1, none⟩ = false := by simp [World.frozen?, hfw]
 have lw1 : fb < w1.heap.size := lt_of_some hfw
 have HJ : Hid ((wsO ⟨pw, p, q, pc, s, nb, n, o⟩).J F1 (bo0 n o).1 w1 /\ (∀ b, F1 b -> fb < b) /\ Below fb w w1) := ⟨j1, fun b d => by
  obtain ⟨g1', g2, g3, g4, g5, g6, g7⟩ := hg
  rcases g1 b d with e | e | e | e | e | e | e <;> (rw [e]; omega), HB0.out.trans (hb1.mono (by omega))⟩
 clear hW hs hr hg hb1 j1 g1 hf0 HB0 hfw
 go_wp2_with fail
 obtain ⟨W1, hW1⟩ : ∃ W1, W1 = (w1.setCell ⟨fb, 0, none⟩ (.int .i64 0)).setCell ⟨fb, 1, none⟩ (.int .i64 0) := ⟨_, rfl⟩
 rw [<- hW1]
 have v0 : W1.cell? ⟨fb, 0, none⟩ = some (.int .i64 0) := by
  rw [hW1, World.cell?_setCell_other _ _ _ _ (by simp)]
  exact World.cell?_setCell_same _ _ _ y0
 have v1 : W1.cell? ⟨fb, 1, none⟩ = some (.int .i64 0) := by
  rw [hW1]
  exact World.cell?_setCell_same _ _ _ ((World.cell?_setCell_other w1 ⟨fb, 0, none⟩ ⟨fb, 1, none⟩ _ (by simp)).trans y1)
 have hF : Fr (fun k => k = fb) w1 W1 := by rw [hW1]; exact ((Fr.refl (fun k => k = fb) w1).set fb 0 _ rfl).set fb 1 _ rfl
 have hsz : W1.heap.size = w1.heap.size := by rw [hW1]; simp
 clear hW1
 have j2 := (wsO ⟨pw, p, q, pc, s, nb, n, o⟩).keep HJ.out.1 hF.size (fun b d => hF.block b ((wsO ⟨pw, p, q, pc, s, nb, n, o⟩).lt HJ.out.1 b d) (fun e => by have h1 := HJ.out.2.1 b d; have e : b = fb := e; omega))
 have hba := ((Below.refl W1.heap.size W1).alloc (Nat.le_refl _) (.cells #[.int .i64 0, .int .i64 0] 28)).alloc (by simp) (.cells #[.pointer (some ⟨pw, 0, none⟩)] 67)
 have g0 := (hba.cell (p := ⟨fb, 0, none⟩) (by show fb < _; omega)).trans v0
 have g1 := (hba.cell (p := ⟨fb, 1, none⟩) (by show fb < _; omega)).trans v1
 have hh := heap_alloc_new (W1.alloc (.cells #[.int .i64 0, .int .i64 0] 28)) (.cells #[.pointer (some ⟨pw, 0, none⟩)] 67)
 have ehp : (W1.alloc (.cells #[.int .i64 0, .int .i64 0] 28)).heap.size = w1.heap.size + 1 := by simp [hsz]
 rw [ehp] at hh
 have j3 := (wsO ⟨pw, p, q, pc, s, nb, n, o⟩).below j2 hba
 have hlt := (wsO ⟨pw, p, q, pc, s, nb, n, o⟩).lt j2
 have hbW : Below fb w W1 := HJ.out.2.2.trans (hF.below (Nat.le_of_lt lw1) (fun k e => Nat.le_of_eq (Eq.symm e)))
 refine bodyPost_ret (v := .tuple #[.pointer (some ⟨w1.heap.size + 1, 0, none⟩), .agg #[.int .i64 0, .int .i64 0]]) (by simp only [results, Tryz.results28]; simp [go_sem, g0, g1]) rfl ⟨⟨pw, p, q, pc, s, nb, n, o⟩, w1.heap.size + 1, fun b => F1 b \/ b = w1.heap.size + 1, rfl, ⟨F1, j3, hh, fun d => ?_, fun b => Iff.rfl⟩, ⟨rfl, rfl⟩, fun b d => ?_, by rw [hfb]; exact hbW.trans (hba.mono (by omega))⟩
 ·have := hlt _ d
  omega
 ·rcases d with d | d
  ·have := HJ.out.2.1 b d
   omega
  ·omega
section
variable {a : Wc} {hp : Nat} {F : Nat -> Prop} {S : Ww} {w : World}
theorem ck_int (R : Nat) (hR : R < 12) (n : Int) (hn : vc 1 n = 0) : ckC 1 R 0 0 n = 0 := by
 have h1 : rtB (R : Int) = true := by unfold rtB; rw [decide_eq_true (by omega), decide_eq_true (by omega)]; rfl
 have e : usK 1 = 1 := rfl
 unfold ckC
 rw [e, if_neg (by decide), h1, if_neg (by simp)]
 unfold ckN
 rw [if_pos rfl, hn]
theorem rootH_int (R A B I n : Int) (w : World) (hp : Nat) : Calls Tryz.prog 87 #[.pointer (some ⟨hp, 0, none⟩), hsV 1 R A B I n] w fun e w' => e = .returned (.tuple #[.int .i64 (ew 1 n), .int .i64 (vc 1 n)]) /\ Below w.heap.size w w' := by
 have hb0 := (Below.refl w.heap.size w).alloc (Nat.le_refl _) (hsC 1 R A B I n)
 go_enter Tryz.func87, Tryz.ntmps87
 go_wp2_with fail
 refine (numberH_any n _).mono ?_
 rintro e w1 ⟨rfl, hb⟩
 go_wp2_with fail
 go_ret2
 exact ⟨rfl, hb0.trans (hb.mono hb0.size)⟩
theorem doH_int (h : (heO a hp).J F S w) (R : Nat) (hR : R < 12) (n : Int) (hn : vc 1 n = 0) :
  Calls Tryz.prog 30 #[.pointer (some ⟨hp, 0, none⟩), hsV 1 R 0 0 0 n] w fun e w' => ∃ F', e = .returned (.int .i64 0) /\ (heO a hp).J F' ⟨{ S.s with rs := S.s.rs.set R (ew 1 n) }, S.r, S.q⟩ w' /\ Tn F w F' w' := by
 have hb0 := (Below.refl w.heap.size w).alloc (Nat.le_refl _) (hsC 1 R 0 0 0 n)
 have hx0 := heap_alloc_new w (.cells #[.int .i64 1, .int .i64 (R : Int), .int .i64 0, .int .i64 0, .int .i64 0, .int .i64 n] 65)
 have PC := checkH_any 1 R 0 0 0 n (w.alloc (hsC 1 R 0 0 0 n))
 rw [ck_int R hR n hn] at PC
 have PR := fun w => rootH_int R 0 0 0 n w hp
 have LN : Hid (a.nb < w.heap.size) := (he_lk h).ln
 rw [hn] at PR
 have HJ : Hid ((heO a hp).J F S (w.alloc (hsC 1 R 0 0 0 n)) /\ Below w.heap.size w (w.alloc (hsC 1 R 0 0 0 n)) /\ (w.alloc (hsC 1 R 0 0 0 n)).heap[w.heap.size]? = some (hsC 1 R 0 0 0 n) /\ ∀ b, F b -> b < w.heap.size) := ⟨(heO a hp).below h hb0, hb0, hx0, (heO a hp).lt h⟩
 clear h hb0 hx0
 go_enter Tryz.func30, Tryz.ntmps30
 go_wp2_with fail
 generalize w.alloc (hsC 1 R 0 0 0 n) = w0 at *
 generalize hxb : w.heap.size = xb at *
 refine PC.mono ?_
 clear PC
 rintro e w1 ⟨rfl, hb1⟩
 have HJ1 : Hid ((heO a hp).J F S w1 /\ Below xb w w1 /\ w1.heap[xb]? = some (hsC 1 R 0 0 0 n) /\ ∀ b, F b -> b < xb) := ⟨(heO a hp).below HJ.out.1 hb1, HJ.out.2.1.trans (hb1.mono (by have := lt_of_some HJ.out.2.2.1; omega)), (hb1.block xb (lt_of_some HJ.out.2.2.1)).trans HJ.out.2.2.1, HJ.out.2.2.2⟩
 obtain ⟨q0, q1, q2, q3, q4, q5⟩ := hs_cells HJ1.out.2.2.1
 clear HJ hb1
 go_wp2_with fail
 refine (PR w1).mono ?_
 clear PR
 rintro e w2 ⟨rfl, hb2⟩
 have hx2 := (hb2.block xb (lt_of_some HJ1.out.2.2.1)).trans HJ1.out.2.2.1
 obtain ⟨u0, u1, _⟩ := hs_cells hx2
 have J2 := (heO a hp).below HJ1.out.1 hb2
 obtain ⟨h0, c0, c3, rt, rl, lp, lw, ln⟩ := he_lk J2
 obtain ⟨r1, r2⟩ := rt R hR
 have i0 : (0 : Int) <= (R : Int) := by omega
 have i1 : (R : Int) < 12 := by omega
 have lx := lt_of_some hx2
 have nx : a.nb ≠ xb := by have := LN.out; omega
 obtain ⟨n1, n2⟩ := he_ne J2
 have HJ2 : Hid ((heO a hp).J F S w2.drew /\ Tn F w F w2.drew) := ⟨(heO a hp).below J2 (Below.refl _ w2).drew, ((Tn.of (by rw [hxb]; exact HJ1.out.2.1)).below hb2).below (Below.refl _ w2).drew⟩
 clear rt J2 hb2 HJ1 q0 q1 q2 q3 q4 q5
 go_wp2_with fail
 go_region_held3 (fun w' => w'.cell? ⟨hp, 0, none⟩ = some (.pointer (some ⟨a.pw, 0, none⟩)) /\ w'.cell? ⟨a.pw, 3, none⟩ = some (.slice (some ⟨a.nb, 0, none⟩) 12 12) /\ w'.cell? ⟨xb, 1, none⟩ = some (.int .i64 (R : Int))) (go_keep) (fail)
 obtain ⟨F3, j3, t3⟩ := he_root HJ2.out.1 R (ew 1 n)
 have HF : Hid ((heO a hp).J F3 ⟨{ S.s with rs := S.s.rs.set R (ew 1 n) }, S.r, S.q⟩ (w2.drew.setCell ⟨a.nb, R, none⟩ (.int .i64 (ew 1 n))) /\ Tn F w F3 (w2.drew.setCell ⟨a.nb, R, none⟩ (.int .i64 (ew 1 n)))) := ⟨j3, HJ2.out.2.trans t3⟩
 clear j3 t3 HJ2 h0 c0 c3 r1 r2 u0 u1
 go_wp2_with fail
 go_ret
 exact ⟨rfl, F3, HF.out.1, HF.out.2⟩
end
end Go.Proofs.YtalgochmjddodaaGreat

namespace Go.Proofs.YtalgochmjddodaaGreat
set_option maxRecDepth 100000
set_option maxHeartbeats 4000000
open Go.RowKit W Kp Stl
section
variable {a : Wc} {hp : Nat} {F : Nat -> Prop} {S : Ww} {w : World}
theorem makeRoomH_no (h : (heO a hp).J F S w) (m : Int) (hm : m <= (a.N : Int) - S.s.y) :
  Calls Tryz.prog 221 #[.pointer (some ⟨hp, 0, none⟩), .int .i64 m] w fun e w' => e = .returned (.int .i64 0) /\ Below w.heap.size w w' := by
 obtain ⟨h0, c0, _⟩ := he_lk h
 have P := freeOf_any w (he_at h).1
 clear h
 go_enter Tryz.func221, Tryz.ntmps221
 go_wp2_with fail
 refine P.mono ?_
 clear P
 rintro e w1 ⟨rfl, hb1⟩
 go_wp2_with fail
 go_ret
 exact ⟨rfl, hb1⟩
def putF (rs : List Int) (y : Nat) (ws : List Int) (rl : List Nat) : Nat -> List Int
 | 0 => ws
 | j + 1 => (putF rs y ws rl j).set (y + 1 + j) (rs.getD (rl.getD j 0) 0)
theorem growH_any (h : (heO a hp).J F S w) (kd : Int) (rl : List Nat) (vb cap : Nat) (hl0 : 0 < rl.length) (hl1 : rl.length <= 12) (hv : ∀ i, i < rl.length -> w.cell? ⟨vb, i, none⟩ = some (.int .i64 ((rl.getD i 0 : Nat) : Int))) (hvb : ¬ F vb) (lvb : vb < w.heap.size) (hr : ∀ i, i < rl.length -> rl.getD i 0 < 12) (hk : hc kd rl.length = 0) (room : S.s.y + 1 + rl.length <= a.N) :
  Calls Tryz.prog 173 #[.pointer (some ⟨hp, 0, none⟩), .int .i64 kd, .slice (some ⟨vb, 0, none⟩) rl.length cap] w fun e w' => ∃ F', e = .returned (.tuple #[.int .i64 (ew 3 S.s.y), .int .i64 0]) /\ (heO a hp).J F' ⟨{ S.s with y := S.s.y + 1 + rl.length, ws := putF S.s.rs S.s.y (mkW a.N S.s.y kd rl.length S.s.ws) rl rl.length }, S.r, S.q⟩ w' /\ Tn F w F' w' := by
 have hA := (he_at h).1
 have hmB : mkB a.N S.s.y kd rl.length = true := by
  unfold mkB
  rw [hk]
  simp
  omega
 have eY : mkY a.N S.s.y kd rl.length = S.s.y + 1 + rl.length := by unfold mkY; rw [if_pos hmB]; omega
 have eR : mkR a.N S.s.y kd rl.length = S.s.y := by unfold mkR; rw [if_pos hmB]
 have PM := makeRoomH_no h (1 + rl.length) (by omega)
 obtain ⟨h0, c0, _⟩ := he_lk h
 have n1 := hA.hN'
 have n2 := hA.hy
 have n3 := hA.hg
 have n4 := hA.hO
 have HJ : Hid ((heO a hp).J F S w) := h
 have HV : Hid (∀ i, i < rl.length -> w.cell? ⟨vb, i, none⟩ = some (.int .i64 ((rl.getD i 0 : Nat) : Int))) := hv
 have HR : Hid (∀ i, i < rl.length -> rl.getD i 0 < 12) := hr
 have HE : Hid (mkY a.N S.s.y kd rl.length = S.s.y + 1 + rl.length /\ mkR a.N S.s.y kd rl.length = S.s.y) := ⟨eY, eR⟩
 clear h hv hr hA hmB eY eR hk
 go_enter Tryz.func173, Tryz.ntmps173
 go_wp2_with fail
 refine PM.mono ?_
 clear PM
 rintro e w1 ⟨rfl, hb1⟩
 have J1 := (heO a hp).below HJ.out hb1
 obtain ⟨h0, c0, _⟩ := he_lk J1
 obtain ⟨hA1, hA2⟩ := he_at J1
 have PK := make_any kd rl.length w1 hA1
 rw [HE.out.1, HE.out.2] at PK
 have HA : Hid (∀ w' y g ws, At w' a.p a.q a.N a.O y g ws -> Sv a.p a.q w1 w' -> ∃ F', (heO a hp).J F' ⟨{ S.s with y := y, g := g, ws := ws }, S.r, S.q⟩ w' /\ Tn F w1 F' w') := hA2
 have HB1 : Hid (Below w.heap.size w w1) := hb1
 clear J1 hA1 hA2 hb1
 go_wp2_with fail
 refine PK.mono ?_
 clear PK
 rintro e w2 ⟨rfl, hA3, s3⟩
 obtain ⟨F2, j2, t2⟩ := HA.out _ _ _ _ hA3 s3
 have t2 := (Tn.of (F := F) HB1.out).trans t2
 have hvk : ∀ (F' : Nat -> Prop) (w' : World), Tn F w F' w' -> ∀ i, i < rl.length -> w'.cell? ⟨vb, i, none⟩ = some (.int .i64 ((rl.getD i 0 : Nat) : Int)) := fun F' w' t i hi => (World.cell?_of_block (a := ⟨vb, i, none⟩) (t.fr.block vb lvb hvb)).trans (HV.out i hi)
 have HVK : Hid (∀ (F' : Nat -> Prop) (w' : World), Tn F w F' w' -> ∀ i, i < rl.length -> w'.cell? ⟨vb, i, none⟩ = some (.int .i64 ((rl.getD i 0 : Nat) : Int))) := hvk
 have HJ2 : Hid ((heO a hp).J F2 ⟨{ S.s with y := S.s.y + 1 + rl.length, ws := putF S.s.rs S.s.y (mkW a.N S.s.y kd rl.length S.s.ws) rl 0 }, S.r, S.q⟩ w2 /\ Tn F w F2 w2) := ⟨j2, t2⟩
 clear hA3 s3 j2 t2 HA HV hvk HB1 HJ h0 c0
 go_wp2_with fail
 go_loopw [33] (fun iv wr => ∃ (j : Nat) (F' : Nat -> Prop), j <= rl.length /\ iv = .int .i64 j /\ Hid ((heO a hp).J F' ⟨{ S.s with y := S.s.y + 1 + rl.length, ws := putF S.s.rs S.s.y (mkW a.N S.s.y kd rl.length S.s.ws) rl j }, S.r, S.q⟩ wr /\ Tn F w F' wr)) (fun iv _ => rl.length - (intOf iv).toNat)
 case atStart => exact ⟨0, F2, Nat.zero_le _, rfl, HJ2⟩
 case round =>
  clear HJ2
  obtain ⟨j, F', hj, rfl, HJ3⟩ := hrel
  by_cases hlt : j < rl.length
  ·have tc := HVK.out F' wr HJ3.out.2 j hlt
   have hr12 := HR.out j hlt
   have HS : Hid (putF S.s.rs S.s.y (mkW a.N S.s.y kd rl.length S.s.ws) rl (j + 1) = (putF S.s.rs S.s.y (mkW a.N S.s.y kd rl.length S.s.ws) rl j).set (S.s.y + 1 + j) (S.s.rs.getD (rl.getD j 0) 0)) := rfl
   generalize rl.getD j 0 = r at *
   have HX : Hid (∀ (F5 : Nat -> Prop) (w5 : World), (∀ i, i < 12 -> w5.cell? ⟨a.nb, i, none⟩ = some (.int .i64 (S.s.rs.getD i 0)) /\ w5.frozen? ⟨a.nb, i, none⟩ = false) -> w5.cell? ⟨a.nb, r, none⟩ = some (.int .i64 (S.s.rs.getD r 0))) := fun _ _ g => (g r hr12).1
   have J4 := (heO a hp).below HJ3.out.1 (Below.refl _ wr).drew
   obtain ⟨h0, c0, c3, rt, rl2, lp, lw, ln⟩ := he_lk HJ3.out.1
   obtain ⟨r1, _⟩ := rt r hr12
   obtain ⟨hA1, hA2⟩ := he_at J4
   dsimp only at r1 hA1 hA2
   have hiB : iB a.N (S.s.y + 1 + rl.length) S.s.g ((S.s.y : Int) + 1 + j) = true := iB_y (by omega) (by omega)
   have PS := store_any ((S.s.y : Int) + 1 + j) (S.s.rs.getD r 0) wr.drew hA1
   rw [hiB, if_pos rfl, show ((S.s.y : Int) + 1 + j).toNat = S.s.y + 1 + j by omega, <- HS.out] at PS
   have HA : Hid (∀ w' y g ws, At w' a.p a.q a.N a.O y g ws -> Sv a.p a.q wr.drew w' -> ∃ F5, (heO a hp).J F5 ⟨{ S.s with y := y, g := g, ws := ws }, S.r, S.q⟩ w' /\ Tn F' wr.drew F5 w') := hA2
   have j0 : (0 : Int) <= (j : Int) := by omega
   have j1 : (j : Int) < (rl.length : Int) := by omega
   have q0 : (0 : Int) <= (r : Int) := by omega
   have q1 : (r : Int) < 12 := by omega
   have b6 : IntKind.i64.wrap ((S.s.y : Int) + 1) = (S.s.y : Int) + 1 := by rw [IntKind.wrap_i64]; omega
   have b7 : IntKind.i64.wrap ((S.s.y : Int) + 1 + (j : Int)) = (S.s.y : Int) + 1 + j := by rw [IntKind.wrap_i64]; omega
   have HT3 : Hid (Tn F w F' wr.drew) := HJ3.out.2.below (Below.refl _ wr).drew
   clear J4 hA1 hA2 rt hiB HS rl2 HJ3
   generalize S.s.rs.getD r 0 = x at *
   go_wp2_with fail
   go_region_held3 (fun w' => w'.cell? ⟨hp, 0, none⟩ = some (.pointer (some ⟨a.pw, 0, none⟩)) /\ w'.cell? ⟨a.pw, 0, none⟩ = some (.pointer (some ⟨a.p, 0, none⟩)) /\ w'.cell? ⟨a.pw, 3, none⟩ = some (.slice (some ⟨a.nb, 0, none⟩) 12 12) /\ w'.cell? ⟨a.nb, r, none⟩ = some (.int .i64 x)) (go_keep)
    (first
     | (go_at_call 114; refine PS.mono ?_; clear PS; rintro e w5 ⟨rfl, hA5, s5⟩; obtain ⟨F5, j5, t5⟩ := HA.out _ _ _ _ hA5 s5; have HJ5 : Hid ((heO a hp).J F5 ⟨{ S.s with y := S.s.y + 1 + rl.length, ws := putF S.s.rs S.s.y (mkW a.N S.s.y kd rl.length S.s.ws) rl (j + 1) }, S.r, S.q⟩ w5 /\ Tn F w F5 w5) := ⟨j5, HT3.out.trans t5⟩; obtain ⟨g0, g1, g3, grt, _⟩ := he_lk j5; dsimp only at grt; have gx := HX.out F5 w5 grt; clear hA5 s5 j5 t5 grt))
   clear h0 c0 c3 r1 g0 g1 g3 gx tc b6 b7
   go_wp2_with fail
   go_roundw
   case rel => exact ⟨j + 1, F5, by omega, by go_num, HJ5⟩
   case measure => simp [intOf]; omega
  ·obtain rfl : j = rl.length := by omega
   go_wp2_with fail
   refine (ref_any (S.s.y : Int) wr).mono ?_
   rintro e w6 ⟨rfl, hb6⟩
   have HF : Hid ((heO a hp).J F' ⟨{ S.s with y := S.s.y + 1 + rl.length, ws := putF S.s.rs S.s.y (mkW a.N S.s.y kd rl.length S.s.ws) rl rl.length }, S.r, S.q⟩ w6 /\ Tn F w F' w6) := ⟨(heO a hp).below HJ3.out.1 hb6, HJ3.out.2.below hb6⟩
   clear hb6 HJ3
   go_wp2_with fail
   go_ret2
   exact ⟨F', rfl, HF.out.1, HF.out.2⟩
end
end Go.Proofs.YtalgochmjddodaaGreat
