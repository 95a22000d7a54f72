/- What the functions of package arena that only look return, at whatever place: contracts, over the seat's own translation; nothing that was in memory turns. -/
import Derived.Test.YtglddgjljohkiabAr
namespace Go.Proofs.Ytglddgjljohkiab
open Go.RowKit W

/-- Is a place one of the first u from b on? -/
def hB (b u a : Int) : Bool := decide (b ≤ a ∧ a < b + u)
theorem hB_yes {b u a : Int} (h : hB b u a = true) : b ≤ a ∧ a < b + u := by simpa [hB] using h
theorem hB_no {b u a : Int} (h : hB b u a = false) : a < b ∨ b + u ≤ a := by
  have : ¬ (b ≤ a ∧ a < b + u) := by simpa [hB] using h
  omega
/-- Is a place in use? -/
def iB (N y g : Nat) (a : Int) : Bool := hB 0 y a || hB N g a
/-- The word at a place in use, or 0. -/
def ld (N y g : Nat) (ws : List Int) (a : Int) : Int := if iB N y g a = true then ws.getD a.toNat 0 else 0
theorem iB_bd {N O y g : Nat} {a : Int} (h : iB N y g a = true) (hy : y ≤ N) (hg : g ≤ O) : 0 ≤ a ∧ a < (N : Int) + O := by
  unfold iB at h
  rcases Bool.or_eq_true _ _ ▸ h with h | h
  · have := hB_yes h; omega
  · have := hB_yes h; omega

set_option maxRecDepth 100000 in
set_option maxHeartbeats 400000 in
theorem end_any (b s u : Int) (w : World) (hb : 0 ≤ b) (hb' : b ≤ 100000) (hu : 0 ≤ u) (hu' : u ≤ 100000) :
    Calls Try.prog 65 #[.agg #[.int .i64 b, .int .i64 s, .int .i64 u]] w fun e w' => e = .returned (.int .i64 (b + u)) ∧ Below w.heap.size w w' := by
  go_enter Try.func65, Try.ntmps65
  go_wp2
  go_ret
  exact ⟨rfl, (Below.refl _ _).alloc (Nat.le_refl _) _⟩

set_option maxRecDepth 100000 in
set_option maxHeartbeats 400000 in
theorem free_any (b s u : Int) (w : World) (hb : 0 ≤ s) (hb' : s ≤ 100000) (hu : 0 ≤ u) (hu' : u ≤ 100000) :
    Calls Try.prog 91 #[.agg #[.int .i64 b, .int .i64 s, .int .i64 u]] w fun e w' => e = .returned (.int .i64 (s - u)) ∧ Below w.heap.size w w' := by
  go_enter Try.func91, Try.ntmps91
  go_wp2
  go_ret
  exact ⟨rfl, (Below.refl _ _).alloc (Nat.le_refl _) _⟩

set_option maxRecDepth 100000 in
set_option maxHeartbeats 400000 in
theorem holds_any (b s u a : Int) (w : World) (hb : 0 ≤ b) (hb' : b ≤ 100000) (hu : 0 ≤ u) (hu' : u ≤ 100000) :
    Calls Try.prog 97 #[.agg #[.int .i64 b, .int .i64 s, .int .i64 u], .int .i64 a] w fun e w' => e = .returned (.bool (hB b u a)) ∧ Below w.heap.size w w' := by
  by_cases h : b ≤ a
  · have e : hB b u a = decide (a < b + u) := by simp [hB, h]
    rw [e]
    clear e
    go_enter Try.func97, Try.ntmps97
    go_wp2_with fail
    refine (end_any b s u _ hb hb' hu hu').mono ?_
    rintro e w1 ⟨rfl, hb1⟩
    go_wp2_with fail
    go_ret
    exact ⟨rfl, ((Below.refl _ _).alloc (Nat.le_refl _) _).trans (hb1.mono (by simp))⟩
  · have e : hB b u a = false := by simp [hB, h]
    rw [e]
    clear e
    go_enter Try.func97, Try.ntmps97
    go_wp2_with fail
    go_ret
    exact ⟨rfl, (Below.refl _ _).alloc (Nat.le_refl _) _⟩

set_option maxRecDepth 100000 in
set_option maxHeartbeats 400000 in
theorem young_any {p q N O y g : Nat} {ws : List Int} (a : Int) (w : World) (h : At w p q N O y g ws) :
    Calls Try.prog 72 #[.pointer (some ⟨p, 0, none⟩), .int .i64 a] w fun e w' => e = .returned (.bool (hB 0 y a)) ∧ Below w.heap.size w w' := by
  obtain ⟨c0, c1, c2, c3, c4, c5, c6⟩ := h.cells
  have k1 := h.hN'
  have k2 := h.hy
  go_enter Try.func72, Try.ntmps72
  go_wp2_with fail
  refine (holds_any 0 N y a _ (by omega) (by omega) (by omega) (by omega)).mono ?_
  rintro e w1 ⟨rfl, hb1⟩
  go_wp2_with fail
  go_ret
  exact ⟨rfl, hb1⟩

set_option maxRecDepth 100000 in
set_option maxHeartbeats 400000 in
theorem old_any {p q N O y g : Nat} {ws : List Int} (a : Int) (w : World) (h : At w p q N O y g ws) :
    Calls Try.prog 73 #[.pointer (some ⟨p, 0, none⟩), .int .i64 a] w fun e w' => e = .returned (.bool (hB N g a)) ∧ Below w.heap.size w w' := by
  obtain ⟨c0, c1, c2, c3, c4, c5, c6⟩ := h.cells
  have k1 := h.hN'
  have k2 := h.hO
  have k3 := h.hg
  go_enter Try.func73, Try.ntmps73
  go_wp2_with fail
  refine (holds_any N O g a _ (by omega) (by omega) (by omega) (by omega)).mono ?_
  rintro e w1 ⟨rfl, hb1⟩
  go_wp2_with fail
  go_ret
  exact ⟨rfl, hb1⟩

set_option maxRecDepth 100000 in
set_option maxHeartbeats 400000 in
theorem inUse_any {p q N O y g : Nat} {ws : List Int} (a : Int) (w : World) (h : At w p q N O y g ws) :
    Calls Try.prog 96 #[.pointer (some ⟨p, 0, none⟩), .int .i64 a] w fun e w' => e = .returned (.bool (iB N y g a)) ∧ Below w.heap.size w w' := by
  cases hy : hB 0 y a
  · have e : iB N y g a = hB N g a := by simp [iB, hy]
    rw [e]
    clear e
    have HY : Hid (hB 0 y a = false) := hy
    clear hy
    go_enter Try.func96, Try.ntmps96
    go_wp2_with fail
    refine (young_any a _ h).mono ?_
    rintro e w1 ⟨rfl, hb1⟩
    rw [HY.out]
    go_wp2_with fail
    refine (old_any a _ (h.below hb1 (Nat.le_refl _))).mono ?_
    rintro e w2 ⟨rfl, hb2⟩
    go_wp2_with fail
    go_ret
    exact ⟨rfl, hb1.trans (hb2.mono hb1.size)⟩
  · have e : iB N y g a = true := by simp [iB, hy]
    rw [e]
    clear e
    have HY : Hid (hB 0 y a = true) := hy
    clear hy
    go_enter Try.func96, Try.ntmps96
    go_wp2_with fail
    refine (young_any a _ h).mono ?_
    rintro e w1 ⟨rfl, hb1⟩
    rw [HY.out]
    go_wp2_with fail
    go_ret
    exact ⟨rfl, hb1⟩

set_option maxRecDepth 100000 in
set_option maxHeartbeats 400000 in
theorem load_any {p q N O y g : Nat} {ws : List Int} (a : Int) (w : World) (h : At w p q N O y g ws) :
    Calls Try.prog 70 #[.pointer (some ⟨p, 0, none⟩), .int .i64 a] w fun e w' => e = .returned (.int .i64 (ld N y g ws a)) ∧ Below w.heap.size w w' := by
  cases hi : iB N y g a
  · have e : ld N y g ws a = 0 := by simp [ld, hi]
    rw [e]
    clear e
    have HI : Hid (iB N y g a = false) := hi
    clear hi
    go_enter Try.func70, Try.ntmps70
    go_wp2_with fail
    refine (inUse_any a _ h).mono ?_
    rintro e w1 ⟨rfl, hb1⟩
    rw [HI.out]
    go_wp2_with fail
    go_ret
    exact ⟨rfl, hb1⟩
  · have e : ld N y g ws a = ws.getD a.toNat 0 := by simp [ld, hi]
    rw [e]
    clear e
    obtain ⟨d1, d2⟩ := iB_bd hi h.hy h.hg
    have HI : Hid (iB N y g a = true) := hi
    clear hi
    go_enter Try.func70, Try.ntmps70
    go_wp2_with fail
    refine (inUse_any a _ h).mono ?_
    rintro e w1 ⟨rfl, hb1⟩
    rw [HI.out]
    have h1 := h.below hb1 (Nat.le_refl _)
    obtain ⟨c0, c1, c2, c3, c4, c5, c6⟩ := h1.cells
    have cw := h1.word a.toNat (by omega)
    have d3 : a < ((N + O : Nat) : Int) := by omega
    go_wp2_with fail
    go_ret
    exact ⟨rfl, hb1⟩

set_option maxRecDepth 100000 in
set_option maxHeartbeats 400000 in
theorem store_any {p q N O y g : Nat} {ws : List Int} (a x : Int) (w : World) (h : At w p q N O y g ws) :
    Calls Try.prog 71 #[.pointer (some ⟨p, 0, none⟩), .int .i64 a, .int .i64 x] w fun e w' => e = .returned (.bool (iB N y g a)) ∧ At w' p q N O y g (if iB N y g a = true then ws.set a.toNat x else ws) ∧ Sv p q w w' := by
  cases hi : iB N y g a
  · rw [if_neg (by simp)]
    have HI : Hid (iB N y g a = false) := hi
    clear hi
    go_enter Try.func71, Try.ntmps71
    go_wp2_with fail
    refine (inUse_any a _ h).mono ?_
    rintro e w1 ⟨rfl, hb1⟩
    rw [HI.out]
    go_wp2_with fail
    go_ret
    exact ⟨rfl, h.below hb1 (Nat.le_refl _), Sv.of hb1⟩
  · rw [if_pos rfl]
    obtain ⟨d1, d2⟩ := iB_bd hi h.hy h.hg
    have HI : Hid (iB N y g a = true) := hi
    clear hi
    go_enter Try.func71, Try.ntmps71
    go_wp2_with fail
    refine (inUse_any a _ h).mono ?_
    rintro e w1 ⟨rfl, hb1⟩
    rw [HI.out]
    have h1 := h.below hb1 (Nat.le_refl _)
    obtain ⟨c0, c1, c2, c3, c4, c5, c6⟩ := h1.cells
    have cw := h1.word a.toNat (by omega)
    have cf := h1.frozenq a.toNat
    have d3 : a < ((N + O : Nat) : Int) := by omega
    go_wp2_with fail
    go_ret
    exact ⟨rfl, h1.set a.toNat x, (Sv.of hb1).trans (Sv.setq _ _)⟩

set_option maxRecDepth 100000 in
set_option maxHeartbeats 400000 in
theorem thing_any {p q N O y g : Nat} {ws : List Int} (a : Int) (w : World) (h : At w p q N O y g ws) :
    Calls Try.prog 63 #[.pointer (some ⟨p, 0, none⟩), .int .i64 a] w fun e w' => e = .returned (.tuple #[.int .i64 (pk (ld N y g ws a)), .int .i64 (pf (ld N y g ws a)), .int .i64 (pc (ld N y g ws a))]) ∧ Below w.heap.size w w' := by
  go_enter Try.func63, Try.ntmps63
  go_wp2_with fail
  refine (load_any a _ h).mono ?_
  rintro e w1 ⟨rfl, hb1⟩
  go_wp2_with fail
  refine (parts_any _ _).mono ?_
  rintro e w2 ⟨rfl, rfl⟩
  go_wp2_with fail
  go_ret3
  exact ⟨rfl, hb1⟩

set_option maxRecDepth 100000 in
set_option maxHeartbeats 400000 in
theorem used_any {p q N O y g : Nat} {ws : List Int} (w : World) (h : At w p q N O y g ws) :
    Calls Try.prog 106 #[.pointer (some ⟨p, 0, none⟩)] w fun e w' => e = .returned (.tuple #[.int .i64 y, .int .i64 g]) ∧ Below w.heap.size w w' := by
  obtain ⟨c0, c1, c2, c3, c4, c5, c6⟩ := h.cells
  go_enter Try.func106, Try.ntmps106
  go_wp2_with fail
  go_quiet (fail)
  go_wp2_with fail
  go_ret2
  exact ⟨rfl, below_drewN (Below.refl _ _) _⟩

set_option maxRecDepth 100000 in
set_option maxHeartbeats 400000 in
theorem bounds_any {p q N O y g : Nat} {ws : List Int} (w : World) (h : At w p q N O y g ws) :
    Calls Try.prog 54 #[.pointer (some ⟨p, 0, none⟩)] w fun e w' => e = .returned (.tuple #[.int .i64 0, .int .i64 N]) ∧ Below w.heap.size w w' := by
  obtain ⟨c0, c1, c2, c3, c4, c5, c6⟩ := h.cells
  go_enter Try.func54, Try.ntmps54
  go_wp2_with fail
  go_quiet (fail)
  go_wp2_with fail
  go_ret2
  exact ⟨rfl, below_drewN (Below.refl _ _) _⟩

end Go.Proofs.Ytglddgjljohkiab
