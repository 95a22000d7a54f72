/- The statements on arenas begin by a few steps in a small arena: they answer as the statements ask, in whatever memory; nothing that was in memory turns. -/
import Derived.Test.YtheiboniifijnaaSame
namespace Go.Proofs.Ytheiboniifijnaa
open Go.RowKit W

def B1 : List Int := fil (List.replicate 24 0) 0 33 2
def B2 : List Int := fil B1 3 194 12
def B3 : List Int := splice B2 16 ((B2.drop 0).take 3)
theorem lB0 : ld 16 16 0 B2 0 = 33 := by decide +kernel
theorem lB16 : ld 16 16 3 B3 16 = 33 := by decide +kernel
theorem lB1 : ld 16 16 3 B3 1 = 2 := by decide +kernel
theorem p33 : pk 33 = 1 ∧ pf 33 = 2 ∧ pc 33 = 0 := by decide +kernel
theorem e16 : en 16 16 0 0 = 16 := by decide +kernel
theorem tB1 : thY 16 16 3 B3 = [0, 3] := by decide +kernel
theorem tB2 : thO 16 16 3 B3 = [16] := by decide +kernel

theorem cells_row {w : World} {a b : Int} {t : TypeId} : Lies (w.alloc (.cells #[.int .i64 a, .int .i64 b] t)) (some ⟨w.heap.size, 0, none⟩) [a, b] := by
  intro _
  refine ⟨_, rfl, fun i hi => ?_⟩
  match i, hi with
  | 0, _ => simp [go_sem]
  | 1, _ => simp [go_sem]
theorem cells_row1 {w : World} {a : Int} {t : TypeId} : Lies (w.alloc (.cells #[.int .i64 a] t)) (some ⟨w.heap.size, 0, none⟩) [a] := by
  intro _
  refine ⟨_, rfl, fun i hi => ?_⟩
  match i, hi with
  | 0, _ => simp [go_sem]
theorem Lies.alloc {w : World} {ad : Option Addr} {l : List Int} (h : Lies w ad l) (o : Obj) : Lies (w.alloc o) ad l := h.below ((Below.refl _ _).alloc (Nat.le_refl _) _)

set_option maxRecDepth 100000 in
set_option maxHeartbeats 2000000 in
theorem begun_any (w : World) : Calls Try.prog 25 #[] w fun e w' => e = .returned (.bool true) ∧ Below w.heap.size w w' := by
  go_enter Try.func25, Try.ntmps25
  go_wp2_with fail
  refine (new_yes 16 8 _ (by omega) (by omega) (by omega) (by omega)).mono ?_
  rintro e w1 ⟨p, q, rfl, h1, hp, hq, hb1⟩
  go_wp2_with fail
  refine (make_yes 1 2 _ (h1.alloc _) (by decide +kernel) (by decide)).mono ?_
  rintro e w2 ⟨rfl, h2, s2⟩
  have h2 : At w2 p q 16 8 3 0 B1 := h2
  go_wp2_with fail
  refine (make_yes 2 12 _ h2 (by decide +kernel) (by decide)).mono ?_
  rintro e w3 ⟨rfl, h3, s3⟩
  have h3 : At w3 p q 16 8 16 0 B2 := h3
  go_wp2_with fail
  refine (make_no 5 0 _ h3 (Or.inr (by decide))).mono ?_
  rintro e w4 ⟨rfl, hb4⟩
  have h4 := h3.below hb4 (Nat.le_refl _)
  go_wp2_with fail
  refine (copy_yes 0 _ h4 (by rw [lB0]; exact p33.2.2) (by rw [lB0, p33.2.1, e16]; decide) (by rw [lB0, p33.2.1]; decide)).mono ?_
  rintro e w5 ⟨rfl, h5, s5⟩
  rw [lB0, p33.2.1] at h5
  have h5 : At w5 p q 16 8 16 3 B3 := h5
  have hb5 : Below w.heap.size w w5 := ((((hb1.alloc hb1.size _).trans (s2.below (by have := hb1.size; simp; omega) hp hq)).trans (s3.below (by have := hb1.size; have := s2.size; simp at this; omega) hp hq)).trans (hb4.mono (by have := hb1.size; have := s2.size; have := s3.size; simp at *; omega))).trans (s5.below (by have := hb1.size; have := s2.size; have := s3.size; have := hb4.size; simp at *; omega) hp hq)
  clear s2 s3 s5 hb4 h1 h2 h3 h4 hb1
  go_wp2_with fail
  refine (thing_any 16 _ h5).mono ?_
  rintro e w6 ⟨rfl, hb6⟩
  rw [lB16, p33.1, p33.2.1, p33.2.2]
  have h6 := h5.below hb6 (Nat.le_refl _)
  have hb6 : Below w.heap.size w w6 := hb5.trans (hb6.mono hb5.size)
  clear h5 hb5
  go_wp2_with fail
  refine (things_any _ h6).mono ?_
  rintro e w7 ⟨v1, v2, rfl, o1, o2, hb7⟩
  rw [tB1] at o1
  rw [tB2] at o2
  obtain ⟨a1, c1, rfl, l1⟩ := lies_owned o1
  obtain ⟨a2, c2, rfl, l2⟩ := lies_owned o2
  have h7 := h6.below hb7 (Nat.le_refl _)
  have hb7 : Below w.heap.size w w7 := hb6.trans (hb7.mono hb6.size)
  clear h6 hb6 o1 o2
  go_wp2_with fail
  refine (sameInts_any _ _ _ _ [0, 3] _ (by decide) (l1.alloc _) cells_row).mono ?_
  rintro e w8 ⟨rfl, hb8⟩
  have h8 := (h7.alloc _).below hb8 (Nat.le_refl _)
  have l2 := (l2.alloc _).below hb8
  have hb8 : Below w.heap.size w w8 := (hb7.alloc hb7.size _).trans (hb8.mono (by have := hb7.size; simp; omega))
  clear h7 hb7 l1
  go_wp2_with fail
  refine (sameInts_any _ _ _ _ [16] _ (by decide) (l2.alloc _) cells_row1).mono ?_
  rintro e w9 ⟨rfl, hb9⟩
  have h9 := (h8.alloc _).below hb9 (Nat.le_refl _)
  have hb9 : Below w.heap.size w w9 := (hb8.alloc hb8.size _).trans (hb9.mono (by have := hb8.size; simp; omega))
  clear h8 hb8 l2
  go_wp2_with fail
  refine (load_any 1 _ h9).mono ?_
  rintro e w10 ⟨rfl, hb10⟩
  rw [lB1]
  go_wp2_with fail
  go_ret
  exact ⟨rfl, hb9.trans (hb10.mono hb9.size)⟩

end Go.Proofs.Ytheiboniifijnaa
