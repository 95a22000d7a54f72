/- Joined: Wo2, Wo3, Wl, Cd, Cd1. -/
import Derived.Test.YtnalfnlmaallmaaGreatJ04
import Derived.Test.YtnalfnlmaallmaaGreatJ01
import Derived.Maps.OwnSet
namespace Go.Proofs.YtnalfnlmaallmaaGreat
set_option maxRecDepth 100000
set_option maxHeartbeats 400000
open Go.RowKit W
theorem ths_le {N y g : Nat} {ws : List Int} {hi : Int} : ∀ (k : Nat) (a : Int), (ths N y g ws hi k a).length <= k
 | 0, _ => by simp [ths]
 | k + 1, a => by
  have ih := ths_le (N := N) (y := y) (g := g) (ws := ws) (hi := hi) k (a + (1 + pf (ld N y g ws a)))
  unfold ths
  split
  ·split
   ·rw [List.length_cons]
    omega
   ·simp
  ·simp
section
variable {pw p q N O y g : Nat} {ws : List Int}
theorem thingAt_any' (x : Int) (w : World) (hc : w.cell? ⟨pw, 0, none⟩ = some (.pointer (some ⟨p, 0, none⟩))) (h : At w p q N O y g ws) :
  Calls Tryz.prog 119 #[.pointer (some ⟨pw, 0, none⟩), .int .i64 x] w fun e w' => e = .returned (.tuple #[.int .i64 (tV N y g ws x), .bool (tB N y g ws x)]) /\ Below w.heap.size w w' :=
 thingAt_any x w hc h (Nat.le_trans (ths_le _ _) (by decide)) (Nat.le_trans (ths_le _ _) (by decide))
theorem kind_any (x : Int) (w : World) (hc : w.cell? ⟨pw, 0, none⟩ = some (.pointer (some ⟨p, 0, none⟩))) (h : At w p q N O y g ws) :
  Calls Tryz.prog 57 #[.pointer (some ⟨pw, 0, none⟩), .int .i64 x] w fun e w' => e = .returned (.tuple #[.int .i64 (if tB N y g ws x = true then pk (ld N y g ws (aV x)) else 0), .int .i64 (if tB N y g ws x = true then pf (ld N y g ws (aV x)) else 0), .int .i64 (if tB N y g ws x = true then pc (ld N y g ws (aV x)) else 2)]) /\ Below w.heap.size w w' := by
 have HA : Hid (At w p q N O y g ws) := h
 have lpw := World.block_lt_of_cell? w _ hc
 have P := thingAt_any' x w hc h
 clear h
 cases ht : tB N y g ws x
 ·rw [ht] at P
  simp only [Bool.false_eq_true, if_false]
  generalize tV N y g ws x = v at P
  go_enter Tryz.func57, Tryz.ntmps57
  go_wp2_with fail
  refine P.mono ?_
  clear P
  rintro e w1 ⟨rfl, hb1⟩
  go_wp2_with fail
  go_ret3
  exact ⟨rfl, hb1⟩
 ·rw [ht] at P
  have ev : tV N y g ws x = aV x := by simp [tV, ht]
  rw [ev] at P
  simp only [if_true]
  generalize aV x = v at P
  go_enter Tryz.func57, Tryz.ntmps57
  go_wp2_with fail
  refine P.mono ?_
  clear P
  rintro e w1 ⟨rfl, hb1⟩
  have y1 := (hb1.cell (p := ⟨pw, 0, none⟩) lpw).trans hc
  go_wp2_with fail
  refine (thing_any v w1 (HA.out.below hb1 (Nat.le_refl _))).mono ?_
  rintro e w2 ⟨rfl, hb2⟩
  have hb12 := hb1.trans (hb2.mono hb1.size)
  clear y1 hb1 hb2
  go_wp2_with fail
  go_ret3
  exact ⟨rfl, hb12⟩
def stN (N y g : Nat) (a f : Int) : Int := min f ((if hB N g a = true then (N : Int) + g else (y : Int)) - a - 1)
theorem standing_any (a f : Int) (w : World) (hc : w.cell? ⟨pw, 0, none⟩ = some (.pointer (some ⟨p, 0, none⟩))) (h : At w p q N O y g ws) (a0 : 0 <= a) (a1 : a <= 100000) :
  Calls Tryz.prog 181 #[.pointer (some ⟨pw, 0, none⟩), .int .i64 a, .int .i64 f] w fun e w' => e = .returned (.int .i64 (stN N y g a f)) /\ Below w.heap.size w w' := by
 have HA : Hid (At w p q N O y g ws) := h
 have lpw := World.block_lt_of_cell? w _ hc
 have k1 := h.hN'
 have k2 := h.hy
 have k3 := h.hO
 have k4 := h.hg
 clear h
 unfold stN
 cases ho : hB N g a
 ·simp only [Bool.false_eq_true, if_false]
  by_cases hm : f <= (y : Int) - a - 1
  ·rw [Int.min_eq_left hm]
   have hm2 : ¬ ((y : Int) - a - 1 < f) := by omega
   go_enter Tryz.func181, Tryz.ntmps181
   go_wp2_with fail
   refine (used_any w HA.out).mono ?_
   rintro e w1 ⟨rfl, hb1⟩
   have y1 := (hb1.cell (p := ⟨pw, 0, none⟩) lpw).trans hc
   go_wp2_with fail
   refine (bounds_any w1 (HA.out.below hb1 (Nat.le_refl _))).mono ?_
   rintro e w2 ⟨rfl, hb2⟩
   have hb12 := hb1.trans (hb2.mono hb1.size)
   have y2 := (hb12.cell (p := ⟨pw, 0, none⟩) lpw).trans hc
   clear y1
   have P := old_any a w2 (HA.out.below hb12 (Nat.le_refl _))
   rw [ho] at P
   go_wp2_with fail
   refine P.mono ?_
   clear P
   rintro e w3 ⟨rfl, hb3⟩
   have hb13 := hb12.trans (hb3.mono hb12.size)
   clear y2 hb1 hb2 hb12 hb3
   go_wp2_with fail
   go_ret
   exact ⟨rfl, hb13⟩
  ·rw [Int.min_eq_right (by omega)]
   have hm2 : (y : Int) - a - 1 < f := by omega
   go_enter Tryz.func181, Tryz.ntmps181
   go_wp2_with fail
   refine (used_any w HA.out).mono ?_
   rintro e w1 ⟨rfl, hb1⟩
   have y1 := (hb1.cell (p := ⟨pw, 0, none⟩) lpw).trans hc
   go_wp2_with fail
   refine (bounds_any w1 (HA.out.below hb1 (Nat.le_refl _))).mono ?_
   rintro e w2 ⟨rfl, hb2⟩
   have hb12 := hb1.trans (hb2.mono hb1.size)
   have y2 := (hb12.cell (p := ⟨pw, 0, none⟩) lpw).trans hc
   clear y1
   have P := old_any a w2 (HA.out.below hb12 (Nat.le_refl _))
   rw [ho] at P
   go_wp2_with fail
   refine P.mono ?_
   clear P
   rintro e w3 ⟨rfl, hb3⟩
   have hb13 := hb12.trans (hb3.mono hb12.size)
   clear y2 hb1 hb2 hb12 hb3
   go_wp2_with fail
   go_ret
   exact ⟨rfl, hb13⟩
 ·simp only [if_true]
  by_cases hm : f <= (N : Int) + g - a - 1
  ·rw [Int.min_eq_left hm]
   have hm2 : ¬ ((N : Int) + g - a - 1 < f) := by omega
   go_enter Tryz.func181, Tryz.ntmps181
   go_wp2_with fail
   refine (used_any w HA.out).mono ?_
   rintro e w1 ⟨rfl, hb1⟩
   have y1 := (hb1.cell (p := ⟨pw, 0, none⟩) lpw).trans hc
   go_wp2_with fail
   refine (bounds_any w1 (HA.out.below hb1 (Nat.le_refl _))).mono ?_
   rintro e w2 ⟨rfl, hb2⟩
   have hb12 := hb1.trans (hb2.mono hb1.size)
   have y2 := (hb12.cell (p := ⟨pw, 0, none⟩) lpw).trans hc
   clear y1
   have P := old_any a w2 (HA.out.below hb12 (Nat.le_refl _))
   rw [ho] at P
   go_wp2_with fail
   refine P.mono ?_
   clear P
   rintro e w3 ⟨rfl, hb3⟩
   have hb13 := hb12.trans (hb3.mono hb12.size)
   clear y2 hb1 hb2 hb12 hb3
   go_wp2_with fail
   go_ret
   exact ⟨rfl, hb13⟩
  ·rw [Int.min_eq_right (by omega)]
   have hm2 : (N : Int) + g - a - 1 < f := by omega
   go_enter Tryz.func181, Tryz.ntmps181
   go_wp2_with fail
   refine (used_any w HA.out).mono ?_
   rintro e w1 ⟨rfl, hb1⟩
   have y1 := (hb1.cell (p := ⟨pw, 0, none⟩) lpw).trans hc
   go_wp2_with fail
   refine (bounds_any w1 (HA.out.below hb1 (Nat.le_refl _))).mono ?_
   rintro e w2 ⟨rfl, hb2⟩
   have hb12 := hb1.trans (hb2.mono hb1.size)
   have y2 := (hb12.cell (p := ⟨pw, 0, none⟩) lpw).trans hc
   clear y1
   have P := old_any a w2 (HA.out.below hb12 (Nat.le_refl _))
   rw [ho] at P
   go_wp2_with fail
   refine P.mono ?_
   clear P
   rintro e w3 ⟨rfl, hb3⟩
   have hb13 := hb12.trans (hb3.mono hb12.size)
   clear y2 hb1 hb2 hb12 hb3
   go_wp2_with fail
   go_ret
   exact ⟨rfl, hb13⟩
end
end Go.Proofs.YtnalfnlmaallmaaGreat

namespace Go.Proofs.YtnalfnlmaallmaaGreat
set_option maxRecDepth 100000
set_option maxHeartbeats 1000000
open Go.RowKit W
theorem pf_bd (h : Int) : 0 <= pf h /\ pf h <= 12 := by
 unfold pf
 split
 ·have := hc_bd _ _ (by assumption)
  omega
 ·omega
theorem ths_bd {N y g : Nat} {ws : List Int} {hi : Int} : ∀ (k : Nat) (a x : Int), x ∈ ths N y g ws hi k a -> a <= x /\ x < hi
 | 0, _, _, h => by simp [ths] at h
 | k + 1, a, x, h => by
  unfold ths at h
  split at h
  ·split at h
   ·rcases List.mem_cons.1 h with h | h
    ·rw [h]; exact ⟨Int.le_refl _, by assumption⟩
    ·have h1 := ths_bd k _ x h
     have h2 := pf_bd (ld N y g ws a)
     omega
   ·simp at h
  ·simp at h
theorem tB_bd {N O y g : Nat} {ws : List Int} {x : Int} (h : tB N y g ws x = true) (hN : N <= 256) (hy : y <= N) (hO : O <= 1024) (hg : g <= O) : 0 <= aV x /\ aV x <= 1280 := by
 unfold tB at h
 simp only [Bool.and_eq_true, Bool.or_eq_true, List.contains_iff_mem] at h
 rcases h.2 with h | h
 ·have := ths_bd _ _ _ h
  omega
 ·have := ths_bd _ _ _ h
  omega
def fcC (N y g : Nat) (ws : List Int) (x i : Int) : Int :=
 if tB N y g ws x = true then (if pk (ld N y g ws (aV x)) = 5 then 2 else if i < 0 \/ stN N y g (aV x) (pf (ld N y g ws (aV x))) <= i then 1 else 0) else 2
section
variable {pw p q N O y g : Nat} {ws : List Int}
theorem fieldAt_any (x i : Int) (w : World) (hc : w.cell? ⟨pw, 0, none⟩ = some (.pointer (some ⟨p, 0, none⟩))) (h : At w p q N O y g ws) :
  Calls Tryz.prog 110 #[.pointer (some ⟨pw, 0, none⟩), .int .i64 x, .int .i64 i] w fun e w' => e = .returned (.tuple #[.int .i64 (if fcC N y g ws x i = 0 then aV x else 0), .int .i64 (if fcC N y g ws x i = 0 then aV x + 1 + i else 0), .int .i64 (fcC N y g ws x i)]) /\ Below w.heap.size w w' := by
 have HA : Hid (At w p q N O y g ws) := h
 have lpw := World.block_lt_of_cell? w _ hc
 have P := thingAt_any' x w hc h
 have k1 := h.hN'
 have k2 := h.hy
 have k3 := h.hO
 have k4 := h.hg
 clear h
 cases ht : tB N y g ws x
 ·rw [ht] at P
  have e0 : fcC N y g ws x i = 2 := by unfold fcC; rw [ht, if_neg (by simp)]
  rw [e0, if_neg (by decide), if_neg (by decide)]
  generalize tV N y g ws x = v at P
  go_enter Tryz.func110, Tryz.ntmps110
  go_wp2_with fail
  refine P.mono ?_
  clear P
  rintro e w1 ⟨rfl, hb1⟩
  go_wp2_with fail
  go_ret3
  exact ⟨rfl, hb1⟩
 ·obtain ⟨b0, b1⟩ := tB_bd (O := O) ht k1 k2 k3 k4
  have hpf := pf_bd (ld N y g ws (aV x))
  rw [ht] at P
  have ev : tV N y g ws x = aV x := by simp [tV, ht]
  rw [ev] at P
  have e0 : fcC N y g ws x i = if pk (ld N y g ws (aV x)) = 5 then 2 else if i < 0 \/ stN N y g (aV x) (pf (ld N y g ws (aV x))) <= i then 1 else 0 := by unfold fcC; rw [if_pos ht]
  rw [e0]
  clear e0 ht ev
  generalize aV x = v at P hpf b0 b1
  have K : Hid (∀ w1, Below w.heap.size w w1 -> Calls Tryz.prog 120 #[.pointer (some ⟨p, 0, none⟩), .int .i64 v] w1 fun e w' => e = .returned (.tuple #[.int .i64 (pk (ld N y g ws v)), .int .i64 (pf (ld N y g ws v)), .int .i64 (pc (ld N y g ws v))]) /\ Below w1.heap.size w1 w') := fun w1 hb => thing_any v w1 (HA.out.below hb (Nat.le_refl _))
  have KS : Hid (∀ w1, Below w.heap.size w w1 -> Calls Tryz.prog 181 #[.pointer (some ⟨pw, 0, none⟩), .int .i64 v, .int .i64 (pf (ld N y g ws v))] w1 fun e w' => e = .returned (.int .i64 (stN N y g v (pf (ld N y g ws v)))) /\ Below w1.heap.size w1 w') := fun w1 hb => standing_any v _ w1 ((hb.cell (p := ⟨pw, 0, none⟩) lpw).trans hc) (HA.out.below hb (Nat.le_refl _)) b0 (by omega)
  have hst : stN N y g v (pf (ld N y g ws v)) <= 12 := by unfold stN; exact Int.le_trans (Int.min_le_left _ _) hpf.2
  clear HA hpf
  generalize stN N y g v (pf (ld N y g ws v)) = s at KS hst ⊢
  generalize pk (ld N y g ws v) = kd at K ⊢
  generalize pf (ld N y g ws v) = f at K KS
  generalize pc (ld N y g ws v) = cc at K
  by_cases h5 : kd = 5
  ·subst h5
   rw [if_pos rfl, if_neg (by decide), if_neg (by decide)]
   go_enter Tryz.func110, Tryz.ntmps110
   go_wp2_with fail
   refine P.mono ?_
   clear P
   rintro e w1 ⟨rfl, hb1⟩
   have y1 := (hb1.cell (p := ⟨pw, 0, none⟩) lpw).trans hc
   go_wp2_with fail
   refine (K.out w1 hb1).mono ?_
   rintro e w2 ⟨rfl, hb2⟩
   have hb12 := hb1.trans (hb2.mono hb1.size)
   clear y1 hb1 hb2 K KS
   go_wp2_with fail
   go_ret3
   exact ⟨rfl, hb12⟩
  ·rw [if_neg h5]
   by_cases hi : i < 0
   ·rw [if_pos (Or.inl hi), if_neg (by decide), if_neg (by decide)]
    go_enter Tryz.func110, Tryz.ntmps110
    go_wp2_with fail
    refine P.mono ?_
    clear P
    rintro e w1 ⟨rfl, hb1⟩
    have y1 := (hb1.cell (p := ⟨pw, 0, none⟩) lpw).trans hc
    go_wp2_with fail
    refine (K.out w1 hb1).mono ?_
    rintro e w2 ⟨rfl, hb2⟩
    have hb12 := hb1.trans (hb2.mono hb1.size)
    clear y1 hb1 hb2 K KS
    go_wp2_with fail
    go_ret3
    exact ⟨rfl, hb12⟩
   ·by_cases hs : s <= i
    ·rw [if_pos (Or.inr hs), if_neg (by decide), if_neg (by decide)]
     go_enter Tryz.func110, Tryz.ntmps110
     go_wp2_with fail
     refine P.mono ?_
     clear P
     rintro e w1 ⟨rfl, hb1⟩
     have y1 := (hb1.cell (p := ⟨pw, 0, none⟩) lpw).trans hc
     go_wp2_with fail
     refine (K.out w1 hb1).mono ?_
     rintro e w2 ⟨rfl, hb2⟩
     have hb12 := hb1.trans (hb2.mono hb1.size)
     clear y1 hb1 hb2 K
     go_wp2_with fail
     refine (KS.out w2 hb12).mono ?_
     rintro e w3 ⟨rfl, hb3⟩
     have hb13 := hb12.trans (hb3.mono hb12.size)
     clear hb12 hb3 KS
     go_wp2_with fail
     go_ret3
     exact ⟨rfl, hb13⟩
    ·have hx : ¬ (i < 0 \/ s <= i) := by omega
     rw [if_neg hx, if_pos rfl, if_pos rfl]
     go_enter Tryz.func110, Tryz.ntmps110
     go_wp2_with fail
     refine P.mono ?_
     clear P
     rintro e w1 ⟨rfl, hb1⟩
     have y1 := (hb1.cell (p := ⟨pw, 0, none⟩) lpw).trans hc
     go_wp2_with fail
     refine (K.out w1 hb1).mono ?_
     rintro e w2 ⟨rfl, hb2⟩
     have hb12 := hb1.trans (hb2.mono hb1.size)
     clear y1 hb1 hb2 K
     go_wp2_with fail
     refine (KS.out w2 hb12).mono ?_
     rintro e w3 ⟨rfl, hb3⟩
     have hb13 := hb12.trans (hb3.mono hb12.size)
     clear hb12 hb3 KS
     go_wp2_with fail
     go_ret3
     exact ⟨rfl, hb13⟩
theorem get_any (x i : Int) (w : World) (hc : w.cell? ⟨pw, 0, none⟩ = some (.pointer (some ⟨p, 0, none⟩))) (h : At w p q N O y g ws) :
  Calls Tryz.prog 54 #[.pointer (some ⟨pw, 0, none⟩), .int .i64 x, .int .i64 i] w fun e w' => e = .returned (.tuple #[.int .i64 (if fcC N y g ws x i = 0 then ld N y g ws (aV x + 1 + i) else 0), .int .i64 (fcC N y g ws x i)]) /\ Below w.heap.size w w' := by
 have HA : Hid (At w p q N O y g ws) := h
 have lpw := World.block_lt_of_cell? w _ hc
 have P := fieldAt_any x i w hc h
 clear h
 generalize fcC N y g ws x i = cd at P ⊢
 by_cases h0 : cd = 0
 ·subst h0
  rw [if_pos rfl, if_pos rfl] at P
  rw [if_pos rfl]
  generalize aV x + 1 + i = fl at P ⊢
  generalize aV x = v at P
  go_enter Tryz.func54, Tryz.ntmps54
  go_wp2_with fail
  refine P.mono ?_
  clear P
  rintro e w1 ⟨rfl, hb1⟩
  have y1 := (hb1.cell (p := ⟨pw, 0, none⟩) lpw).trans hc
  go_wp2_with fail
  refine (load_any fl w1 (HA.out.below hb1 (Nat.le_refl _))).mono ?_
  rintro e w2 ⟨rfl, hb2⟩
  have hb12 := hb1.trans (hb2.mono hb1.size)
  clear y1 hb1 hb2
  go_wp2_with fail
  go_ret2
  exact ⟨rfl, hb12⟩
 ·rw [if_neg h0, if_neg h0] at P
  rw [if_neg h0]
  go_enter Tryz.func54, Tryz.ntmps54
  go_wp2_with fail
  refine P.mono ?_
  clear P
  rintro e w1 ⟨rfl, hb1⟩
  go_wp2_with fail
  go_ret2
  exact ⟨rfl, hb1⟩
end
end Go.Proofs.YtnalfnlmaallmaaGreat

namespace Go.Proofs.YtnalfnlmaallmaaGreat
open Go.RowKit W
def Tile (L : Int -> Int) (hi : Int) : Int -> List Int -> Prop
 | a, [] => a = hi
 | a, x :: l => x = a /\ pc (L a) = 0 /\ a + (1 + pf (L a)) <= hi /\ Tile L hi (a + (1 + pf (L a))) l
section
variable {L L' : Int -> Int} {hi : Int}
theorem Tile.done : Tile L hi hi [] := rfl
theorem Tile.step {a : Int} {l : List Int} (h0 : pc (L a) = 0) (h1 : a + (1 + pf (L a)) <= hi) (ht : Tile L hi (a + (1 + pf (L a))) l) : Tile L hi a (a :: l) := ⟨rfl, h0, h1, ht⟩
theorem Tile.mem {a : Int} {l : List Int} (h : Tile L hi a l) : ∀ x ∈ l, a <= x /\ x + (1 + pf (L x)) <= hi /\ pc (L x) = 0 := by
 induction l generalizing a with
 | nil => intro x hx; simp at hx
 | cons z l ih =>
  obtain ⟨rfl, h0, h1, ht⟩ := h
  intro x hx
  rcases List.mem_cons.1 hx with rfl | hx
  ·exact ⟨Int.le_refl _, h1, h0⟩
  ·have := pf_bd (L z)
   have h2 := ih ht x hx
   exact ⟨by omega, h2.2⟩
theorem Tile.apart {a : Int} {l : List Int} (h : Tile L hi a l) : ∀ x ∈ l, ∀ z ∈ l, x < z -> x + (1 + pf (L x)) <= z := by
 induction l generalizing a with
 | nil => intro x hx; simp at hx
 | cons y l ih =>
  obtain ⟨rfl, h0, h1, ht⟩ := h
  intro x hx z hz hxz
  rcases List.mem_cons.1 hx with ex | hx2
  ·rcases List.mem_cons.1 hz with ez | hz2
   ·omega
   ·rw [ex]
    exact (ht.mem z hz2).1
  ·rcases List.mem_cons.1 hz with ez | hz2
   ·have h2 := (ht.mem x hx2).1
    have h3 := pf_bd (L y)
    omega
   ·exact ih ht x hx2 z hz2 hxz
theorem Tile.heads {a : Int} {l : List Int} (h : Tile L hi a l) (he : ∀ x ∈ l, L' x = L x) : Tile L' hi a l := by
 induction l generalizing a with
 | nil => exact h
 | cons z l ih =>
  obtain ⟨rfl, h0, h1, ht⟩ := h
  have e := he z (by simp)
  refine .step (by rw [e]; exact h0) (by rw [e]; exact h1) ?_
  rw [e]
  exact ih ht (fun x hx => he x (by simp [hx]))
theorem Tile.snoc {a : Int} {l : List Int} (h : Tile L hi a l) (he : ∀ x ∈ l, L' x = L x) {hi' : Int} (h0 : pc (L' hi) = 0) (h1 : hi' = hi + (1 + pf (L' hi))) : Tile L' hi' a (l ++ [hi]) := by
 have hp := pf_bd (L' hi)
 induction l generalizing a with
 | nil =>
  have e : a = hi := h
  subst e
  refine .step h0 (by omega) ?_
  rw [<- h1]
  exact .done
 | cons z l ih =>
  obtain ⟨rfl, h2, h3, ht⟩ := h
  have e := he z (by simp)
  refine .step (by rw [e]; exact h2) (by rw [e]; omega) ?_
  rw [e]
  exact ih ht (fun x hx => he x (by simp [hx]))
theorem Tile.field {a : Int} {l : List Int} (h : Tile L hi a l) {v i : Int} (hv : v ∈ l) (i0 : 0 <= i) (i1 : i < pf (L v)) : v + 1 + i ∉ l := by
 intro hm
 have := h.apart v hv _ hm (by omega)
 omega
theorem Tile.ths {N y g : Nat} {ws : List Int} {hi a : Int} {l : List Int} (h : Tile (ld N y g ws) hi a l) : ∀ k : Nat, hi - a <= k -> ths N y g ws hi k a = l := by
 induction l generalizing a with
 | nil =>
  have e : a = hi := h
  subst e
  intro k _
  exact ths_end k (Int.le_refl _)
 | cons z l ih =>
  obtain ⟨rfl, h0, h1, ht⟩ := h
  intro k hk
  have hp := pf_bd (ld N y g ws z)
  match k, hk with
  | 0, hk => omega
  | k + 1, hk =>
   unfold Proofs.YtnalfnlmaallmaaGreat.ths
   rw [if_pos (by omega), if_pos h0, ih ht k (by omega)]
end
structure Full2 (N y g : Nat) (ws : List Int) (Y G : List Int) : Prop where
  ty : Tile (ld N y g ws) y 0 Y
  to : Tile (ld N y g ws) ((N : Int) + g) N G
theorem Full2.lists {N O y g : Nat} {ws : List Int} {Y G : List Int} (h : Full2 N y g ws Y G) (hN : N <= 256) (hy : y <= N) (hO : O <= 1024) (hg : g <= O) : thY N y g ws = Y /\ thO N y g ws = G :=
 ⟨h.ty.ths 2000 (by omega), h.to.ths 2000 (by omega)⟩
theorem Full2.start {N : Nat} {ws : List Int} : Full2 N 0 0 ws [] [] := ⟨.done, by simpa using Tile.done (L := ld N 0 0 ws) (hi := (N : Int))⟩
theorem Full2.stands {N y g : Nat} {ws : List Int} {Y G : List Int} (h : Full2 N y g ws Y G) (hy : y <= N) {v : Int} (hv : v ∈ Y \/ v ∈ G) : stN N y g v (pf (ld N y g ws v)) = pf (ld N y g ws v) := by
 have hp := pf_bd (ld N y g ws v)
 unfold stN
 refine Int.min_eq_left ?_
 rcases hv with hv | hv
 ·have h1 := h.ty.mem v hv
  have e : hB N g v = false := by
   rw [Bool.eq_false_iff]
   intro hh
   have := hB_yes hh
   omega
  rw [e, if_neg (by simp)]
  omega
 ·have h1 := h.to.mem v hv
  have e : hB N g v = true := by
   unfold hB
   exact decide_eq_true ⟨h1.1, by omega⟩
  rw [e, if_pos rfl]
  omega
end Go.Proofs.YtnalfnlmaallmaaGreat

namespace Go.Proofs.YtnalfnlmaallmaaGreat
open Go.RowKit W
def addM (M : List Int) (k : Int) : List Int := if M.contains k then M else M ++ [k]
theorem has_addM (M : List Int) (k j : Int) : (addM M k).contains j = (M.contains j || j == k) := by
 unfold addM
 by_cases c : M.contains k = true
 ·rw [if_pos c]
  by_cases e : j = k
  ·subst e; rw [c]; rfl
  ·simp [e]
 ·rw [if_neg c]
  by_cases e : j = k <;> simp [e]
theorem len_addM (M : List Int) (k : Int) : (addM M k).length <= M.length + 1 := by
 unfold addM; split <;> simp
theorem lawU : Maps.Keyed Tryz.prog 129 := Maps.int_keyed Tryz.underlying129
theorem zeroU (w : World) : (zeroValue 222).run Tryz.prog w = .ok (.agg #[]) w := by kernel_rfl
structure Cd (w : World) (p q : Nat) (B c : Int) (M : List Int) : Prop where
  hp : w.heap[p]? = some (.cells #[.int .i64 B, .int .u64 c, .map (some q)] 132 (0, 0))
  hq : ∃ D : DataW Unit, w.ownsMap Tryz.prog 129 unitElem q M.length D /\ (∀ k : Int, Maps.has D (.int .u64 k) = M.contains k) /\ Maps.size D = M.length
theorem own_same {H : Type} {P : Program} {k : TypeId} {R : Value -> Option (DataW H × List MemPlace)} {w w' : World} {b n : Nat} {D : DataW H} (h : w.ownsMap P k R b n D) (e : w'.heap[b]? = w.heap[b]?) : w'.ownsMap P k R b n D := by
 obtain ⟨es, clock, hb, r⟩ := h
 exact ⟨es, clock, e.trans hb, r⟩
theorem own_tight {H : Type} {P : Program} {k : TypeId} {R : Value -> Option (DataW H × List MemPlace)} {w : World} {b n m : Nat} {D : DataW H} (h : w.ownsMap P k R b n D) (e : Maps.size D = m) : w.ownsMap P k R b m D := by
 obtain ⟨es, clock, hb, F, hs, rfl⟩ := h
 exact ⟨es, clock, hb, F, by rw [<- e]; simp [Maps.size, length_sorted], rfl⟩
theorem Cd.ltp {w : World} {p q : Nat} {B c : Int} {M : List Int} (h : Cd w p q B c M) : p < w.heap.size := lt_of_some h.hp
theorem Cd.ltq {w : World} {p q : Nat} {B c : Int} {M : List Int} (h : Cd w p q B c M) : q < w.heap.size := by
 obtain ⟨D, h1, _⟩ := h.hq
 exact h1.lt
theorem Cd.ne {w : World} {p q : Nat} {B c : Int} {M : List Int} (h : Cd w p q B c M) : p ≠ q := by
 intro e
 obtain ⟨D, ⟨es, clock, hb, _⟩, _⟩ := h.hq
 have h1 := h.hp
 rw [e, hb] at h1
 simp at h1
theorem Cd.same {w w' : World} {p q : Nat} {B c : Int} {M : List Int} (h : Cd w p q B c M) (ep : w'.heap[p]? = w.heap[p]?) (eq : w'.heap[q]? = w.heap[q]?) : Cd w' p q B c M := by
 obtain ⟨D, h1, h2⟩ := h.hq
 exact ⟨ep.trans h.hp, D, own_same h1 eq, h2⟩
theorem Cd.below {w w' : World} {p q X : Nat} {B c : Int} {M : List Int} (h : Cd w p q B c M) (hb : Below X w w') (hX : w.heap.size <= X) : Cd w' p q B c M :=
 h.same (hb.block p (Nat.lt_of_lt_of_le h.ltp hX)) (hb.block q (Nat.lt_of_lt_of_le h.ltq hX))
theorem Cd.cells {w : World} {p q : Nat} {B c : Int} {M : List Int} (h : Cd w p q B c M) :
  w.cell? ⟨p, 0, none⟩ = some (.int .i64 B) /\ w.cell? ⟨p, 1, none⟩ = some (.int .u64 c) /\ w.cell? ⟨p, 2, none⟩ = some (.map (some q)) := by
 have hp := h.hp
 refine ⟨?_, ?_, ?_⟩ <;> simp [World.cell?, hp]
theorem Cd.put {w w' : World} {p q : Nat} {B c k : Int} {M : List Int} {D : DataW Unit} {n : Nat} (h : w.heap[p]? = some (.cells #[.int .i64 B, .int .u64 c, .map (some q)] 132 (0, 0)))
  (h0 : w.ownsMap Tryz.prog 129 unitElem q M.length D) (h1 : ∀ k : Int, Maps.has D (.int .u64 k) = M.contains k) (h2 : Maps.size D = M.length) (hne : p ≠ q)
  (h3 : w'.ownsMap Tryz.prog 129 unitElem q n (D.put (.int .u64 k) (.agg []))) (h4 : w.grownBy w' (some q)) : Cd w' p q B c (addM M k) /\ Sv p q w w' := by
 have hs : Maps.size (D.put (.int .u64 k) (.agg [])) = (addM M k).length := by
  rw [Maps.size_put (h0.tidy lawU), h1, h2]
  unfold addM
  split <;> simp
 refine ⟨⟨(h4.block p (lt_of_some h) (fun e => hne (by cases e; rfl))).trans h, _, own_tight h3 hs, fun j => ?_, hs⟩, ⟨h4.os, h4.tape, h4.output, h4.size, fun i hi _ e => h4.block i hi (fun e' => e (by cases e'; rfl))⟩⟩
 rw [has_addM]
 by_cases e : j = k
 ·subst e
  rw [Maps.has_put_same (k := .int .u64 j) h0.isMap trivial]
  simp
 ·rw [Maps.has_put_other (by simpa using e), h1]
  simp [e]
theorem Cd.none {w : World} {p q : Nat} {B c : Int} (h : w.heap[p]? = some (.cells #[.int .i64 B, .int .u64 c, .map (some q)] 132 (0, 0))) (h1 : w.ownsMap Tryz.prog 129 unitElem q 0 (.map [] : DataW Unit)) : Cd w p q B c [] :=
 ⟨h, _, h1, fun _ => rfl, rfl⟩
end Go.Proofs.YtnalfnlmaallmaaGreat

namespace Go.Proofs.YtnalfnlmaallmaaGreat
set_option maxRecDepth 100000
set_option maxHeartbeats 400000
open Go.RowKit W
def nC (x : Int) : Int := if x < 0 then 0 else (x + 8 - 1) / 8
def cN (B a : Int) : Int := if a < B then 0 else (a - B) / 8
def cB (B c a : Int) : Bool := decide (B <= a) && decide ((a - B) / 8 < c)
theorem begunC_any (x : Int) (w : World) (h : x <= 100000) : Calls Tryz.prog 178 #[.int .i64 x] w fun e w' => e = .returned (.int .u64 (nC x)) /\ w' = w := by
 by_cases c : x < 0
 ·have e : nC x = 0 := by unfold nC; rw [if_pos c]
  rw [e]
  go_enter Tryz.func178, Tryz.ntmps178
  go_wp2_with fail
  go_ret
  exact ⟨rfl, rfl⟩
 ·have e : nC x = (x + 8 - 1) / 8 := by unfold nC; rw [if_neg c]
  rw [e]
  go_enter Tryz.func178, Tryz.ntmps178
  go_wp2_with fail
  go_ret
  exact ⟨rfl, rfl⟩
theorem card_any {p q : Nat} {B c : Int} {M : List Int} (a : Int) (w : World) (h : Cd w p q B c M) (hB : 0 <= B) (hB' : B <= 100000) (ha : a <= 9223372036854775807) :
  Calls Tryz.prog 185 #[.pointer (some ⟨p, 0, none⟩), .int .i64 a] w fun e w' => e = .returned (.tuple #[.int .u64 (cN B a), .bool (cB B c a)]) /\ Below w.heap.size w w' := by
 obtain ⟨c0, c1, c2⟩ := h.cells
 by_cases hc : a < B
 ·have e : cB B c a = false := by unfold cB; rw [decide_eq_false (by omega)]; rfl
  have e2 : cN B a = 0 := by unfold cN; rw [if_pos hc]
  rw [e, e2]
  go_enter Tryz.func185, Tryz.ntmps185
  go_wp2_with fail
  go_ret2
  exact ⟨rfl, Below.refl _ _⟩
 ·have e : cB B c a = decide ((a - B) / 8 < c) := by unfold cB; rw [decide_eq_true (by omega)]; rfl
  have e2 : cN B a = (a - B) / 8 := by unfold cN; rw [if_neg hc]
  rw [e, e2]
  go_enter Tryz.func185, Tryz.ntmps185
  go_wp2_with fail
  go_quiet (fail)
  go_wp2_with fail
  go_ret2
  exact ⟨rfl, below_drewN (Below.refl _ _) _⟩
def mkM (B c a : Int) (M : List Int) : List Int := if cB B c a then addM M (cN B a) else M
theorem mkM_yes {B c a : Int} {M : List Int} (h : cB B c a = true) : mkM B c a M = addM M (cN B a) := by unfold mkM; rw [if_pos h]
theorem mkM_no {B c a : Int} {M : List Int} (h : cB B c a = false) : mkM B c a M = M := by unfold mkM; rw [if_neg (by rw [h]; simp)]
theorem cN_fits {B a : Int} (hB : 0 <= B) (ha : a <= 9223372036854775807) : (Lit.int .u64 (cN B a)).wf = true := by
 unfold cN
 split
 ·decide
 ·have h1 : 0 <= (a - B) / 8 := by omega
  exact WalkArith.wf_u64 ⟨h1, by omega⟩
theorem mark_any {p q : Nat} {B c : Int} {M : List Int} (a : Int) (w : World) (h : Cd w p q B c M) (hB : 0 <= B) (hB' : B <= 100000) (ha : a <= 9223372036854775807) (hM : M.length <= 100000) :
  Calls Tryz.prog 115 #[.pointer (some ⟨p, 0, none⟩), .int .i64 a] w fun e w' => e = .returned (.bool (cB B c a)) /\ Cd w' p q B c (mkM B c a M) /\ Sv p q w w' := by
 have hk := Maps.keyOf_int_mk (P := Tryz.prog) Tryz.underlying129 (cN_fits (B := B) (a := a) hB ha)
 go_enter Tryz.func115, Tryz.ntmps115
 go_wp2_with fail
 refine (card_any a _ h hB hB' ha).mono ?_
 rintro e w1 ⟨rfl, hb1⟩
 have h1 := h.below hb1 (Nat.le_refl _)
 obtain ⟨c0, c1, c2⟩ := h1.cells
 obtain ⟨D, o1, o2, o3⟩ := h1.hq
 cases hc : cB B c a
 ·go_wp2_with fail
  go_ret
  exact ⟨by rw [hc]; rfl, by rw [mkM_no hc]; exact h1, Sv.of hb1⟩
 ·go_wp2_with (first
   | (at_mapUpdate; refine wpList_mapUpdate_own _ rfl _ _ _ 130 rfl 129 222 lawU Tryz.underlying130 (unitElem (H := Unit)) q M.length D rfl o1 (by unfold maxLen; omega) _ _ _ rfl rfl hk _ [] unitElem_mk ?_; intro w2 hown2 hgrow2)
   | go_in)
  go_ret
  obtain ⟨h2, s2⟩ := Cd.put h1.hp o1 o2 o3 h1.ne hown2 hgrow2
  exact ⟨by rw [hc]; rfl, by rw [mkM_yes hc]; exact h2, (Sv.of hb1).trans s2⟩
theorem dirty_any {p q : Nat} {B c : Int} {M : List Int} (a : Int) (w : World) (h : Cd w p q B c M) (hB : 0 <= B) (hB' : B <= 100000) (ha : a <= 9223372036854775807) :
  Calls Tryz.prog 129 #[.pointer (some ⟨p, 0, none⟩), .int .i64 a] w fun e w' => e = .returned (.bool (cB B c a && M.contains (cN B a))) /\ Below w.heap.size w w' := by
 have hk := Maps.keyOf_int_mk (P := Tryz.prog) Tryz.underlying129 (cN_fits (B := B) (a := a) hB ha)
 go_enter Tryz.func129, Tryz.ntmps129
 go_wp2_with fail
 refine (card_any a _ h hB hB' ha).mono ?_
 rintro e w1 ⟨rfl, hb1⟩
 have h1 := h.below hb1 (Nat.le_refl _)
 obtain ⟨c0, c1, c2⟩ := h1.cells
 obtain ⟨D, o1, o2, o3⟩ := h1.hq
 cases hc : cB B c a
 ·go_wp2_with fail
  go_ret
  exact ⟨by rw [hc]; rfl, hb1⟩
 ·go_wp2_with (first
   | (at_lookup; refine wpList_lookup_own_unit _ rfl _ _ 130 rfl 129 222 lawU Tryz.underlying130 (zeroU _) q M.length D rfl o1 _ _ rfl hk ?_)
   | go_in)
  go_ret
  exact ⟨by rw [hc]; show Ending.returned (.bool (decide (cN B a ∈ M))) = _; simp, hb1.alloc hb1.size _⟩
theorem count_any {p q : Nat} {B c : Int} {M : List Int} (w : World) (h : Cd w p q B c M) :
    Calls Tryz.prog 18 #[.pointer (some ⟨p, 0, none⟩)] w fun e w' => e = .returned (.int .i64 M.length) /\ w' = w := by
  obtain ⟨c0, c1, c2⟩ := h.cells
  obtain ⟨D, o1, o2, o3⟩ := h.hq
  go_enter Tryz.func18, Tryz.ntmps18
  go_wp2_with (first
      | (at_len; refine wpList_len_own _ rfl _ 130 rfl 129 222 Tryz.underlying130 _ q M.length D rfl o1 ?_)
      | go_in)
  go_ret
  exact ⟨rfl, rfl⟩
theorem clearC_any {p : Nat} {B c : Int} {v : Value} (w : World) (h : w.heap[p]? = some (.cells #[.int .i64 B, .int .u64 c, v] 132 (0, 0))) :
  Calls Tryz.prog 70 #[.pointer (some ⟨p, 0, none⟩)] w fun e w' => e = .returned (.tuple #[]) /\ Cd w' p w.heap.size B c [] /\ Sv p p w w' := by
 have hmm := @run_makeMap Tryz.prog
 have hp := lt_of_some h
 have hf : (w.alloc (.map #[] 0)).frozen? ⟨p, 2, none⟩ = false := by
  simp [World.frozen?, Below.heap_alloc _ _ _ hp, h]
 have hc : (w.alloc (.map #[] 0)).cell? ⟨p, 2, none⟩ = some v := by
  simp [World.cell?, Below.heap_alloc _ _ _ hp, h]
 go_enter Tryz.func70, Tryz.ntmps70
 go_wp2_with fail
 go_end0
 have hm := World.ownsMap_made (w.setCell ⟨p, 2, none⟩ (.map (some w.heap.size))) Tryz.prog 129 (unitElem (H := Unit))
 have hz : (w.setCell ⟨p, 2, none⟩ (.map (some w.heap.size))).heap.size = w.heap.size := by simp [World.setCell]
 rw [hz] at hm
 refine ⟨rfl, Cd.none ((Below.heap_alloc _ _ _ (by omega)).trans ?_) hm, (Sv.setp _ _).trans (Sv.of ((Below.refl _ _).alloc (Nat.le_refl _) _))⟩
 simp only [World.setCell, Array.getElem?_modify, if_true, h, Option.map_some]
 simp
theorem newC_any (B x : Int) (w : World) (h : x <= 100000) :
  Calls Tryz.prog 105 #[.int .i64 B, .int .i64 x] w fun e w' => ∃ p q, e = .returned (.pointer (some ⟨p, 0, none⟩)) /\ Cd w' p q B (nC x) [] /\ w.heap.size <= p /\ w.heap.size <= q /\ Below w.heap.size w w' := by
 go_enter Tryz.func105, Tryz.ntmps105
 go_wp2_with fail
 refine (begunC_any x _ h).mono ?_
 rintro e w1 ⟨rfl, hw1⟩
 have hw1 := hw1.symm
 subst hw1
 go_wp2_with fail
 refine (clearC_any (p := w.heap.size) (B := B) (c := nC x) (v := .map none) _ (heap_alloc_new _ _)).mono ?_
 rintro e w2 ⟨rfl, h2, s2⟩
 go_wp2_with fail
 go_ret
 exact ⟨_, _, rfl, h2, Nat.le_refl _, by simp, ((Below.refl _ _).alloc (Nat.le_refl _) _).trans (s2.below (by simp) (Nat.le_refl _) (Nat.le_refl _))⟩
end Go.Proofs.YtnalfnlmaallmaaGreat
