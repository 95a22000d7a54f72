/- What Copy of package arena does: a contract, over the seat's own translation; no block but the arena's turns. -/
import Derived.Test.YtglddgjljohkiabAr4
namespace Go.Proofs.Ytglddgjljohkiab
open Go.RowKit W

theorem pc_bd (x : Int) (h : pc x = 0) : 0 ≤ pf x ∧ pf x ≤ 12 := by
  have := hc_bd _ _ (head_parts x h).1
  omega
theorem pc_zero : pc 0 = 7 := by decide +kernel
theorem pc_iB {N y g : Nat} {ws : List Int} {a : Int} (h : pc (ld N y g ws a) = 0) : iB N y g a = true := by
  cases hi : iB N y g a
  · have e : ld N y g ws a = 0 := by simp [ld, hi]
    rw [e, pc_zero] at h
    omega
  · rfl

/-- Where what is in use ends, of the space that a place in use is in. -/
def endA (N y g : Nat) (a : Int) : Int := if hB 0 y a = true then (y : Int) else (N : Int) + g
theorem cells3 {w w1 : World} {a b c : Value} {t : TypeId} (hb : Below (w.alloc (.cells #[a, b, c] t)).heap.size (w.alloc (.cells #[a, b, c] t)) w1) :
    w1.cell? ⟨w.heap.size, 0, none⟩ = some a ∧ w1.cell? ⟨w.heap.size, 1, none⟩ = some b ∧ w1.cell? ⟨w.heap.size, 2, none⟩ = some c ∧ w1.frozen? ⟨w.heap.size, 0, none⟩ = false ∧ w1.frozen? ⟨w.heap.size, 1, none⟩ = false ∧ w1.frozen? ⟨w.heap.size, 2, none⟩ = false ∧ w.heap.size < w1.heap.size := by
  obtain ⟨hc, hf⟩ := bcell hb
  have hz := hb.size
  refine ⟨?_, ?_, ?_, ?_, ?_, ?_, by simp at hz; omega⟩
  · rw [hc _ _ (by simp)]; simp [go_sem]
  · rw [hc _ _ (by simp)]; simp [go_sem]
  · rw [hc _ _ (by simp)]; simp [go_sem]
  · rw [hf _ _ (by simp)]; simp [go_sem]
  · rw [hf _ _ (by simp)]; simp [go_sem]
  · rw [hf _ _ (by simp)]; simp [go_sem]

set_option maxRecDepth 100000 in
set_option maxHeartbeats 400000 in
theorem spaceOf_y {p q N O y g : Nat} {ws : List Int} (a : Int) (w : World) (h : At w p q N O y g ws) (hy : hB 0 y a = true) :
    Calls Try.prog 64 #[.pointer (some ⟨p, 0, none⟩), .int .i64 a] w fun e w' => e = .returned (.agg #[.int .i64 0, .int .i64 N, .int .i64 y]) ∧ Below w.heap.size w w' := by
  have HY : Hid (hB 0 y a = true) := hy
  clear hy
  go_enter Try.func64, Try.ntmps64
  go_wp2_with fail
  refine (young_any a _ (h.alloc _)).mono ?_
  rintro e w1 ⟨rfl, hb1⟩
  rw [HY.out]
  obtain ⟨d0, d1, d2, f0, f1, f2, hz⟩ := cells3 hb1
  have h1 := (h.alloc _).below hb1 (Nat.le_refl _)
  obtain ⟨c0, c1, c2, c3, c4, c5, c6⟩ := h1.cells
  go_wp2_with fail
  exact bodyPost_ret (v := .agg #[.int .i64 0, .int .i64 N, .int .i64 y]) (by simp [results, Try.results64, go_sem, d0, d1, d2]) rfl ⟨rfl, (((((Below.refl _ _).alloc (Nat.le_refl _) _).trans (hb1.mono (by simp))).setCell (Nat.le_refl _) _).setCell (Nat.le_refl _) _).setCell (Nat.le_refl _) _⟩

set_option maxRecDepth 100000 in
set_option maxHeartbeats 400000 in
theorem spaceOf_o {p q N O y g : Nat} {ws : List Int} (a : Int) (w : World) (h : At w p q N O y g ws) (hy : hB 0 y a = false) :
    Calls Try.prog 64 #[.pointer (some ⟨p, 0, none⟩), .int .i64 a] w fun e w' => e = .returned (.agg #[.int .i64 N, .int .i64 O, .int .i64 g]) ∧ Below w.heap.size w w' := by
  have HY : Hid (hB 0 y a = false) := hy
  clear hy
  go_enter Try.func64, Try.ntmps64
  go_wp2_with fail
  refine (young_any a _ (h.alloc _)).mono ?_
  rintro e w1 ⟨rfl, hb1⟩
  rw [HY.out]
  obtain ⟨d0, d1, d2, f0, f1, f2, hz⟩ := cells3 hb1
  have h1 := (h.alloc _).below hb1 (Nat.le_refl _)
  obtain ⟨c0, c1, c2, c3, c4, c5, c6⟩ := h1.cells
  go_wp2_with fail
  exact bodyPost_ret (v := .agg #[.int .i64 N, .int .i64 O, .int .i64 g]) (by simp [results, Try.results64, go_sem, d0, d1, d2]) rfl ⟨rfl, (((((Below.refl _ _).alloc (Nat.le_refl _) _).trans (hb1.mono (by simp))).setCell (Nat.le_refl _) _).setCell (Nat.le_refl _) _).setCell (Nat.le_refl _) _⟩

/-- The space of a place in use, and where what is in use of it ends. -/
theorem spaceEnd {p q N O y g : Nat} {ws : List Int} (a : Int) (w : World) (h : At w p q N O y g ws) : ∃ b s u : Int, 0 ≤ b ∧ b ≤ 100000 ∧ 0 ≤ u ∧ u ≤ 100000 ∧ b + u = endA N y g a ∧
    Calls Try.prog 64 #[.pointer (some ⟨p, 0, none⟩), .int .i64 a] w fun e w' => e = .returned (.agg #[.int .i64 b, .int .i64 s, .int .i64 u]) ∧ Below w.heap.size w w' := by
  have k1 := h.hN'
  have k2 := h.hy
  have k3 := h.hO
  have k4 := h.hg
  cases hy : hB 0 y a
  · exact ⟨N, O, g, by omega, by omega, by omega, by omega, by simp [endA, hy], spaceOf_o a w h hy⟩
  · exact ⟨0, N, y, by omega, by omega, by omega, by omega, by simp [endA, hy], spaceOf_y a w h hy⟩

theorem en_bd {N O y g : Nat} {a : Int} (hN : N ≤ 256) (hO : O ≤ 1024) (hy : y ≤ N) (hg : g ≤ O) : 0 ≤ endA N y g a ∧ endA N y g a ≤ 1280 := by
  unfold endA
  split <;> omega

set_option maxRecDepth 100000 in
set_option maxHeartbeats 1000000 in
theorem copy_yes {p q N O y g : Nat} {ws : List Int} (a : Int) (w : World) (h : At w p q N O y g ws) (hp : pc (ld N y g ws a) = 0) (hr : 1 + pf (ld N y g ws a) ≤ endA N y g a - a) (hg : 1 + pf (ld N y g ws a) ≤ (O : Int) - g) :
    Calls Try.prog 23 #[.pointer (some ⟨p, 0, none⟩), .int .i64 a] w fun e w' => e = .returned (.int .i64 (N + g : Nat)) ∧ At w' p q N O y (g + (1 + (pf (ld N y g ws a)).toNat)) (splice ws (N + g) ((ws.drop a.toNat).take (1 + (pf (ld N y g ws a)).toNat))) ∧ Sv p q w w' := by
  obtain ⟨f0, f1⟩ := pc_bd _ hp
  have hi := pc_iB hp
  obtain ⟨d1, d2⟩ := iB_bd hi h.hy h.hg
  clear hi
  have k1 := h.hN'
  have k2 := h.hy
  have k3 := h.hO
  have k4 := h.hg
  have k5 := @en_bd N O y g a k1 k3 k2 k4
  have k6 : endA N y g a ≤ (N : Int) + O := by unfold endA; split <;> omega
  have HP : Hid (pc (ld N y g ws a) = 0) := hp
  clear hp
  obtain ⟨a, rfl⟩ := Int.eq_ofNat_of_zero_le d1
  rw [Int.toNat_natCast]
  obtain ⟨n, hn⟩ := Int.eq_ofNat_of_zero_le f0
  have HN : Hid (pf (ld N y g ws a) = n) := hn
  rw [hn] at hr hg f1 f0 ⊢
  clear hn
  rw [Int.toNat_natCast]
  go_enter Try.func23, Try.ntmps23
  go_wp2_with fail
  refine (thing_any a _ h).mono ?_
  rintro e w1 ⟨rfl, hb1⟩
  rw [HP.out, HN.out]
  have h1 := h.below hb1 (Nat.le_refl _)
  go_wp2_with fail
  obtain ⟨b, s, u, e1, e2, e3, e4, e5, hc⟩ := spaceEnd a w1 h1
  refine hc.mono ?_
  rintro e w2 ⟨rfl, hb2⟩
  clear hc
  have h2 := h1.below hb2 (Nat.le_refl _)
  go_wp2_with fail
  refine (end_any b s u _ e1 e2 e3 e4).mono ?_
  rintro e w3 ⟨rfl, hb3⟩
  have E5 : Hid (b + u = endA N y g a) := e5
  clear e5
  rw [E5.out]
  have h3 := h2.below hb3 (Nat.le_refl _)
  obtain ⟨c0, c1, c2, c3, c4, c5, c6⟩ := h3.cells
  go_wp2_with fail
  refine (takeG_yes (1 + n) _ h3 (by omega) (by omega)).mono ?_
  rintro e w4 ⟨rfl, h4, s4⟩
  rw [show (1 + (n : Int)).toNat = 1 + n by omega] at h4
  go_wp2_with fail
  rw [show (1 + (n : Int)) = ((1 + n : Nat) : Int) by omega]
  refine (move_any (N + g) a (1 + n) _ h4 (by omega) (by omega)).mono ?_
  rintro e w5 ⟨rfl, h5, s5⟩
  go_wp2_with fail
  go_ret
  exact ⟨rfl, h5, (((Sv.of hb1).trans (Sv.of hb2)).trans (Sv.of hb3)).trans (s4.trans s5)⟩

set_option maxRecDepth 100000 in
set_option maxHeartbeats 1000000 in
theorem copy_no {p q N O y g : Nat} {ws : List Int} (a : Int) (w : World) (h : At w p q N O y g ws) (hx : pc (ld N y g ws a) ≠ 0 ∨ endA N y g a - a < 1 + pf (ld N y g ws a) ∨ (O : Int) - g < 1 + pf (ld N y g ws a)) :
    Calls Try.prog 23 #[.pointer (some ⟨p, 0, none⟩), .int .i64 a] w fun e w' => e = .returned (.int .i64 (-1)) ∧ Below w.heap.size w w' := by
  by_cases hp : pc (ld N y g ws a) = 0
  · obtain ⟨f0, f1⟩ := pc_bd _ hp
    have hi := pc_iB hp
    obtain ⟨d1, d2⟩ := iB_bd hi h.hy h.hg
    clear hi
    have k1 := h.hN'
    have k2 := h.hy
    have k3 := h.hO
    have k4 := h.hg
    have k5 := @en_bd N O y g a k1 k3 k2 k4
    have hx' : endA N y g a - a < 1 + pf (ld N y g ws a) ∨ (O : Int) - g < 1 + pf (ld N y g ws a) := by
      rcases hx with e | e
      · exact absurd hp e
      · exact e
    have HP : Hid (pc (ld N y g ws a) = 0) := hp
    clear hp hx
    by_cases hr : endA N y g a - a < 1 + pf (ld N y g ws a)
    · clear hx'
      go_enter Try.func23, Try.ntmps23
      go_wp2_with fail
      refine (thing_any a _ h).mono ?_
      rintro e w1 ⟨rfl, hb1⟩
      rw [HP.out]
      have h1 := h.below hb1 (Nat.le_refl _)
      go_wp2_with fail
      obtain ⟨b, s, u, e1, e2, e3, e4, e5, hc⟩ := spaceEnd a w1 h1
      refine hc.mono ?_
      rintro e w2 ⟨rfl, hb2⟩
      clear hc
      go_wp2_with fail
      refine (end_any b s u _ e1 e2 e3 e4).mono ?_
      rintro e w3 ⟨rfl, hb3⟩
      have E5 : Hid (b + u = endA N y g a) := e5
      clear e5
      rw [E5.out]
      go_wp2_with fail
      go_ret
      exact ⟨rfl, (hb1.trans (hb2.mono hb1.size)).trans (hb3.mono (Nat.le_trans hb1.size hb2.size))⟩
    · have hg : (O : Int) - g < 1 + pf (ld N y g ws a) := by omega
      clear hx'
      go_enter Try.func23, Try.ntmps23
      go_wp2_with fail
      refine (thing_any a _ h).mono ?_
      rintro e w1 ⟨rfl, hb1⟩
      rw [HP.out]
      have h1 := h.below hb1 (Nat.le_refl _)
      go_wp2_with fail
      obtain ⟨b, s, u, e1, e2, e3, e4, e5, hc⟩ := spaceEnd a w1 h1
      refine hc.mono ?_
      rintro e w2 ⟨rfl, hb2⟩
      clear hc
      have h2 := h1.below hb2 (Nat.le_refl _)
      go_wp2_with fail
      refine (end_any b s u _ e1 e2 e3 e4).mono ?_
      rintro e w3 ⟨rfl, hb3⟩
      have E5 : Hid (b + u = endA N y g a) := e5
      clear e5
      rw [E5.out]
      have h3 := h2.below hb3 (Nat.le_refl _)
      obtain ⟨c0, c1, c2, c3, c4, c5, c6⟩ := h3.cells
      go_wp2_with fail
      refine (takeG_no _ _ h3 (by omega)).mono ?_
      rintro e w4 ⟨rfl, hb4⟩
      go_wp2_with fail
      go_ret
      exact ⟨rfl, ((hb1.trans (hb2.mono hb1.size)).trans (hb3.mono (Nat.le_trans hb1.size hb2.size))).trans (hb4.mono (Nat.le_trans hb1.size (Nat.le_trans hb2.size hb3.size)))⟩
  · have t : (pc (ld N y g ws a) != 0) = true := by simpa using hp
    clear hp hx
    go_enter Try.func23, Try.ntmps23
    go_wp2_with fail
    refine (thing_any a _ h).mono ?_
    rintro e w1 ⟨rfl, hb1⟩
    go_wp2_with fail
    go_ret
    exact ⟨rfl, hb1⟩

end Go.Proofs.Ytglddgjljohkiab
