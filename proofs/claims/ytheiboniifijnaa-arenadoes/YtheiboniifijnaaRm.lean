/- The document's own arena (a Room) in memory: a struct of its own block, its words in another; what its functions that only look return: contracts, over the seat's own translation; nothing that was in memory turns. -/
import Derived.Test.YtheiboniifijnaaAr9
import Derived.Test.YtheiboniifijnaaRef2
namespace Go.Proofs.Ytheiboniifijnaa
open Go.RowKit W

/-- A room: its struct is the block p, its words the block q; N and O words of the nursery and the old space, y and g of them in use; the words are ws. -/
structure Rm (w : World) (p q N O y g : Nat) (ws : List Int) : Prop where
  hp : w.heap[p]? = some (.cells #[.slice (some ⟨q, 0, none⟩) (N + O) (N + O), .int .i64 N, .int .i64 y, .int .i64 g] 56 (0, 0))
  hq : w.heap[q]? = some (.cells (ws.map (Value.int .i64)).toArray 2 (0, 0))
  hl : ws.length = N + O
  hN : 16 ≤ N
  hN' : N ≤ 256
  hO : O ≤ 1024
  hy : y ≤ N
  hg : g ≤ O

theorem Rm.ltp {w : World} {p q N O y g : Nat} {ws : List Int} (h : Rm w p q N O y g ws) : p < w.heap.size := lt_of_some h.hp
theorem Rm.ltq {w : World} {p q N O y g : Nat} {ws : List Int} (h : Rm w p q N O y g ws) : q < w.heap.size := lt_of_some h.hq
theorem Rm.ne {w : World} {p q N O y g : Nat} {ws : List Int} (h : Rm w p q N O y g ws) : p ≠ q := by
  intro e
  have h1 := h.hp
  rw [e, h.hq] at h1
  simp at h1
theorem Rm.same {w w' : World} {p q N O y g : Nat} {ws : List Int} (h : Rm w p q N O y g ws) (ep : w'.heap[p]? = w.heap[p]?) (eq : w'.heap[q]? = w.heap[q]?) : Rm w' p q N O y g ws :=
  ⟨ep.trans h.hp, eq.trans h.hq, h.hl, h.hN, h.hN', h.hO, h.hy, h.hg⟩
theorem Rm.below {w w' : World} {p q N O y g B : Nat} {ws : List Int} (h : Rm w p q N O y g ws) (hb : Below B w w') (hB : w.heap.size ≤ B) : Rm w' p q N O y g ws :=
  h.same (hb.block p (Nat.lt_of_lt_of_le h.ltp hB)) (hb.block q (Nat.lt_of_lt_of_le h.ltq hB))
theorem Rm.alloc {w : World} {p q N O y g : Nat} {ws : List Int} (h : Rm w p q N O y g ws) (o : Obj) : Rm (w.alloc o) p q N O y g ws :=
  h.same (Below.heap_alloc _ _ _ h.ltp) (Below.heap_alloc _ _ _ h.ltq)
theorem Rm.drew {w : World} {p q N O y g : Nat} {ws : List Int} (h : Rm w p q N O y g ws) : Rm w.drew p q N O y g ws := h.same rfl rfl
theorem Rm.drewN {w : World} {p q N O y g : Nat} {ws : List Int} (h : Rm w p q N O y g ws) (n : Nat) : Rm (w.drewN n) p q N O y g ws := h.below (below_drewN (Below.refl w.heap.size w) n) (Nat.le_refl _)
theorem At.drewN {w : World} {p q N O y g : Nat} {ws : List Int} (h : At w p q N O y g ws) (n : Nat) : At (w.drewN n) p q N O y g ws := h.below (below_drewN (Below.refl w.heap.size w) n) (Nat.le_refl _)
theorem Rm.sv {w w' : World} {p q N O y g p' q' : Nat} {ws : List Int} (h : Rm w p q N O y g ws) (s : Sv p' q' w w') (h1 : p ≠ p') (h2 : p ≠ q') (h3 : q ≠ p') (h4 : q ≠ q') : Rm w' p q N O y g ws :=
  h.same (s.block p h.ltp h1 h2) (s.block q h.ltq h3 h4)
theorem Rm.cells {w : World} {p q N O y g : Nat} {ws : List Int} (h : Rm w p q N O y g ws) :
    w.cell? ⟨p, 0, none⟩ = some (.slice (some ⟨q, 0, none⟩) (N + O) (N + O)) ∧ w.cell? ⟨p, 1, none⟩ = some (.int .i64 N) ∧ w.cell? ⟨p, 2, none⟩ = some (.int .i64 y) ∧ w.cell? ⟨p, 3, none⟩ = some (.int .i64 g) := by
  have hp := h.hp
  refine ⟨?_, ?_, ?_, ?_⟩ <;> simp [World.cell?, hp]
theorem Rm.frozen {w : World} {p q N O y g : Nat} {ws : List Int} (h : Rm w p q N O y g ws) (o : Nat) : w.frozen? ⟨p, o, none⟩ = false := by
  have hp := h.hp
  simp [World.frozen?, hp]
theorem Rm.frozenq {w : World} {p q N O y g : Nat} {ws : List Int} (h : Rm w p q N O y g ws) (o : Nat) : w.frozen? ⟨q, o, none⟩ = false := by
  have hq := h.hq
  simp [World.frozen?, hq]
theorem Rm.word {w : World} {p q N O y g : Nat} {ws : List Int} (h : Rm w p q N O y g ws) (i : Nat) (hi : i < N + O) : w.cell? ⟨q, i, none⟩ = some (.int .i64 (ws.getD i 0)) := by
  have hq := h.hq
  have hl := h.hl
  simp [World.cell?, hq, List.getElem?_map, List.getElem?_eq_getElem (show i < ws.length by omega), List.getD_eq_getElem?_getD]
theorem Rm.set {w : World} {p q N O y g : Nat} {ws : List Int} (h : Rm w p q N O y g ws) (i : Nat) (x : Int) : Rm (w.setCell ⟨q, i, none⟩ (.int .i64 x)) p q N O y g (ws.set i x) := by
  refine ⟨(Below.heap_setCell _ _ _ _ h.ne).trans h.hp, ?_, by rw [List.length_set]; exact h.hl, h.hN, h.hN', h.hO, h.hy, h.hg⟩
  have hq := h.hq
  simp only [World.setCell, Array.getElem?_modify, if_true, hq, Option.map_some]
  simp [List.map_set]
theorem Rm.setY {w : World} {p q N O y g : Nat} {ws : List Int} (h : Rm w p q N O y g ws) (z : Nat) (hz : z ≤ N) : Rm (w.setCell ⟨p, 2, none⟩ (.int .i64 z)) p q N O z g ws := by
  refine ⟨?_, (Below.heap_setCell _ _ _ _ h.ne.symm).trans h.hq, h.hl, h.hN, h.hN', h.hO, hz, h.hg⟩
  have hp := h.hp
  simp only [World.setCell, Array.getElem?_modify, if_true, hp, Option.map_some]
  simp
theorem Rm.setG {w : World} {p q N O y g : Nat} {ws : List Int} (h : Rm w p q N O y g ws) (z : Nat) (hz : z ≤ O) : Rm (w.setCell ⟨p, 3, none⟩ (.int .i64 z)) p q N O y z ws := by
  refine ⟨?_, (Below.heap_setCell _ _ _ _ h.ne.symm).trans h.hq, h.hl, h.hN, h.hN', h.hO, h.hy, hz⟩
  have hp := h.hp
  simp only [World.setCell, Array.getElem?_modify, if_true, hp, Option.map_some]
  simp

set_option maxRecDepth 100000 in
set_option maxHeartbeats 400000 in
theorem isYoung_any {p q N O y g : Nat} {ws : List Int} (a : Int) (w : World) (h : Rm w p q N O y g ws) :
    Calls Try.prog 29 #[.pointer (some ⟨p, 0, none⟩), .int .i64 a] w fun e w' => e = .returned (.bool (hB 0 y a)) ∧ Below w.heap.size w w' := by
  obtain ⟨c0, c1, c2, c3⟩ := h.cells
  by_cases h0 : 0 ≤ a
  · have e : hB 0 y a = decide (a < (y : Int)) := by simp [hB, h0]
    rw [e]
    clear e
    go_enter Try.func29, Try.ntmps29
    go_wp2_with fail
    go_ret
    exact ⟨rfl, Below.refl _ _⟩
  · have e : hB 0 y a = false := by simp [hB, h0]
    rw [e]
    clear e
    go_enter Try.func29, Try.ntmps29
    go_wp2_with fail
    go_ret
    exact ⟨rfl, Below.refl _ _⟩

set_option maxRecDepth 100000 in
set_option maxHeartbeats 400000 in
theorem isOld_any {p q N O y g : Nat} {ws : List Int} (a : Int) (w : World) (h : Rm w p q N O y g ws) (hm : a ≤ 9223372036854775807) :
    Calls Try.prog 30 #[.pointer (some ⟨p, 0, none⟩), .int .i64 a] w fun e w' => e = .returned (.bool (hB N g a)) ∧ Below w.heap.size w w' := by
  obtain ⟨c0, c1, c2, c3⟩ := h.cells
  have k1 := h.hN'
  by_cases h0 : (N : Int) ≤ a
  · have e : hB N g a = decide (a - (N : Int) < (g : Int)) := by
      unfold hB
      rw [decide_eq_decide]
      omega
    rw [e]
    clear e
    have hd : decide ((N : Int) ≤ a) = true := by simpa using h0
    go_enter Try.func30, Try.ntmps30
    go_wp2_with fail
    go_quiet (fail)
    go_wp2_with fail
    go_ret
    exact ⟨rfl, below_drewN (Below.refl _ _) _⟩
  · have e : hB N g a = false := by simp [hB, h0]
    rw [e]
    clear e
    have hd : decide ((N : Int) ≤ a) = false := by simpa using h0
    go_enter Try.func30, Try.ntmps30
    go_wp2_with fail
    go_quiet (fail)
    go_wp2_with fail
    go_ret
    exact ⟨rfl, below_drewN (Below.refl _ _) _⟩

set_option maxRecDepth 100000 in
set_option maxHeartbeats 400000 in
theorem rLoad_any {p q N O y g : Nat} {ws : List Int} (a : Int) (w : World) (h : Rm w p q N O y g ws) (hm : a ≤ 9223372036854775807) :
    Calls Try.prog 47 #[.pointer (some ⟨p, 0, none⟩), .int .i64 a] w fun e w' => e = .returned (.int .i64 (ld N y g ws a)) ∧ Below w.heap.size w w' := by
  cases hy : hB 0 y a
  · cases ho : hB N g a
    · have e : ld N y g ws a = 0 := by simp [ld, iB, hy, ho]
      rw [e]
      clear e
      have HY : Hid (hB 0 y a = false) := hy
      have HO : Hid (hB N g a = false) := ho
      clear hy ho
      go_enter Try.func47, Try.ntmps47
      go_wp2_with fail
      refine (isYoung_any a _ h).mono ?_
      rintro e w1 ⟨rfl, hb1⟩
      rw [HY.out]
      go_wp2_with fail
      refine (isOld_any a _ (h.below hb1 (Nat.le_refl _)) hm).mono ?_
      rintro e w2 ⟨rfl, hb2⟩
      rw [HO.out]
      go_wp2_with fail
      go_ret
      exact ⟨rfl, hb1.trans (hb2.mono hb1.size)⟩
    · have hi : iB N y g a = true := by simp [iB, ho]
      have e : ld N y g ws a = ws.getD a.toNat 0 := by simp [ld, hi]
      rw [e]
      clear e
      obtain ⟨d1, d2⟩ := iB_bd hi h.hy h.hg
      have HY : Hid (hB 0 y a = false) := hy
      have HO : Hid (hB N g a = true) := ho
      clear hy ho hi
      go_enter Try.func47, Try.ntmps47
      go_wp2_with fail
      refine (isYoung_any a _ h).mono ?_
      rintro e w1 ⟨rfl, hb1⟩
      rw [HY.out]
      go_wp2_with fail
      refine (isOld_any a _ (h.below hb1 (Nat.le_refl _)) hm).mono ?_
      rintro e w2 ⟨rfl, hb2⟩
      rw [HO.out]
      have h1 := (h.below hb1 (Nat.le_refl _)).below hb2 (Nat.le_refl _)
      obtain ⟨c0, c1, c2, c3⟩ := h1.cells
      have cw := h1.word a.toNat (by omega)
      have d3 : a < ((N + O : Nat) : Int) := by omega
      go_wp2_with fail
      go_ret
      exact ⟨rfl, hb1.trans (hb2.mono hb1.size)⟩
  · have hi : iB N y g a = true := by simp [iB, hy]
    have e : ld N y g ws a = ws.getD a.toNat 0 := by simp [ld, hi]
    rw [e]
    clear e
    obtain ⟨d1, d2⟩ := iB_bd hi h.hy h.hg
    have HY : Hid (hB 0 y a = true) := hy
    clear hy hi
    go_enter Try.func47, Try.ntmps47
    go_wp2_with fail
    refine (isYoung_any a _ h).mono ?_
    rintro e w1 ⟨rfl, hb1⟩
    rw [HY.out]
    have h1 := h.below hb1 (Nat.le_refl _)
    obtain ⟨c0, c1, c2, c3⟩ := h1.cells
    have cw := h1.word a.toNat (by omega)
    have d3 : a < ((N + O : Nat) : Int) := by omega
    go_wp2_with fail
    go_ret
    exact ⟨rfl, hb1⟩

set_option maxRecDepth 100000 in
set_option maxHeartbeats 400000 in
theorem rThing_any {p q N O y g : Nat} {ws : List Int} (a : Int) (w : World) (h : Rm w p q N O y g ws) (hm : a ≤ 9223372036854775807) :
    Calls Try.prog 42 #[.pointer (some ⟨p, 0, none⟩), .int .i64 a] w fun e w' => e = .returned (.tuple #[.int .i64 (pk (ld N y g ws a)), .int .i64 (pf (ld N y g ws a)), .int .i64 (pc (ld N y g ws a))]) ∧ Below w.heap.size w w' := by
  go_enter Try.func42, Try.ntmps42
  go_wp2_with fail
  refine (rLoad_any a _ h hm).mono ?_
  rintro e w1 ⟨rfl, hb1⟩
  go_wp2_with fail
  refine (partsOf_any _ _).mono ?_
  rintro e w2 ⟨rfl, rfl⟩
  go_wp2_with fail
  go_ret3
  exact ⟨rfl, hb1⟩

set_option maxRecDepth 100000 in
set_option maxHeartbeats 400000 in
theorem f_any (c a : Int) (w : World) :
    Calls Try.prog 65 #[.int .i64 c, .int .i64 a] w fun e w' => e = .returned (.agg #[.int .i64 c, .int .i64 a]) ∧ Below w.heap.size w w' := by
  go_enter Try.func65, Try.ntmps65
  go_wp2_with fail
  exact bodyPost_ret (v := .agg #[.int .i64 c, .int .i64 a]) (by simp [results, Try.results65, go_sem]) rfl ⟨rfl, (Below.refl _ _).alloc (Nat.le_refl _) _⟩

end Go.Proofs.Ytheiboniifijnaa
