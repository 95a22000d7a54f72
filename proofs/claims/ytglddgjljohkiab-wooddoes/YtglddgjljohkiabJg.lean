/- Joined: Rm, Rm2, Rm3, Rm4, Rm5. -/
import Derived.Test.YtglddgjljohkiabJb
import Derived.Test.YtglddgjljohkiabRef2
import Derived.Deep.RegionWith
import Derived.Test.YtglddgjljohkiabJc
/- The document's own arena (a Room) in memory: a struct of its own block, its words in another; what its functions that only look return: contracts, over the seat's own translation; nothing that was in memory turns. -/
namespace Go.Proofs.Ytglddgjljohkiab
open Go.RowKit W

/-- A room: its struct is the block p, its words the block q; N and O words of the nursery and the old space, y and g of them in use; the words are ws. -/
structure Rm (w : World) (p q N O y g : Nat) (ws : List Int) : Prop where
  hp : w.heap[p]? = some (.cells #[.slice (some ⟨q, 0, none⟩) (N + O) (N + O), .int .i64 N, .int .i64 y, .int .i64 g] 68 (0, 0))
  hq : w.heap[q]? = some (.cells (ws.map (Value.int .i64)).toArray 2 (0, 0))
  hl : ws.length = N + O
  hN : 16 ≤ N
  hN' : N ≤ 256
  hO : O ≤ 1024
  hy : y ≤ N
  hg : g ≤ O

theorem Rm.ltp {w : World} {p q N O y g : Nat} {ws : List Int} (h : Rm w p q N O y g ws) : p < w.heap.size := lt_of_some h.hp
theorem Rm.ltq {w : World} {p q N O y g : Nat} {ws : List Int} (h : Rm w p q N O y g ws) : q < w.heap.size := lt_of_some h.hq
theorem Rm.ne {w : World} {p q N O y g : Nat} {ws : List Int} (h : Rm w p q N O y g ws) : p ≠ q := by
  intro e
  have h1 := h.hp
  rw [e, h.hq] at h1
  simp at h1
theorem Rm.same {w w' : World} {p q N O y g : Nat} {ws : List Int} (h : Rm w p q N O y g ws) (ep : w'.heap[p]? = w.heap[p]?) (eq : w'.heap[q]? = w.heap[q]?) : Rm w' p q N O y g ws :=
  ⟨ep.trans h.hp, eq.trans h.hq, h.hl, h.hN, h.hN', h.hO, h.hy, h.hg⟩
theorem Rm.below {w w' : World} {p q N O y g B : Nat} {ws : List Int} (h : Rm w p q N O y g ws) (hb : Below B w w') (hB : w.heap.size ≤ B) : Rm w' p q N O y g ws :=
  h.same (hb.block p (Nat.lt_of_lt_of_le h.ltp hB)) (hb.block q (Nat.lt_of_lt_of_le h.ltq hB))
theorem Rm.alloc {w : World} {p q N O y g : Nat} {ws : List Int} (h : Rm w p q N O y g ws) (o : Obj) : Rm (w.alloc o) p q N O y g ws :=
  h.same (Below.heap_alloc _ _ _ h.ltp) (Below.heap_alloc _ _ _ h.ltq)
theorem Rm.drew {w : World} {p q N O y g : Nat} {ws : List Int} (h : Rm w p q N O y g ws) : Rm w.drew p q N O y g ws := h.same rfl rfl
theorem Rm.drewN {w : World} {p q N O y g : Nat} {ws : List Int} (h : Rm w p q N O y g ws) (n : Nat) : Rm (w.drewN n) p q N O y g ws := h.below (below_drewN (Below.refl w.heap.size w) n) (Nat.le_refl _)
theorem At.drewN {w : World} {p q N O y g : Nat} {ws : List Int} (h : At w p q N O y g ws) (n : Nat) : At (w.drewN n) p q N O y g ws := h.below (below_drewN (Below.refl w.heap.size w) n) (Nat.le_refl _)
theorem Rm.sv {w w' : World} {p q N O y g p' q' : Nat} {ws : List Int} (h : Rm w p q N O y g ws) (s : Sv p' q' w w') (h1 : p ≠ p') (h2 : p ≠ q') (h3 : q ≠ p') (h4 : q ≠ q') : Rm w' p q N O y g ws :=
  h.same (s.block p h.ltp h1 h2) (s.block q h.ltq h3 h4)
theorem Rm.cells {w : World} {p q N O y g : Nat} {ws : List Int} (h : Rm w p q N O y g ws) :
    w.cell? ⟨p, 0, none⟩ = some (.slice (some ⟨q, 0, none⟩) (N + O) (N + O)) ∧ w.cell? ⟨p, 1, none⟩ = some (.int .i64 N) ∧ w.cell? ⟨p, 2, none⟩ = some (.int .i64 y) ∧ w.cell? ⟨p, 3, none⟩ = some (.int .i64 g) := by
  have hp := h.hp
  refine ⟨?_, ?_, ?_, ?_⟩ <;> simp [World.cell?, hp]
theorem Rm.frozen {w : World} {p q N O y g : Nat} {ws : List Int} (h : Rm w p q N O y g ws) (o : Nat) : w.frozen? ⟨p, o, none⟩ = false := by
  have hp := h.hp
  simp [World.frozen?, hp]
theorem Rm.frozenq {w : World} {p q N O y g : Nat} {ws : List Int} (h : Rm w p q N O y g ws) (o : Nat) : w.frozen? ⟨q, o, none⟩ = false := by
  have hq := h.hq
  simp [World.frozen?, hq]
theorem Rm.word {w : World} {p q N O y g : Nat} {ws : List Int} (h : Rm w p q N O y g ws) (i : Nat) (hi : i < N + O) : w.cell? ⟨q, i, none⟩ = some (.int .i64 (ws.getD i 0)) := by
  have hq := h.hq
  have hl := h.hl
  simp [World.cell?, hq, List.getElem?_map, List.getElem?_eq_getElem (show i < ws.length by omega), List.getD_eq_getElem?_getD]
theorem Rm.set {w : World} {p q N O y g : Nat} {ws : List Int} (h : Rm w p q N O y g ws) (i : Nat) (x : Int) : Rm (w.setCell ⟨q, i, none⟩ (.int .i64 x)) p q N O y g (ws.set i x) := by
  refine ⟨(Below.heap_setCell _ _ _ _ h.ne).trans h.hp, ?_, by rw [List.length_set]; exact h.hl, h.hN, h.hN', h.hO, h.hy, h.hg⟩
  have hq := h.hq
  simp only [World.setCell, Array.getElem?_modify, if_true, hq, Option.map_some]
  simp [List.map_set]
theorem Rm.setY {w : World} {p q N O y g : Nat} {ws : List Int} (h : Rm w p q N O y g ws) (z : Nat) (hz : z ≤ N) : Rm (w.setCell ⟨p, 2, none⟩ (.int .i64 z)) p q N O z g ws := by
  refine ⟨?_, (Below.heap_setCell _ _ _ _ h.ne.symm).trans h.hq, h.hl, h.hN, h.hN', h.hO, hz, h.hg⟩
  have hp := h.hp
  simp only [World.setCell, Array.getElem?_modify, if_true, hp, Option.map_some]
  simp
theorem Rm.setG {w : World} {p q N O y g : Nat} {ws : List Int} (h : Rm w p q N O y g ws) (z : Nat) (hz : z ≤ O) : Rm (w.setCell ⟨p, 3, none⟩ (.int .i64 z)) p q N O y z ws := by
  refine ⟨?_, (Below.heap_setCell _ _ _ _ h.ne.symm).trans h.hq, h.hl, h.hN, h.hN', h.hO, h.hy, hz⟩
  have hp := h.hp
  simp only [World.setCell, Array.getElem?_modify, if_true, hp, Option.map_some]
  simp

set_option maxRecDepth 100000 in
set_option maxHeartbeats 400000 in
theorem isYoung_any {p q N O y g : Nat} {ws : List Int} (a : Int) (w : World) (h : Rm w p q N O y g ws) :
    Calls Try.prog 29 #[.pointer (some ⟨p, 0, none⟩), .int .i64 a] w fun e w' => e = .returned (.bool (hB 0 y a)) ∧ Below w.heap.size w w' := by
  obtain ⟨c0, c1, c2, c3⟩ := h.cells
  by_cases h0 : 0 ≤ a
  · have e : hB 0 y a = decide (a < (y : Int)) := by simp [hB, h0]
    rw [e]
    clear e
    go_enter Try.func29, Try.ntmps29
    go_wp2_with fail
    go_ret
    exact ⟨rfl, Below.refl _ _⟩
  · have e : hB 0 y a = false := by simp [hB, h0]
    rw [e]
    clear e
    go_enter Try.func29, Try.ntmps29
    go_wp2_with fail
    go_ret
    exact ⟨rfl, Below.refl _ _⟩

set_option maxRecDepth 100000 in
set_option maxHeartbeats 400000 in
theorem isOld_any {p q N O y g : Nat} {ws : List Int} (a : Int) (w : World) (h : Rm w p q N O y g ws) (hm : a ≤ 9223372036854775807) :
    Calls Try.prog 28 #[.pointer (some ⟨p, 0, none⟩), .int .i64 a] w fun e w' => e = .returned (.bool (hB N g a)) ∧ Below w.heap.size w w' := by
  obtain ⟨c0, c1, c2, c3⟩ := h.cells
  have k1 := h.hN'
  by_cases h0 : (N : Int) ≤ a
  · have e : hB N g a = decide (a - (N : Int) < (g : Int)) := by
      unfold hB
      rw [decide_eq_decide]
      omega
    rw [e]
    clear e
    have hd : decide ((N : Int) ≤ a) = true := by simpa using h0
    go_enter Try.func28, Try.ntmps28
    go_wp2_with fail
    go_quiet (fail)
    go_wp2_with fail
    go_ret
    exact ⟨rfl, below_drewN (Below.refl _ _) _⟩
  · have e : hB N g a = false := by simp [hB, h0]
    rw [e]
    clear e
    have hd : decide ((N : Int) ≤ a) = false := by simpa using h0
    go_enter Try.func28, Try.ntmps28
    go_wp2_with fail
    go_quiet (fail)
    go_wp2_with fail
    go_ret
    exact ⟨rfl, below_drewN (Below.refl _ _) _⟩

set_option maxRecDepth 100000 in
set_option maxHeartbeats 400000 in
theorem rLoad_any {p q N O y g : Nat} {ws : List Int} (a : Int) (w : World) (h : Rm w p q N O y g ws) (hm : a ≤ 9223372036854775807) :
    Calls Try.prog 68 #[.pointer (some ⟨p, 0, none⟩), .int .i64 a] w fun e w' => e = .returned (.int .i64 (ld N y g ws a)) ∧ Below w.heap.size w w' := by
  cases hy : hB 0 y a
  · cases ho : hB N g a
    · have e : ld N y g ws a = 0 := by simp [ld, iB, hy, ho]
      rw [e]
      clear e
      have HY : Hid (hB 0 y a = false) := hy
      have HO : Hid (hB N g a = false) := ho
      clear hy ho
      go_enter Try.func68, Try.ntmps68
      go_wp2_with fail
      refine (isYoung_any a _ h).mono ?_
      rintro e w1 ⟨rfl, hb1⟩
      rw [HY.out]
      go_wp2_with fail
      refine (isOld_any a _ (h.below hb1 (Nat.le_refl _)) hm).mono ?_
      rintro e w2 ⟨rfl, hb2⟩
      rw [HO.out]
      go_wp2_with fail
      go_ret
      exact ⟨rfl, hb1.trans (hb2.mono hb1.size)⟩
    · have hi : iB N y g a = true := by simp [iB, ho]
      have e : ld N y g ws a = ws.getD a.toNat 0 := by simp [ld, hi]
      rw [e]
      clear e
      obtain ⟨d1, d2⟩ := iB_bd hi h.hy h.hg
      have HY : Hid (hB 0 y a = false) := hy
      have HO : Hid (hB N g a = true) := ho
      clear hy ho hi
      go_enter Try.func68, Try.ntmps68
      go_wp2_with fail
      refine (isYoung_any a _ h).mono ?_
      rintro e w1 ⟨rfl, hb1⟩
      rw [HY.out]
      go_wp2_with fail
      refine (isOld_any a _ (h.below hb1 (Nat.le_refl _)) hm).mono ?_
      rintro e w2 ⟨rfl, hb2⟩
      rw [HO.out]
      have h1 := (h.below hb1 (Nat.le_refl _)).below hb2 (Nat.le_refl _)
      obtain ⟨c0, c1, c2, c3⟩ := h1.cells
      have cw := h1.word a.toNat (by omega)
      have d3 : a < ((N + O : Nat) : Int) := by omega
      go_wp2_with fail
      go_ret
      exact ⟨rfl, hb1.trans (hb2.mono hb1.size)⟩
  · have hi : iB N y g a = true := by simp [iB, hy]
    have e : ld N y g ws a = ws.getD a.toNat 0 := by simp [ld, hi]
    rw [e]
    clear e
    obtain ⟨d1, d2⟩ := iB_bd hi h.hy h.hg
    have HY : Hid (hB 0 y a = true) := hy
    clear hy hi
    go_enter Try.func68, Try.ntmps68
    go_wp2_with fail
    refine (isYoung_any a _ h).mono ?_
    rintro e w1 ⟨rfl, hb1⟩
    rw [HY.out]
    have h1 := h.below hb1 (Nat.le_refl _)
    obtain ⟨c0, c1, c2, c3⟩ := h1.cells
    have cw := h1.word a.toNat (by omega)
    have d3 : a < ((N + O : Nat) : Int) := by omega
    go_wp2_with fail
    go_ret
    exact ⟨rfl, hb1⟩

set_option maxRecDepth 100000 in
set_option maxHeartbeats 400000 in
theorem rThing_any {p q N O y g : Nat} {ws : List Int} (a : Int) (w : World) (h : Rm w p q N O y g ws) (hm : a ≤ 9223372036854775807) :
    Calls Try.prog 25 #[.pointer (some ⟨p, 0, none⟩), .int .i64 a] w fun e w' => e = .returned (.tuple #[.int .i64 (pk (ld N y g ws a)), .int .i64 (pf (ld N y g ws a)), .int .i64 (pc (ld N y g ws a))]) ∧ Below w.heap.size w w' := by
  go_enter Try.func25, Try.ntmps25
  go_wp2_with fail
  refine (rLoad_any a _ h hm).mono ?_
  rintro e w1 ⟨rfl, hb1⟩
  go_wp2_with fail
  refine (partsOf_any _ _).mono ?_
  rintro e w2 ⟨rfl, rfl⟩
  go_wp2_with fail
  go_ret3
  exact ⟨rfl, hb1⟩

set_option maxRecDepth 100000 in
set_option maxHeartbeats 400000 in
theorem f_any (c a : Int) (w : World) :
    Calls Try.prog 58 #[.int .i64 c, .int .i64 a] w fun e w' => e = .returned (.agg #[.int .i64 c, .int .i64 a]) ∧ Below w.heap.size w w' := by
  go_enter Try.func58, Try.ntmps58
  go_wp2_with fail
  exact bodyPost_ret (v := .agg #[.int .i64 c, .int .i64 a]) (by simp [results, Try.results58, go_sem]) rfl ⟨rfl, (Below.refl _ _).alloc (Nat.le_refl _) _⟩

end Go.Proofs.Ytglddgjljohkiab

/- What the document's own arena answers and leaves where it is made, and where a thing is made in it: contracts, over the seat's own translation; no block but the room's turns. -/
namespace Go.Proofs.Ytglddgjljohkiab
open Go.RowKit W

set_option maxRecDepth 100000 in
set_option maxHeartbeats 400000 in
theorem newRoom_any (n o : Nat) (w : World) (h0 : 16 ≤ n) (h1 : n ≤ 256) (h3 : o ≤ 1024) :
    Calls Try.prog 18 #[.int .i64 n, .int .i64 o] w fun e w' => ∃ p q, e = .returned (.pointer (some ⟨p, 0, none⟩)) ∧ Rm w' p q n o 0 0 (List.replicate (n + o) 0) ∧ w.heap.size ≤ p ∧ w.heap.size ≤ q ∧ Below w.heap.size w w' := by
  obtain ⟨i0, hi, hz0, hz1, hz2⟩ := info_parts info64A
  go_enter Try.func18, Try.ntmps18
  go_wp2_with (at_make; refine wpList_make_full _ rfl _ _ 23 rfl w.heap.size 2 i0 (.int .i64 0) 1 Try.underlying23 hi hz0 hz1 .i64 .i64 _ _ (n + o) rfl rfl (by omega) (by omega) (by rw [hz2]; omega) (by unfold maxLen; omega) (Nat.le_refl _) ?_; intro w1 hown hgrow)
  have hr := made_row hown
  have hlt := lt_of_some hr
  go_ret
  refine ⟨w1.heap.size, w.heap.size, rfl, ⟨heap_alloc_new _ _, (Below.heap_alloc _ _ _ hlt).trans hr, by simp, by omega, by omega, by omega, by omega, by omega⟩, by omega, by omega, ?_⟩
  exact ((Below.refl _ _).grown hgrow (Nat.le_refl _) (fun _ h => by cases h)).alloc (by omega) _

set_option maxRecDepth 100000 in
set_option maxHeartbeats 400000 in
theorem roomFault_yes (n o : Int) (w : World) (h0 : 16 ≤ n) (h1 : n ≤ 256) (h2 : 0 ≤ o) (h3 : o ≤ 1024) :
    Calls Try.prog 17 #[.int .i64 n, .int .i64 o] w fun e w' => e = .returned (.agg #[.int .i64 0, .int .i64 0]) ∧ Below w.heap.size w w' := by
  go_enter Try.func17, Try.ntmps17
  go_wp2_with fail
  exact bodyPost_ret (v := .agg #[.int .i64 0, .int .i64 0]) (by simp [results, Try.results17, go_sem]) rfl ⟨rfl, (Below.refl _ _).alloc (Nat.le_refl _) _⟩

set_option maxRecDepth 100000 in
set_option maxHeartbeats 400000 in
theorem roomFault_no (n o : Int) (w : World) (h : n < 16 ∨ 256 < n ∨ o < 0 ∨ 1024 < o) :
    Calls Try.prog 17 #[.int .i64 n, .int .i64 o] w fun e w' => e = .returned (.agg #[.int .i64 1, .int .i64 (-1)]) ∧ Below w.heap.size w w' := by
  have fin : ∀ (R : Ending → World → Prop), (∀ w1, Below (w.alloc (.cells #[.int .i64 0, .int .i64 0] 44)).heap.size (w.alloc (.cells #[.int .i64 0, .int .i64 0] 44)) w1 → R (.returned (.agg #[.int .i64 1, .int .i64 (-1)])) w1) → Calls Try.prog 58 #[.int .i64 1, .int .i64 (-1)] (w.alloc (.cells #[.int .i64 0, .int .i64 0] 44)) R := by
    intro R hR
    refine (f_any 1 (-1) _).mono ?_
    rintro e w1 ⟨rfl, hb⟩
    exact hR w1 hb
  by_cases h1 : n < 16
  · go_enter Try.func17, Try.ntmps17
    go_wp2_with fail
    refine fin _ ?_
    intro w1 hb
    obtain ⟨c0, c1, hz⟩ := cells2 hb
    obtain ⟨_, hf⟩ := bcell hb
    have f0 := hf w.heap.size 0 (by simp)
    have f1 := hf w.heap.size 1 (by simp)
    simp [go_sem] at f0 f1
    go_wp2_with fail
    exact bodyPost_ret (v := .agg #[.int .i64 1, .int .i64 (-1)]) (by simp [results, Try.results17, go_sem, c0, c1]) rfl ⟨rfl, ((((Below.refl _ _).alloc (Nat.le_refl _) _).trans (hb.mono (by simp))).setCell (Nat.le_refl _) _).setCell (Nat.le_refl _) _⟩
  by_cases h2 : 256 < n
  · go_enter Try.func17, Try.ntmps17
    go_wp2_with fail
    refine fin _ ?_
    intro w1 hb
    obtain ⟨c0, c1, hz⟩ := cells2 hb
    obtain ⟨_, hf⟩ := bcell hb
    have f0 := hf w.heap.size 0 (by simp)
    have f1 := hf w.heap.size 1 (by simp)
    simp [go_sem] at f0 f1
    go_wp2_with fail
    exact bodyPost_ret (v := .agg #[.int .i64 1, .int .i64 (-1)]) (by simp [results, Try.results17, go_sem, c0, c1]) rfl ⟨rfl, ((((Below.refl _ _).alloc (Nat.le_refl _) _).trans (hb.mono (by simp))).setCell (Nat.le_refl _) _).setCell (Nat.le_refl _) _⟩
  by_cases h3 : o < 0
  · go_enter Try.func17, Try.ntmps17
    go_wp2_with fail
    refine fin _ ?_
    intro w1 hb
    obtain ⟨c0, c1, hz⟩ := cells2 hb
    obtain ⟨_, hf⟩ := bcell hb
    have f0 := hf w.heap.size 0 (by simp)
    have f1 := hf w.heap.size 1 (by simp)
    simp [go_sem] at f0 f1
    go_wp2_with fail
    exact bodyPost_ret (v := .agg #[.int .i64 1, .int .i64 (-1)]) (by simp [results, Try.results17, go_sem, c0, c1]) rfl ⟨rfl, ((((Below.refl _ _).alloc (Nat.le_refl _) _).trans (hb.mono (by simp))).setCell (Nat.le_refl _) _).setCell (Nat.le_refl _) _⟩
  have h4 : 1024 < o := by omega
  go_enter Try.func17, Try.ntmps17
  go_wp2_with fail
  refine fin _ ?_
  intro w1 hb
  obtain ⟨c0, c1, hz⟩ := cells2 hb
  obtain ⟨_, hf⟩ := bcell hb
  have f0 := hf w.heap.size 0 (by simp)
  have f1 := hf w.heap.size 1 (by simp)
  simp [go_sem] at f0 f1
  go_wp2_with fail
  exact bodyPost_ret (v := .agg #[.int .i64 1, .int .i64 (-1)]) (by simp [results, Try.results17, go_sem, c0, c1]) rfl ⟨rfl, ((((Below.refl _ _).alloc (Nat.le_refl _) _).trans (hb.mono (by simp))).setCell (Nat.le_refl _) _).setCell (Nat.le_refl _) _⟩

set_option maxRecDepth 100000 in
set_option maxHeartbeats 1000000 in
theorem rMake_yes {p q N O y g : Nat} {ws : List Int} (k f : Int) (w : World) (h : Rm w p q N O y g ws) (hk : hc k f = 0) (hr : f + 1 ≤ (N : Int) - y) :
    Calls Try.prog 20 #[.pointer (some ⟨p, 0, none⟩), .int .i64 k, .int .i64 f] w fun e w' => e = .returned (.int .i64 y) ∧ Rm w' p q N O (y + 1 + f.toNat) g (fil ws y (hw k f) f.toNat) ∧ Sv p q w w' := by
  obtain ⟨_, _, f0, f1⟩ := hc_bd k f hk
  obtain ⟨f, rfl⟩ := Int.eq_ofNat_of_zero_le f0
  simp only [Int.toNat_natCast]
  have H : Hid (hc k f = 0) := hk
  clear hk
  have k1 := h.hN'
  have k2 := h.hy
  have k3 := h.hO
  have k4 := h.hg
  go_enter Try.func20, Try.ntmps20
  go_wp2_with fail
  refine (headOf_any k f _).mono ?_
  rintro e w1 ⟨rfl, rfl⟩
  rw [H.out]
  obtain ⟨c0, c1, c2, c3⟩ := h.cells
  have f2 := h.frozen 2
  have cw := h.word y (by omega)
  have cf := h.frozenq y
  have hpq := h.ne
  have b1 : (y : Int) < ((N + O : Nat) : Int) := by omega
  go_wp2_with fail
  go_quiet (fail)
  go_wp2_with fail
  go_loopw [10] (fun i wr => ∃ j : Nat, j ≤ f ∧ i = .int .i64 j ∧ Rm wr p q N O (y + 1 + f) g (fil ws y (hw k f) j) ∧ Sv p q w1 wr) (fun i _ => f - (intOf i).toNat)
  case atStart =>
    have e : (y : Int) + ((f : Int) + 1) = ((y + 1 + f : Nat) : Int) := by omega
    rw [e]
    exact ⟨0, Nat.zero_le _, rfl, ((h.drewN _).setY _ (by omega)).set _ _, (((Sv.refl _ _ _).drewN _).trans (Sv.setp _ _)).trans (Sv.setq _ _)⟩
  case round =>
    obtain ⟨j, hj, rfl, hA, hS⟩ := hrel
    clear c0 c1 c2 c3 cw cf f2
    obtain ⟨c0, c1, c2, c3⟩ := hA.cells
    by_cases hlt : j < f
    · have cw := hA.word (y + 1 + j) (by omega)
      have cf := hA.frozenq (y + 1 + j)
      have b2 : (y : Int) + 1 + j < ((N + O : Nat) : Int) := by omega
      go_wp2_with fail
      go_roundw
      case rel => exact ⟨j + 1, by omega, by go_num, hA.set _ _, hS.trans (Sv.setq _ _)⟩
      case measure => simp [intOf]; omega
    · go_wp2_with fail
      go_ret
      have e : j = f := by omega
      subst e
      exact ⟨rfl, hA, hS⟩

set_option maxRecDepth 100000 in
set_option maxHeartbeats 1000000 in
theorem rMake_no {p q N O y g : Nat} {ws : List Int} (k f : Int) (w : World) (h : Rm w p q N O y g ws) (hk : hc k f ≠ 0 ∨ (N : Int) - y < f + 1) :
    Calls Try.prog 20 #[.pointer (some ⟨p, 0, none⟩), .int .i64 k, .int .i64 f] w fun e w' => e = .returned (.int .i64 (-1)) ∧ Below w.heap.size w w' := by
  by_cases c : hc k f = 0
  · obtain ⟨_, _, f0, f1⟩ := hc_bd k f c
    have hr : (N : Int) - y < f + 1 := by
      rcases hk with e | e
      · exact absurd c e
      · exact e
    have H : Hid (hc k f = 0) := c
    clear c hk
    have k1 := h.hN'
    have k2 := h.hy
    go_enter Try.func20, Try.ntmps20
    go_wp2_with fail
    refine (headOf_any k f _).mono ?_
    rintro e w1 ⟨rfl, rfl⟩
    rw [H.out]
    obtain ⟨c0, c1, c2, c3⟩ := h.cells
    go_wp2_with fail
    go_quiet (fail)
    go_wp2_with fail
    go_ret
    exact ⟨rfl, below_drewN (Below.refl _ _) _⟩
  · have t : (hc k f != 0) = true := by simpa using c
    clear c hk
    go_enter Try.func20, Try.ntmps20
    go_wp2_with fail
    refine (headOf_any k f _).mono ?_
    rintro e w1 ⟨rfl, rfl⟩
    obtain ⟨c0, c1, c2, c3⟩ := h.cells
    go_wp2_with fail
    go_quiet (fail)
    go_wp2_with fail
    go_ret
    exact ⟨rfl, below_drewN (Below.refl _ _) _⟩

theorem rMake_any {p q N O y g : Nat} {ws : List Int} (k f : Int) (w : World) (h : Rm w p q N O y g ws) :
    Calls Try.prog 20 #[.pointer (some ⟨p, 0, none⟩), .int .i64 k, .int .i64 f] w fun e w' => e = .returned (.int .i64 (mkR N y k f)) ∧ Rm w' p q N O (mkY N y k f) g (mkW N y k f ws) ∧ Sv p q w w' := by
  unfold mkR mkY mkW
  cases hb : mkB N y k f
  · rw [if_neg (by simp), if_neg (by simp), if_neg (by simp)]
    exact (rMake_no k f w h (mkB_no hb)).mono fun e w' hx => ⟨hx.1, h.below hx.2 (Nat.le_refl _), Sv.of hx.2⟩
  · rw [if_pos rfl, if_pos rfl, if_pos rfl]
    exact rMake_yes k f w h (mkB_yes hb).1 (mkB_yes hb).2

end Go.Proofs.Ytglddgjljohkiab

/- What the document's own arena leaves where a thing is copied in it: a contract, over the seat's own translation; no block but the room's turns. -/
namespace Go.Proofs.Ytglddgjljohkiab
open Go.RowKit W

/-- The words with so many of them set, one by one, to others of the words as they were. -/
def cpy (ws : List Int) (t a : Nat) : Nat → List Int
  | 0 => ws
  | k + 1 => (cpy ws t a k).set (t + k) (ws.getD (a + k) 0)
theorem length_cpy (ws : List Int) (t a k : Nat) : (cpy ws t a k).length = ws.length := by
  induction k with
  | zero => rfl
  | succ k ih => simp [cpy, ih]
theorem cpy_get (ws : List Int) (t a k i : Nat) (h : t + k ≤ ws.length) : (cpy ws t a k).getD i 0 = if t ≤ i ∧ i < t + k then ws.getD (a + i - t) 0 else ws.getD i 0 := by
  induction k with
  | zero => rw [cpy, if_neg (by omega)]
  | succ k ih =>
    rw [cpy, getD_set _ _ _ _ (by rw [length_cpy]; omega), ih (by omega)]
    by_cases e : t + k = i
    · rw [if_pos e, if_pos (by omega), show a + k = a + i - t by omega]
    · rw [if_neg e]
      by_cases e2 : t ≤ i ∧ i < t + k
      · rw [if_pos e2, if_pos (by omega)]
      · rw [if_neg e2, if_neg (by omega)]
theorem ext_getD (l m : List Int) (hl : l.length = m.length) (h : ∀ i, l.getD i 0 = m.getD i 0) : l = m := by
  apply List.ext_getElem hl
  intro i h1 h2
  have := h i
  simpa [List.getD_eq_getElem?_getD, List.getElem?_eq_getElem h1, List.getElem?_eq_getElem h2] using this
theorem cpy_all (ws : List Int) (t a n : Nat) (h1 : t + n ≤ ws.length) (h2 : a + n ≤ ws.length) : cpy ws t a n = splice ws t ((ws.drop a).take n) := by
  have hl : ((ws.drop a).take n).length = n := by simp; omega
  apply ext_getD
  · rw [length_cpy, length_splice _ _ _ (by omega)]
  · intro i
    rw [cpy_get _ _ _ _ _ h1, Apart2.splice_get _ _ _ _ _ h1 h2]

/-- A place that is in use, and one of the same space that is as far behind it as one may be. -/
theorem in_young {N y g : Nat} {a : Int} (h : hB 0 y a = true) (hy : y ≤ N) : hB N g a = false ∧ endA N y g a = y := by
  have := hB_yes h
  refine ⟨by simp [hB]; omega, by unfold endA; rw [if_pos h]⟩
theorem in_old {N y g : Nat} {a : Int} (h : hB N g a = true) (hy : y ≤ N) : hB 0 y a = false ∧ endA N y g a = (N : Int) + g := by
  have := hB_yes h
  have e : hB 0 y a = false := by simp [hB]; omega
  refine ⟨e, by unfold endA; rw [if_neg (by simp [e])]⟩

set_option maxRecDepth 100000 in
set_option maxHeartbeats 1000000 in
theorem rCopy_no1 {p q N O y g : Nat} {ws : List Int} (a : Int) (w : World) (h : Rm w p q N O y g ws) (hm : a ≤ 9223372036854775807) (hp : pc (ld N y g ws a) ≠ 0) :
    Calls Try.prog 24 #[.pointer (some ⟨p, 0, none⟩), .int .i64 a] w fun e w' => e = .returned (.int .i64 (-1)) ∧ Below w.heap.size w w' := by
  have t : (pc (ld N y g ws a) != 0) = true := by simpa using hp
  clear hp
  have k1 := h.hN'
  have k2 := h.hg
  have k3 := h.hO
  go_enter Try.func24, Try.ntmps24
  go_wp2_with fail
  refine (rThing_any a _ h hm).mono ?_
  rintro e w1 ⟨rfl, hb1⟩
  obtain ⟨c0, c1, c2, c3⟩ := (h.below hb1 (Nat.le_refl _)).cells
  go_wp2_with fail
  go_quiet (fail)
  go_wp2_with fail
  go_ret
  exact ⟨rfl, below_drewN hb1 _⟩

set_option maxRecDepth 100000 in
set_option maxHeartbeats 1000000 in
theorem rCopy_no2 {p q N O y g : Nat} {ws : List Int} (a : Int) (w : World) (h : Rm w p q N O y g ws) (hm : a ≤ 9223372036854775807) (hp : pc (ld N y g ws a) = 0) (hr : (O : Int) - g < 1 + pf (ld N y g ws a)) :
    Calls Try.prog 24 #[.pointer (some ⟨p, 0, none⟩), .int .i64 a] w fun e w' => e = .returned (.int .i64 (-1)) ∧ Below w.heap.size w w' := by
  obtain ⟨f0, f1⟩ := pc_bd _ hp
  have HP : Hid (pc (ld N y g ws a) = 0) := hp
  clear hp
  have k1 := h.hN'
  have k2 := h.hg
  have k3 := h.hO
  go_enter Try.func24, Try.ntmps24
  go_wp2_with fail
  refine (rThing_any a _ h hm).mono ?_
  rintro e w1 ⟨rfl, hb1⟩
  rw [HP.out]
  obtain ⟨c0, c1, c2, c3⟩ := (h.below hb1 (Nat.le_refl _)).cells
  have h1 := (h.below hb1 (Nat.le_refl _))
  go_wp2_with fail
  go_quiet (fail)
  go_wp2_with fail
  go_ret
  exact ⟨rfl, below_drewN hb1 _⟩

end Go.Proofs.Ytglddgjljohkiab

/- What the document's own arena leaves where a whole thing is copied in it: a contract, over the seat's own translation; no block but the room's turns. -/
namespace Go.Proofs.Ytglddgjljohkiab
open Go.RowKit W

theorem Rm.src {w : World} {p q N O y g : Nat} {ws : List Int} (h : Rm w p q N O y g ws) (f n : Nat) (hf : f + n ≤ N + O) (j : Nat) (v : Value) (hv : (((ws.drop f).take n).map (Value.int .i64))[j]? = some v) :
    w.cell? ((⟨q, f, none⟩ : Addr).add j) = some v := by
  have hl := h.hl
  rw [List.getElem?_map] at hv
  obtain ⟨x, hx, rfl⟩ := Option.map_eq_some_iff.1 hv
  have hj : j < ((ws.drop f).take n).length := (List.getElem?_eq_some_iff.1 hx).1
  have hj' : j < n := by simp at hj; omega
  have := h.word (f + j) (by omega)
  rw [show ((⟨q, f, none⟩ : Addr).add j) = ⟨q, f + j, none⟩ by simp [Addr.add], this]
  rw [List.getElem?_take_of_lt hj', List.getElem?_drop] at hx
  simp [List.getD_eq_getElem?_getD, hx]

theorem drop_get (ws : List Int) (a n i : Nat) (hi : i < n) : ((ws.drop a).take n).getD i 0 = ws.getD (a + i) 0 := by
  simp only [List.getD_eq_getElem?_getD]
  rw [List.getElem?_take_of_lt hi, List.getElem?_drop]

set_option maxRecDepth 100000 in
set_option maxHeartbeats 2000000 in
theorem rCopy_yesY {p q N O y g : Nat} {ws : List Int} (a n : Nat) (w : World) (h : Rm w p q N O y g ws) (hp : pc (ld N y g ws a) = 0) (hf : pf (ld N y g ws a) = n) (hn : n ≤ 12) (hr : 1 + (n : Int) ≤ (O : Int) - g) (hs : hB 0 y a = true) (hE : a + n + 1 ≤ y) :
    Calls Try.prog 24 #[.pointer (some ⟨p, 0, none⟩), .int .i64 a] w fun e w' => e = .returned (.int .i64 (N + g : Nat)) ∧ Rm w' p q N O y (g + (1 + n)) (splice ws (N + g) ((ws.drop a).take (1 + n))) ∧ Sv p q w w' := by
  have HP : Hid (pc (ld N y g ws a) = 0) := hp
  have HF : Hid (pf (ld N y g ws a) = n) := hf
  have HS : Hid (hB 0 y a = true) := hs
  have HO : Hid (hB N g a = false) := (in_young hs h.hy).1
  clear hp hf hs
  have k1 := h.hN'
  have k2 := h.hg
  have k3 := h.hO
  have k4 := h.hy
  have hl := h.hl
  have lp := h.ltp
  have lq := h.ltq
  have hpq := h.ne
  obtain ⟨i0, hi, hz0, hz1, hz2⟩ := info_parts info64A
  go_enter Try.func24, Try.ntmps24
  go_wp2_with fail
  refine (rThing_any a _ h (by omega)).mono ?_
  rintro e w1 ⟨rfl, hb1⟩
  rw [HP.out, HF.out]
  obtain ⟨c0, c1, c2, c3⟩ := (h.below hb1 (Nat.le_refl _)).cells
  go_wp2_with fail
  go_quiet (fail)
  go_wp2_with fail
  go_loopw [9] (fun i wr => ∃ k : Nat, k ≤ n + 1 ∧ i = .int .i64 k ∧ Below w.heap.size w wr) (fun i _ => n + 1 - (intOf i).toNat)
  case atStart => exact ⟨0, Nat.zero_le _, rfl, below_drewN hb1 _⟩
  case round =>
    obtain ⟨k, hk, rfl, hBe⟩ := hrel
    clear c0 c1 c2 c3
    have hA := h.below hBe (Nat.le_refl _)
    by_cases hlt : k ≤ n
    · have HK : Hid (hB 0 y ((a : Int) + k) = true) := by show _ = _; simp [hB]; omega
      go_wp2_with fail
      refine (isYoung_any a _ hA).mono ?_
      rintro e w2 ⟨rfl, hb2⟩
      rw [HS.out]
      have hA2 := hA.below hb2 (Nat.le_refl _)
      go_wp2_with fail
      refine (isYoung_any _ _ hA2).mono ?_
      rintro e w3 ⟨rfl, hb3⟩
      rw [HK.out]
      have hA3 := hA2.below hb3 (Nat.le_refl _)
      go_wp2_with fail
      refine (isOld_any a _ hA3 (by omega)).mono ?_
      rintro e w4 ⟨rfl, hb4⟩
      rw [HO.out]
      go_wp2_with fail
      go_roundw
      case rel => exact ⟨k + 1, by omega, by go_num, ((hBe.trans (hb2.mono hBe.size)).trans (hb3.mono (Nat.le_trans hBe.size hb2.size))).trans (hb4.mono (Nat.le_trans hBe.size (Nat.le_trans hb2.size hb3.size)))⟩
      case measure => simp [intOf]; omega
    · obtain ⟨c0, c1, c2, c3⟩ := hA.cells
      have hne : ¬ (N + O = a) := by omega
      have hsz := hBe.size
      have hlen : ((ws.drop a).take (n + 1)).length = n + 1 := by simp; omega
      have HL : Hid (((ws.drop a).take (n + 1)).length = n + 1) := hlen
      clear hlen
      have f3 := hA.frozen 3
      go_wp2_with (at_builtin; refine wpList_append_own _ rfl _ _ 23 rfl wr.heap.size 2 i0 (.int .i64 0) 1 8 Try.underlying23 hi hz0 hz1 hz2 rfl (by decide) (.slice none 0 0) 0 [] ?_ (World.ownsRow_nil _ _ _ _) ⟨q, a, none⟩ (n + 1) (N + O - a) (((ws.drop a).take (n + 1)).map (Value.int .i64)) ?_ ?_ ?_ (ints_one _) ?_ ?_ ?_ ?_; (first | rfl | simp [Act.eval, Act.put]); (first | rfl | (simp [Act.eval]; omega) | simp [Act.eval]); (rw [List.length_map, HL.out]; simp); (intro j u hj; exact hA.src a (n + 1) (by omega) j u hj); (unfold maxLen; omega); omega; exact Nat.le_refl _; intro v w5 hown hgrow _; obtain ⟨bb, cap, ev, hbb, hcc⟩ := owned_cells (l := (ws.drop a).take (n + 1)) (by rw [List.nil_append, Nat.zero_add] at hown; exact hown) (Nat.succ_pos _); subst ev; have h5 : Rm w5 p q N O y g ws := hA.same (hgrow.block p (by omega) (by simp [Value.ownBlock])) (hgrow.block q (by omega) (by simp [Value.ownBlock])); obtain ⟨c0, c1, c2, c3⟩ := h5.cells; have f3 := h5.frozen 3; have CC : Hid (∀ i, i < n + 1 → w5.cell? ⟨bb, i, none⟩ = some (.int .i64 (((ws.drop a).take (n + 1)).getD i 0))) := hcc; have hB5 : Below w.heap.size w w5 := hBe.grown hgrow hsz (fun k e => by simp [Value.ownBlock] at e); clear hcc hown hgrow)
      have np : bb ≠ p := by omega
      have nq : bb ≠ q := by omega
      have e3 : (g : Int) + ((n : Int) + 1) = ((g + (1 + n) : Nat) : Int) := by omega
      go_loopw [11] (fun i wl => ∃ j : Nat, j ≤ n + 1 ∧ i = .int .i64 j ∧ Rm wl p q N O y (g + (1 + n)) (cpy ws (N + g) a j) ∧ (∀ i, i < n + 1 → wl.cell? ⟨bb, i, none⟩ = some (.int .i64 (((ws.drop a).take (n + 1)).getD i 0))) ∧ Sv p q w wl) (fun i _ => n + 1 - (intOf i).toNat)
      case atStart =>
        rw [e3]
        exact ⟨0, Nat.zero_le _, rfl, h5.setG _ (by omega), fun i hi => (World.cell?_of_block (a := ⟨bb, i, none⟩) (Below.heap_setCell _ _ _ _ np)).trans (CC.out i hi), (Sv.of hB5).trans (Sv.setp _ _)⟩
      case round =>
        clear c0 c1 c2 c3 f3 h5 hB5 e3
        obtain ⟨j, hj, rfl, hR, hcc, hS⟩ := hrel
        have CC : Hid (∀ i, i < n + 1 → wr.cell? ⟨bb, i, none⟩ = some (.int .i64 (((ws.drop a).take (n + 1)).getD i 0))) := hcc
        clear hcc
        obtain ⟨c0, c1, c2, c3⟩ := hR.cells
        by_cases hlt2 : j < n + 1
        · have x1 := CC.out j hlt2
          have cw := hR.word (N + g + j) (by omega)
          have cf := hR.frozenq (N + g + j)
          have b1 : (N : Int) + g + j < (N : Int) + O := by omega
          have b2 : (j : Int) < (n : Int) + 1 := by omega
          rw [drop_get _ _ _ _ hlt2] at x1
          have HS2 : Hid (cpy ws (N + g) a (j + 1) = (cpy ws (N + g) a j).set (N + g + j) (ws.getD (a + j) 0)) := rfl
          generalize ws.getD (a + j) 0 = v at x1 HS2
          generalize (cpy ws (N + g) a j).getD (N + g + j) 0 = v2 at cw
          go_wp2_with fail
          go_region
          all_goals
            go_wp2_with fail
            go_roundw
            case rel => exact ⟨j + 1, by omega, by go_num, by rw [HS2.out]; exact (hR.set _ _).drew, fun i hi => (World.cell?_of_block (a := ⟨bb, i, none⟩) (Below.heap_setCell _ _ _ _ nq)).trans (CC.out i hi), (hS.trans (Sv.setq _ _)).drew⟩
            case measure => simp [intOf]; omega
        · go_wp2_with fail
          go_ret
          obtain rfl : j = 1 + n := by omega
          rw [← cpy_all ws (N + g) a (1 + n) (by omega) (by omega)]
          exact ⟨by simp, hR, hS⟩

end Go.Proofs.Ytglddgjljohkiab

/- What the document's own arena leaves where it is asked to copy, whatever it is asked: a contract, over the seat's own translation; no block but the room's turns. -/
namespace Go.Proofs.Ytglddgjljohkiab
open Go.RowKit W

set_option maxRecDepth 100000 in
set_option maxHeartbeats 2000000 in
theorem rCopy_yesO {p q N O y g : Nat} {ws : List Int} (a n : Nat) (w : World) (h : Rm w p q N O y g ws) (hp : pc (ld N y g ws a) = 0) (hf : pf (ld N y g ws a) = n) (hn : n ≤ 12) (hr : 1 + (n : Int) ≤ (O : Int) - g) (hs : hB N g a = true) (hE : a + n + 1 ≤ N + g) :
    Calls Try.prog 24 #[.pointer (some ⟨p, 0, none⟩), .int .i64 a] w fun e w' => e = .returned (.int .i64 (N + g : Nat)) ∧ Rm w' p q N O y (g + (1 + n)) (splice ws (N + g) ((ws.drop a).take (1 + n))) ∧ Sv p q w w' := by
  have HP : Hid (pc (ld N y g ws a) = 0) := hp
  have HF : Hid (pf (ld N y g ws a) = n) := hf
  have HS : Hid (hB 0 y a = false) := (in_old hs h.hy).1
  have HO : Hid (hB N g a = true) := hs
  have hNa := (hB_yes hs).1
  clear hp hf hs
  have k1 := h.hN'
  have k2 := h.hg
  have k3 := h.hO
  have k4 := h.hy
  have hl := h.hl
  have lp := h.ltp
  have lq := h.ltq
  have hpq := h.ne
  obtain ⟨i0, hi, hz0, hz1, hz2⟩ := info_parts info64A
  go_enter Try.func24, Try.ntmps24
  go_wp2_with fail
  refine (rThing_any a _ h (by omega)).mono ?_
  rintro e w1 ⟨rfl, hb1⟩
  rw [HP.out, HF.out]
  obtain ⟨c0, c1, c2, c3⟩ := (h.below hb1 (Nat.le_refl _)).cells
  go_wp2_with fail
  go_quiet (fail)
  go_wp2_with fail
  go_loopw [9] (fun i wr => ∃ k : Nat, k ≤ n + 1 ∧ i = .int .i64 k ∧ Below w.heap.size w wr) (fun i _ => n + 1 - (intOf i).toNat)
  case atStart => exact ⟨0, Nat.zero_le _, rfl, below_drewN hb1 _⟩
  case round =>
    obtain ⟨k, hk, rfl, hBe⟩ := hrel
    clear c0 c1 c2 c3
    have hA := h.below hBe (Nat.le_refl _)
    by_cases hlt : k ≤ n
    · have HK : Hid (hB N g ((a : Int) + k) = true) := by show _ = _; simp [hB]; omega
      go_wp2_with fail
      refine (isYoung_any a _ hA).mono ?_
      rintro e w2 ⟨rfl, hb2⟩
      rw [HS.out]
      have hA2 := hA.below hb2 (Nat.le_refl _)
      go_wp2_with fail
      refine (isOld_any a _ hA2 (by omega)).mono ?_
      rintro e w3 ⟨rfl, hb3⟩
      rw [HO.out]
      have hA3 := hA2.below hb3 (Nat.le_refl _)
      go_wp2_with fail
      refine (isOld_any _ _ hA3 (by omega)).mono ?_
      rintro e w4 ⟨rfl, hb4⟩
      rw [HK.out]
      go_wp2_with fail
      go_roundw
      case rel => exact ⟨k + 1, by omega, by go_num, ((hBe.trans (hb2.mono hBe.size)).trans (hb3.mono (Nat.le_trans hBe.size hb2.size))).trans (hb4.mono (Nat.le_trans hBe.size (Nat.le_trans hb2.size hb3.size)))⟩
      case measure => simp [intOf]; omega
    · obtain ⟨c0, c1, c2, c3⟩ := hA.cells
      have hne : ¬ (N + O = a) := by omega
      have hsz := hBe.size
      have hlen : ((ws.drop a).take (n + 1)).length = n + 1 := by simp; omega
      have HL : Hid (((ws.drop a).take (n + 1)).length = n + 1) := hlen
      clear hlen
      have f3 := hA.frozen 3
      go_wp2_with (at_builtin; refine wpList_append_own _ rfl _ _ 23 rfl wr.heap.size 2 i0 (.int .i64 0) 1 8 Try.underlying23 hi hz0 hz1 hz2 rfl (by decide) (.slice none 0 0) 0 [] ?_ (World.ownsRow_nil _ _ _ _) ⟨q, a, none⟩ (n + 1) (N + O - a) (((ws.drop a).take (n + 1)).map (Value.int .i64)) ?_ ?_ ?_ (ints_one _) ?_ ?_ ?_ ?_; (first | rfl | simp [Act.eval, Act.put]); (first | rfl | (simp [Act.eval]; omega) | simp [Act.eval]); (rw [List.length_map, HL.out]; simp); (intro j u hj; exact hA.src a (n + 1) (by omega) j u hj); (unfold maxLen; omega); omega; exact Nat.le_refl _; intro v w5 hown hgrow _; obtain ⟨bb, cap, ev, hbb, hcc⟩ := owned_cells (l := (ws.drop a).take (n + 1)) (by rw [List.nil_append, Nat.zero_add] at hown; exact hown) (Nat.succ_pos _); subst ev; have h5 : Rm w5 p q N O y g ws := hA.same (hgrow.block p (by omega) (by simp [Value.ownBlock])) (hgrow.block q (by omega) (by simp [Value.ownBlock])); obtain ⟨c0, c1, c2, c3⟩ := h5.cells; have f3 := h5.frozen 3; have CC : Hid (∀ i, i < n + 1 → w5.cell? ⟨bb, i, none⟩ = some (.int .i64 (((ws.drop a).take (n + 1)).getD i 0))) := hcc; have hB5 : Below w.heap.size w w5 := hBe.grown hgrow hsz (fun k e => by simp [Value.ownBlock] at e); clear hcc hown hgrow)
      have np : bb ≠ p := by omega
      have nq : bb ≠ q := by omega
      have e3 : (g : Int) + ((n : Int) + 1) = ((g + (1 + n) : Nat) : Int) := by omega
      go_loopw [11] (fun i wl => ∃ j : Nat, j ≤ n + 1 ∧ i = .int .i64 j ∧ Rm wl p q N O y (g + (1 + n)) (cpy ws (N + g) a j) ∧ (∀ i, i < n + 1 → wl.cell? ⟨bb, i, none⟩ = some (.int .i64 (((ws.drop a).take (n + 1)).getD i 0))) ∧ Sv p q w wl) (fun i _ => n + 1 - (intOf i).toNat)
      case atStart =>
        rw [e3]
        exact ⟨0, Nat.zero_le _, rfl, h5.setG _ (by omega), fun i hi => (World.cell?_of_block (a := ⟨bb, i, none⟩) (Below.heap_setCell _ _ _ _ np)).trans (CC.out i hi), (Sv.of hB5).trans (Sv.setp _ _)⟩
      case round =>
        clear c0 c1 c2 c3 f3 h5 hB5 e3
        obtain ⟨j, hj, rfl, hR, hcc, hS⟩ := hrel
        have CC : Hid (∀ i, i < n + 1 → wr.cell? ⟨bb, i, none⟩ = some (.int .i64 (((ws.drop a).take (n + 1)).getD i 0))) := hcc
        clear hcc
        obtain ⟨c0, c1, c2, c3⟩ := hR.cells
        by_cases hlt2 : j < n + 1
        · have x1 := CC.out j hlt2
          have cw := hR.word (N + g + j) (by omega)
          have cf := hR.frozenq (N + g + j)
          have b1 : (N : Int) + g + j < (N : Int) + O := by omega
          have b2 : (j : Int) < (n : Int) + 1 := by omega
          rw [drop_get _ _ _ _ hlt2] at x1
          have HS2 : Hid (cpy ws (N + g) a (j + 1) = (cpy ws (N + g) a j).set (N + g + j) (ws.getD (a + j) 0)) := rfl
          generalize ws.getD (a + j) 0 = v at x1 HS2
          generalize (cpy ws (N + g) a j).getD (N + g + j) 0 = v2 at cw
          go_wp2_with fail
          go_region
          all_goals
            go_wp2_with fail
            go_roundw
            case rel => exact ⟨j + 1, by omega, by go_num, by rw [HS2.out]; exact (hR.set _ _).drew, fun i hi => (World.cell?_of_block (a := ⟨bb, i, none⟩) (Below.heap_setCell _ _ _ _ nq)).trans (CC.out i hi), (hS.trans (Sv.setq _ _)).drew⟩
            case measure => simp [intOf]; omega
        · go_wp2_with fail
          go_ret
          obtain rfl : j = 1 + n := by omega
          rw [← cpy_all ws (N + g) a (1 + n) (by omega) (by omega)]
          exact ⟨by simp, hR, hS⟩

set_option maxRecDepth 100000 in
set_option maxHeartbeats 2000000 in
theorem rCopy_cutY {p q N O y g : Nat} {ws : List Int} (a n : Nat) (w : World) (h : Rm w p q N O y g ws) (hp : pc (ld N y g ws a) = 0) (hf : pf (ld N y g ws a) = n) (hn : n ≤ 12) (hr : 1 + (n : Int) ≤ (O : Int) - g) (hs : hB 0 y a = true) (hE : y < a + n + 1) (hE' : a < y) :
    Calls Try.prog 24 #[.pointer (some ⟨p, 0, none⟩), .int .i64 a] w fun e w' => e = .returned (.int .i64 (-1)) ∧ Below w.heap.size w w' := by
  have HP : Hid (pc (ld N y g ws a) = 0) := hp
  have HF : Hid (pf (ld N y g ws a) = n) := hf
  have HS : Hid (hB 0 y a = true) := hs
  have HO : Hid (hB N g a = false) := (in_young hs h.hy).1
  clear hp hf hs
  have k1 := h.hN'
  have k2 := h.hg
  have k3 := h.hO
  have k4 := h.hy
  go_enter Try.func24, Try.ntmps24
  go_wp2_with fail
  refine (rThing_any a _ h (by omega)).mono ?_
  rintro e w1 ⟨rfl, hb1⟩
  rw [HP.out, HF.out]
  obtain ⟨c0, c1, c2, c3⟩ := (h.below hb1 (Nat.le_refl _)).cells
  go_wp2_with fail
  go_quiet (fail)
  go_wp2_with fail
  go_loopw [9] (fun i wr => ∃ k : Nat, k ≤ n ∧ a + k ≤ y ∧ i = .int .i64 k ∧ Below w.heap.size w wr) (fun i _ => n + 1 - (intOf i).toNat)
  case atStart => exact ⟨0, Nat.zero_le _, by omega, rfl, below_drewN hb1 _⟩
  case round =>
    obtain ⟨k, hk, hk2, rfl, hBe⟩ := hrel
    clear c0 c1 c2 c3
    have hA := h.below hBe (Nat.le_refl _)
    by_cases hlt : a + k < y
    · have HK : Hid (hB 0 y ((a : Int) + k) = true) := by show _ = _; simp [hB]; omega
      go_wp2_with fail
      refine (isYoung_any a _ hA).mono ?_
      rintro e w2 ⟨rfl, hb2⟩
      rw [HS.out]
      have hA2 := hA.below hb2 (Nat.le_refl _)
      go_wp2_with fail
      refine (isYoung_any _ _ hA2).mono ?_
      rintro e w3 ⟨rfl, hb3⟩
      rw [HK.out]
      have hA3 := hA2.below hb3 (Nat.le_refl _)
      go_wp2_with fail
      refine (isOld_any a _ hA3 (by omega)).mono ?_
      rintro e w4 ⟨rfl, hb4⟩
      rw [HO.out]
      go_wp2_with fail
      go_roundw
      case rel => exact ⟨k + 1, by omega, by omega, by go_num, ((hBe.trans (hb2.mono hBe.size)).trans (hb3.mono (Nat.le_trans hBe.size hb2.size))).trans (hb4.mono (Nat.le_trans hBe.size (Nat.le_trans hb2.size hb3.size)))⟩
      case measure => simp [intOf]; omega
    · have HK : Hid (hB 0 y ((a : Int) + k) = false) := by show _ = _; simp [hB]; omega
      go_wp2_with fail
      refine (isYoung_any a _ hA).mono ?_
      rintro e w2 ⟨rfl, hb2⟩
      rw [HS.out]
      have hA2 := hA.below hb2 (Nat.le_refl _)
      go_wp2_with fail
      refine (isYoung_any _ _ hA2).mono ?_
      rintro e w3 ⟨rfl, hb3⟩
      rw [HK.out]
      go_wp2_with fail
      go_ret
      exact ⟨rfl, (hBe.trans (hb2.mono hBe.size)).trans (hb3.mono (Nat.le_trans hBe.size hb2.size))⟩

set_option maxRecDepth 100000 in
set_option maxHeartbeats 2000000 in
theorem rCopy_cutO {p q N O y g : Nat} {ws : List Int} (a n : Nat) (w : World) (h : Rm w p q N O y g ws) (hp : pc (ld N y g ws a) = 0) (hf : pf (ld N y g ws a) = n) (hn : n ≤ 12) (hr : 1 + (n : Int) ≤ (O : Int) - g) (hs : hB N g a = true) (hE : N + g < a + n + 1) (hE' : a < N + g) :
    Calls Try.prog 24 #[.pointer (some ⟨p, 0, none⟩), .int .i64 a] w fun e w' => e = .returned (.int .i64 (-1)) ∧ Below w.heap.size w w' := by
  have HP : Hid (pc (ld N y g ws a) = 0) := hp
  have HF : Hid (pf (ld N y g ws a) = n) := hf
  have HS : Hid (hB 0 y a = false) := (in_old hs h.hy).1
  have HO : Hid (hB N g a = true) := hs
  have hNa := (hB_yes hs).1
  clear hp hf hs
  have k1 := h.hN'
  have k2 := h.hg
  have k3 := h.hO
  have k4 := h.hy
  go_enter Try.func24, Try.ntmps24
  go_wp2_with fail
  refine (rThing_any a _ h (by omega)).mono ?_
  rintro e w1 ⟨rfl, hb1⟩
  rw [HP.out, HF.out]
  obtain ⟨c0, c1, c2, c3⟩ := (h.below hb1 (Nat.le_refl _)).cells
  go_wp2_with fail
  go_quiet (fail)
  go_wp2_with fail
  go_loopw [9] (fun i wr => ∃ k : Nat, k ≤ n ∧ a + k ≤ N + g ∧ i = .int .i64 k ∧ Below w.heap.size w wr) (fun i _ => n + 1 - (intOf i).toNat)
  case atStart => exact ⟨0, Nat.zero_le _, by omega, rfl, below_drewN hb1 _⟩
  case round =>
    obtain ⟨k, hk, hk2, rfl, hBe⟩ := hrel
    clear c0 c1 c2 c3
    have hA := h.below hBe (Nat.le_refl _)
    by_cases hlt : a + k < N + g
    · have HK : Hid (hB N g ((a : Int) + k) = true) := by show _ = _; simp [hB]; omega
      go_wp2_with fail
      refine (isYoung_any a _ hA).mono ?_
      rintro e w2 ⟨rfl, hb2⟩
      rw [HS.out]
      have hA2 := hA.below hb2 (Nat.le_refl _)
      go_wp2_with fail
      refine (isOld_any a _ hA2 (by omega)).mono ?_
      rintro e w3 ⟨rfl, hb3⟩
      rw [HO.out]
      have hA3 := hA2.below hb3 (Nat.le_refl _)
      go_wp2_with fail
      refine (isOld_any _ _ hA3 (by omega)).mono ?_
      rintro e w4 ⟨rfl, hb4⟩
      rw [HK.out]
      go_wp2_with fail
      go_roundw
      case rel => exact ⟨k + 1, by omega, by omega, by go_num, ((hBe.trans (hb2.mono hBe.size)).trans (hb3.mono (Nat.le_trans hBe.size hb2.size))).trans (hb4.mono (Nat.le_trans hBe.size (Nat.le_trans hb2.size hb3.size)))⟩
      case measure => simp [intOf]; omega
    · have HK : Hid (hB N g ((a : Int) + k) = false) := by show _ = _; simp [hB]; omega
      go_wp2_with fail
      refine (isYoung_any a _ hA).mono ?_
      rintro e w2 ⟨rfl, hb2⟩
      rw [HS.out]
      have hA2 := hA.below hb2 (Nat.le_refl _)
      go_wp2_with fail
      refine (isOld_any a _ hA2 (by omega)).mono ?_
      rintro e w3 ⟨rfl, hb3⟩
      rw [HO.out]
      have hA3 := hA2.below hb3 (Nat.le_refl _)
      go_wp2_with fail
      refine (isOld_any _ _ hA3 (by omega)).mono ?_
      rintro e w4 ⟨rfl, hb4⟩
      rw [HK.out]
      go_wp2_with fail
      go_ret
      exact ⟨rfl, ((hBe.trans (hb2.mono hBe.size)).trans (hb3.mono (Nat.le_trans hBe.size hb2.size))).trans (hb4.mono (Nat.le_trans hBe.size (Nat.le_trans hb2.size hb3.size)))⟩

theorem rCopy_any {p q N O y g : Nat} {ws : List Int} (a : Int) (w : World) (h : Rm w p q N O y g ws) (hm : a ≤ 9223372036854775807) :
    Calls Try.prog 24 #[.pointer (some ⟨p, 0, none⟩), .int .i64 a] w fun e w' => e = .returned (.int .i64 (cpR N O y g ws a)) ∧ Rm w' p q N O y (cpG N O y g ws a) (cpW N O y g ws a) ∧ Sv p q w w' := by
  have no : cpB N O y g ws a = false → (Calls Try.prog 24 #[.pointer (some ⟨p, 0, none⟩), .int .i64 a] w fun e w' => e = .returned (.int .i64 (-1)) ∧ Below w.heap.size w w') → Calls Try.prog 24 #[.pointer (some ⟨p, 0, none⟩), .int .i64 a] w fun e w' => e = .returned (.int .i64 (cpR N O y g ws a)) ∧ Rm w' p q N O y (cpG N O y g ws a) (cpW N O y g ws a) ∧ Sv p q w w' := by
    intro hb hc
    unfold cpR cpG cpW
    rw [hb, if_neg (by simp), if_neg (by simp), if_neg (by simp)]
    exact hc.mono fun e w' hx => ⟨hx.1, h.below hx.2 (Nat.le_refl _), Sv.of hx.2⟩
  by_cases hp : pc (ld N y g ws a) = 0
  · obtain ⟨f0, f1⟩ := pc_bd _ hp
    by_cases hr : 1 + pf (ld N y g ws a) ≤ (O : Int) - g
    · have hi := pc_iB hp
      obtain ⟨d1, d2⟩ := iB_bd hi h.hy h.hg
      obtain ⟨a, rfl⟩ := Int.eq_ofNat_of_zero_le d1
      obtain ⟨n, hn⟩ := Int.eq_ofNat_of_zero_le f0
      rw [hn] at hr f1
      cases hy : hB 0 y a
      · have ho : hB N g a = true := by
          unfold iB at hi
          rw [hy] at hi
          simpa using hi
        have he := (in_old ho h.hy).2
        by_cases hE : a + n + 1 ≤ N + g
        · have hb : cpB N O y g ws a = true := by simp [cpB, hp, hn, he]; omega
          unfold cpR cpG cpW
          rw [hb, if_pos rfl, if_pos rfl, if_pos rfl, hn, Int.toNat_natCast, Int.toNat_natCast]
          exact rCopy_yesO a n w h hp hn (by omega) hr ho hE
        · exact no (by simp [cpB, hp, hn, he]; omega) (rCopy_cutO a n w h hp hn (by omega) hr ho (by omega) (by have := hB_yes ho; omega))
      · have he := (in_young (g := g) hy h.hy).2
        by_cases hE : a + n + 1 ≤ y
        · have hb : cpB N O y g ws a = true := by simp [cpB, hp, hn, he]; omega
          unfold cpR cpG cpW
          rw [hb, if_pos rfl, if_pos rfl, if_pos rfl, hn, Int.toNat_natCast, Int.toNat_natCast]
          exact rCopy_yesY a n w h hp hn (by omega) hr hy hE
        · exact no (by simp [cpB, hp, hn, he]; omega) (rCopy_cutY a n w h hp hn (by omega) hr hy (by omega) (by have := hB_yes hy; omega))
    · exact no (by simp [cpB, hp]; omega) (rCopy_no2 a w h hm hp (by omega))
  · exact no (by simp [cpB, hp]) (rCopy_no1 a w h hm hp)

end Go.Proofs.Ytglddgjljohkiab
