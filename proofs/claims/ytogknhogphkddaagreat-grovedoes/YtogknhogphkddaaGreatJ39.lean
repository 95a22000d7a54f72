/- Joined: Wo6, Hn1, Gn1, Gl1, Ref, Ref2, Rm, Rm2, Gd1. -/
import Derived.Test.YtogknhogphkddaaGreatJ38
import Derived.Test.YtogknhogphkddaaGreatJ30
import Derived.Test.YtogknhogphkddaaGreatJ33
import Derived.Test.YtogknhogphkddaaGreatJ29
import Derived.Test.YtogknhogphkddaaGreatJ01
import Derived.Test.YtogknhogphkddaaGreatJ03
import Derived.Deep.RegionWith
import Derived.Test.YtogknhogphkddaaGreatJ37
/- A wood: New that is refused: a contract. -/
namespace Go.Proofs.YtogknhogphkddaaGreat
open Go.RowKit W

set_option maxRecDepth 100000 in
set_option maxHeartbeats 1000000 in
theorem newW_no (n o : Int) (w : World) (h : n < 16 ∨ 256 < n ∨ o < 0 ∨ 1024 < o) :
    Calls Tryz.prog 35 #[.int .i64 n, .int .i64 o] w fun e w' => e = .returned (.tuple #[.pointer none, .agg #[.int .i64 1, .int .i64 (-1)]]) ∧ Below w.heap.size w w' := by
  have hba := (Below.refl w.heap.size w).alloc (Nat.le_refl _) (.cells #[.int .i64 0, .int .i64 0] 26)
  have hr0 := heap_alloc_new w (.cells #[.int .i64 0, .int .i64 0] 26)
  have P := new_no n o (w.alloc (.cells #[.int .i64 0, .int .i64 0] 26)) h
  clear h
  go_enter Tryz.func35, Tryz.ntmps35
  go_wp2_with fail
  refine P.mono ?_
  clear P
  rintro e w1 ⟨rfl, hb1⟩
  have hr1 := (hb1.block w.heap.size (by simp)).trans hr0
  have hB1 := hba.trans (hb1.mono (by simp))
  have hs1 := hb1.size
  simp at hs1
  have y0 : w1.cell? ⟨w.heap.size, 0, none⟩ = some (.int .i64 0) := by simp [World.cell?, hr1]
  have y1 : w1.cell? ⟨w.heap.size, 1, none⟩ = some (.int .i64 0) := by simp [World.cell?, hr1]
  have f0 : w1.frozen? ⟨w.heap.size, 0, none⟩ = false := by simp [World.frozen?, hr1]
  have f1 : w1.frozen? ⟨w.heap.size, 1, none⟩ = false := by simp [World.frozen?, hr1]
  have l1 : w.heap.size < w1.heap.size := by omega
  have hne : ¬ w.heap.size = w1.heap.size := by omega
  have hne2 : ¬ w1.heap.size = w.heap.size := by omega
  clear hb1 hr0 hba hr1
  go_wp2_with fail
  go_region_law (fail)
  all_goals
    obtain ⟨W0, hW0⟩ : ∃ W0, W0 = (w1.setCell ⟨w.heap.size, 0, none⟩ (.int .i64 1)).setCell ⟨w.heap.size, 1, none⟩ (.int .i64 (-1)) := ⟨_, rfl⟩
    rw [← hW0]
    have sz0 : W0.heap.size = w1.heap.size := by rw [hW0]; simp [World.setCell]
    have g0 : W0.cell? ⟨w.heap.size, 0, none⟩ = some (.int .i64 1) := by
      rw [hW0, World.cell?_setCell_other _ _ _ _ (by simp)]
      exact World.cell?_setCell_same _ _ _ y0
    have g1 : W0.cell? ⟨w.heap.size, 1, none⟩ = some (.int .i64 (-1)) := by
      rw [hW0]
      exact World.cell?_setCell_same _ _ _ ((World.cell?_setCell_other w1 ⟨w.heap.size, 0, none⟩ ⟨w.heap.size, 1, none⟩ _ (by simp)).trans y1)
    have hF0 : Below w.heap.size w W0 := by
      rw [hW0]
      exact hB1.trans ((((Fr.refl (fun k => k = w.heap.size) w1).set w.heap.size 0 _ rfl).set w.heap.size 1 _ rfl).below (Nat.le_of_lt l1) (fun x e => by have e : x = w.heap.size := e; omega))
    have hbN := ((Below.refl W0.heap.size W0).alloc (Nat.le_refl _) (.cells #[.int .i64 1, .int .i64 (-1)] 26)).drew
    have r0 := (hbN.cell (p := ⟨w.heap.size, 0, none⟩) (by show w.heap.size < _; omega)).trans g0
    have r1 := (hbN.cell (p := ⟨w.heap.size, 1, none⟩) (by show w.heap.size < _; omega)).trans g1
    have hfin := hF0.trans (hbN.mono (by omega))
    clear y0 y1 f0 f1 hW0 hbN g0 g1
    generalize (W0.alloc (.cells #[.int .i64 1, .int .i64 (-1)] 26)).drew = WF at *
    go_wp2_with fail
    refine bodyPost_ret (v := .tuple #[.pointer none, .agg #[.int .i64 1, .int .i64 (-1)]]) (by simp [results, Tryz.results35, go_sem, r0, r1]) rfl ⟨rfl, hfin⟩

end Go.Proofs.YtogknhogphkddaaGreat

/- A heap: New: contracts of what it tells. -/
namespace Go.Proofs.YtogknhogphkddaaGreat
open Go.RowKit W Kp Stl

set_option maxRecDepth 100000 in
set_option maxHeartbeats 1000000 in
theorem newH_no (n o : Int) (w : World) (h : n < 16 ∨ 256 < n ∨ o < 0 ∨ 1024 < o) :
    Calls Tryz.prog 15 #[.int .i64 n, .int .i64 o] w fun e w' => e = .returned (.tuple #[.pointer none, .agg #[.int .i64 1, .int .i64 (-1)]]) ∧ Below w.heap.size w w' := by
  have hba := (Below.refl w.heap.size w).alloc (Nat.le_refl _) (.cells #[.int .i64 0, .int .i64 0] 26)
  have hr0 := heap_alloc_new w (.cells #[.int .i64 0, .int .i64 0] 26)
  have P := newW_no n o (w.alloc (.cells #[.int .i64 0, .int .i64 0] 26)) h
  clear h
  go_enter Tryz.func15, Tryz.ntmps15
  go_wp2_with fail
  refine P.mono ?_
  clear P
  rintro e w1 ⟨rfl, hb1⟩
  have hr1 := (hb1.block w.heap.size (by simp)).trans hr0
  have hB1 := hba.trans (hb1.mono (by simp))
  have hs1 := hb1.size
  simp at hs1
  have y0 : w1.cell? ⟨w.heap.size, 0, none⟩ = some (.int .i64 0) := by simp [World.cell?, hr1]
  have y1 : w1.cell? ⟨w.heap.size, 1, none⟩ = some (.int .i64 0) := by simp [World.cell?, hr1]
  have f0 : w1.frozen? ⟨w.heap.size, 0, none⟩ = false := by simp [World.frozen?, hr1]
  have f1 : w1.frozen? ⟨w.heap.size, 1, none⟩ = false := by simp [World.frozen?, hr1]
  have l1 : w.heap.size < w1.heap.size := by omega
  have hne : ¬ w.heap.size = w1.heap.size := by omega
  have hne2 : ¬ w1.heap.size = w.heap.size := by omega
  clear hb1 hr0 hba hr1
  go_wp2_with fail
  go_region_law (fail)
  all_goals
    obtain ⟨W0, hW0⟩ : ∃ W0, W0 = (w1.setCell ⟨w.heap.size, 0, none⟩ (.int .i64 1)).setCell ⟨w.heap.size, 1, none⟩ (.int .i64 (-1)) := ⟨_, rfl⟩
    rw [← hW0]
    have sz0 : W0.heap.size = w1.heap.size := by rw [hW0]; simp [World.setCell]
    have g0 : W0.cell? ⟨w.heap.size, 0, none⟩ = some (.int .i64 1) := by
      rw [hW0, World.cell?_setCell_other _ _ _ _ (by simp)]
      exact World.cell?_setCell_same _ _ _ y0
    have g1 : W0.cell? ⟨w.heap.size, 1, none⟩ = some (.int .i64 (-1)) := by
      rw [hW0]
      exact World.cell?_setCell_same _ _ _ ((World.cell?_setCell_other w1 ⟨w.heap.size, 0, none⟩ ⟨w.heap.size, 1, none⟩ _ (by simp)).trans y1)
    have hF0 : Below w.heap.size w W0 := by
      rw [hW0]
      exact hB1.trans ((((Fr.refl (fun k => k = w.heap.size) w1).set w.heap.size 0 _ rfl).set w.heap.size 1 _ rfl).below (Nat.le_of_lt l1) (fun x e => by have e : x = w.heap.size := e; omega))
    have hbN := ((Below.refl W0.heap.size W0).alloc (Nat.le_refl _) (.cells #[.int .i64 1, .int .i64 (-1)] 26)).drew
    have r0 := (hbN.cell (p := ⟨w.heap.size, 0, none⟩) (by show w.heap.size < _; omega)).trans g0
    have r1 := (hbN.cell (p := ⟨w.heap.size, 1, none⟩) (by show w.heap.size < _; omega)).trans g1
    have hfin := hF0.trans (hbN.mono (by omega))
    clear y0 y1 f0 f1 hW0 hbN g0 g1
    generalize (W0.alloc (.cells #[.int .i64 1, .int .i64 (-1)] 26)).drew = WF at *
    go_wp2_with fail
    refine bodyPost_ret (v := .tuple #[.pointer none, .agg #[.int .i64 1, .int .i64 (-1)]]) (by simp [results, Tryz.results15, go_sem, r0, r1]) rfl ⟨rfl, hfin⟩

set_option maxRecDepth 100000 in
set_option maxHeartbeats 2000000 in
theorem newHs_yes (n o : Nat) (w : World) (h0 : 16 ≤ n) (h1 : n ≤ 256) (h3 : o ≤ 1024) :
    Calls Tryz.prog 15 #[.int .i64 n, .int .i64 o] w fun e w' => ∃ hp, e = .returned (.tuple #[.pointer (some ⟨hp, 0, none⟩), .agg #[.int .i64 0, .int .i64 0]]) ∧ Below w.heap.size w w' := by
  have hba0 := (Below.refl w.heap.size w).alloc (Nat.le_refl _) (.cells #[.int .i64 0, .int .i64 0] 26)
  have P := newW_yes n o (w.alloc (.cells #[.int .i64 0, .int .i64 0] 26)) h0 h1 h3
  have hf0 := heap_alloc_new w (.cells #[.int .i64 0, .int .i64 0] 26)
  have lf0 : w.heap.size < (w.alloc (.cells #[.int .i64 0, .int .i64 0] 26)).heap.size := by simp
  have HB0 : Hid (Below w.heap.size w (w.alloc (.cells #[.int .i64 0, .int .i64 0] 26))) := hba0
  clear hba0
  go_enter Tryz.func15, Tryz.ntmps15
  go_wp2_with fail
  generalize w.alloc (.cells #[.int .i64 0, .int .i64 0] 26) = w0 at *
  generalize hfb : w.heap.size = fb at *
  refine P.mono ?_
  clear P
  rintro e w1 ⟨pw, p, q, pc, pq, s, nb, rfl, hW, hs, hr, hg, hb1⟩
  have hfw := (hb1.block fb lf0).trans hf0
  have y0 : w1.cell? ⟨fb, 0, none⟩ = some (.int .i64 0) := by simp [World.cell?, hfw]
  have y1 : w1.cell? ⟨fb, 1, none⟩ = some (.int .i64 0) := by simp [World.cell?, hfw]
  have z0 : w1.frozen? ⟨fb, 0, none⟩ = false := by simp [World.frozen?, hfw]
  have z1 : w1.frozen? ⟨fb, 1, none⟩ = false := by simp [World.frozen?, hfw]
  have lw1 : fb < w1.heap.size := lt_of_some hfw
  have HJ : Hid (Below fb w w1) := HB0.out.trans (hb1.mono (by omega))
  clear hW hs hr hg hb1 hf0 HB0 hfw
  go_wp2_with fail
  obtain ⟨W1, hW1⟩ : ∃ W1, W1 = (w1.setCell ⟨fb, 0, none⟩ (.int .i64 0)).setCell ⟨fb, 1, none⟩ (.int .i64 0) := ⟨_, rfl⟩
  rw [← hW1]
  have v0 : W1.cell? ⟨fb, 0, none⟩ = some (.int .i64 0) := by
    rw [hW1, World.cell?_setCell_other _ _ _ _ (by simp)]
    exact World.cell?_setCell_same _ _ _ y0
  have v1 : W1.cell? ⟨fb, 1, none⟩ = some (.int .i64 0) := by
    rw [hW1]
    exact World.cell?_setCell_same _ _ _ ((World.cell?_setCell_other w1 ⟨fb, 0, none⟩ ⟨fb, 1, none⟩ _ (by simp)).trans y1)
  have hF : Fr (fun k => k = fb) w1 W1 := by rw [hW1]; exact ((Fr.refl (fun k => k = fb) w1).set fb 0 _ rfl).set fb 1 _ rfl
  have hsz : W1.heap.size = w1.heap.size := by rw [hW1]; simp
  clear hW1
  have hba := ((Below.refl W1.heap.size W1).alloc (Nat.le_refl _) (.cells #[.int .i64 0, .int .i64 0] 26)).alloc (by simp) (.cells #[.pointer (some ⟨pw, 0, none⟩)] 91)
  have g0 := (hba.cell (p := ⟨fb, 0, none⟩) (by show fb < _; omega)).trans v0
  have g1 := (hba.cell (p := ⟨fb, 1, none⟩) (by show fb < _; omega)).trans v1
  have hbW : Below fb w W1 := HJ.out.trans (hF.below (Nat.le_of_lt lw1) (fun k e => Nat.le_of_eq (Eq.symm e)))
  exact bodyPost_ret (v := .tuple #[.pointer (some ⟨w1.heap.size + 1, 0, none⟩), .agg #[.int .i64 0, .int .i64 0]]) (by simp only [results, Tryz.results15]; simp [go_sem, g0, g1]) rfl ⟨w1.heap.size + 1, rfl, by rw [hfb]; exact hbW.trans (hba.mono (by omega))⟩

end Go.Proofs.YtogknhogphkddaaGreat

/- A grove: New: contracts. -/
namespace Go.Proofs.YtogknhogphkddaaGreat
open Go.RowKit W Kp Stl

def ws0 : Wrs := ⟨[], List.replicate 12 (0, 0), [], []⟩

theorem mh_new {w : World} {b : Nat} (h : w.heap[b]? = some (.map #[] 0)) : Mh w b 0 (fun _ => none) := by
  obtain ⟨D, ⟨es, clock, hb, r⟩, hD⟩ := Mh.made w
  rw [heap_alloc_new] at hb
  cases hb
  exact ⟨D, ⟨#[], 0, h, r⟩, hD⟩
theorem gvF_nil (fm : Fm) : gvF [] fm = fun _ => none := by
  funext x
  refine gvF_no (fun h => ?_)
  have := h.2.1
  simp at this

theorem gv_start {w : World} {gp mb bp rb : Nat} {n o : Int} (hg : w.heap[gp]? = some (.cells #[.int .i64 n, .int .i64 o, .map (some mb), .int .i64 0, .int .i64 0, .pointer (some ⟨bp, 0, none⟩), .slice (some ⟨rb, 0, none⟩) 12 12] 56 (0, 0)))
    (hm : w.heap[mb]? = some (.map #[] 0)) (hb : w.heap[bp]? = some (.cells #[.slice none 0 0, .slice none 0 0] 51 (0, 0))) (hr : w.heap[rb]? = some (.cells (ev (List.replicate 12 (0, 0))).toArray 54 (0, 0))) :
    (grO gp n o rb).J (fun b => b = gp ∨ b = mb ∨ b = bp ∨ b = rb) ws0 w := by
  have n1 : gp ≠ mb := fun e => by rw [e, hm] at hg; cases hg
  have n2 : gp ≠ bp := fun e => by rw [e, hb] at hg; simp at hg
  have n3 : gp ≠ rb := fun e => by rw [e, hr] at hg; simp at hg
  have n4 : mb ≠ bp := fun e => by rw [e, hb] at hm; cases hm
  have n5 : mb ≠ rb := fun e => by rw [e, hr] at hm; cases hm
  have n6 : bp ≠ rb := fun e => by rw [e, hr] at hb; simp at hb
  have o1 : ∀ b, (if b = gp then 1 else if b = mb then 2 else if b = bp then 3 else if b = rb then 4 else 0) ≠ (0 : Nat) ↔ b = gp ∨ b = mb ∨ b = bp ∨ b = rb := fun b => by
    by_cases e1 : b = gp
    · simp [e1]
    · by_cases e2 : b = mb
      · simp [e2, n1.symm]
      · by_cases e3 : b = bp
        · simp [e3, n2.symm, n4.symm]
        · by_cases e4 : b = rb
          · simp [e4, n3.symm, n5.symm, n6.symm]
          · simp [e1, e2, e3, e4]
  refine ⟨⟨fun b => if b = gp then 1 else if b = mb then 2 else if b = bp then 3 else if b = rb then 4 else 0, mb, bp, rb, fun _ => (none, 0), 0, 0, none, 0, none, 0⟩, ?_, rfl, fun b => (o1 b).symm⟩
  refine { blk := hg, bo := by dsimp only; rw [if_pos rfl], g2 := ?_, g3 := ?_, g4 := ?_, lt := fun b h => ?_ }
  · refine { mp := ?_, mn := Nat.le_refl _, mo := ?_, fl := fun i hi => ?_, fo := fun i hi => ?_, ag := fun i hi => ?_, al := Nat.le_refl _ }
    · show Mh w mb 0 (gvF [] _)
      rw [gvF_nil]
      exact mh_new hm
    · dsimp only
      rw [if_neg n1.symm, if_pos rfl]
    · exact absurd hi.1 (by simp [ws0])
    · exact absurd hi.1 (by simp [ws0])
    · exact absurd hi.1 (by simp [ws0])
  · refine { sd := ⟨hb, World.ownsRow_nil _ _ _ _, World.ownsRow_nil _ _ _ _⟩, so := ?_, ro := fun k e => ?_, qo := fun k e => ?_ }
    · dsimp only
      rw [if_neg n2.symm, if_neg n4.symm, if_pos rfl]
    · cases e
    · cases e
  · refine { rt := hr, rl := by simp [ws0], ro := ?_ }
    dsimp only
    rw [if_neg n3.symm, if_neg n5.symm, if_neg n6.symm, if_pos rfl]
  · rcases (o1 b).1 h with e | e | e | e
    · rw [e]; exact lt_of_some hg
    · rw [e]; exact lt_of_some hm
    · rw [e]; exact lt_of_some hb
    · rw [e]; exact lt_of_some hr

set_option maxRecDepth 100000 in
set_option maxHeartbeats 1000000 in
theorem newG_no (n o : Int) (w : World) (h : n < 16 ∨ 256 < n ∨ o < 0 ∨ 1024 < o) :
    Calls Tryz.prog 5 #[.int .i64 n, .int .i64 o] w fun e w' => e = .returned (.tuple #[.pointer none, .agg #[.int .i64 1, .int .i64 (-1)]]) ∧ Below w.heap.size w w' := by
  have hba := (Below.refl w.heap.size w).alloc (Nat.le_refl _) (.cells #[.int .i64 0, .int .i64 0] 26)
  have hr0 := heap_alloc_new w (.cells #[.int .i64 0, .int .i64 0] 26)
  have P := newH_no n o (w.alloc (.cells #[.int .i64 0, .int .i64 0] 26)) h
  clear h
  go_enter Tryz.func5, Tryz.ntmps5
  go_wp2_with fail
  refine P.mono ?_
  clear P
  rintro e w1 ⟨rfl, hb1⟩
  have hr1 := (hb1.block w.heap.size (by simp)).trans hr0
  have hB1 := hba.trans (hb1.mono (by simp))
  have hs1 := hb1.size
  simp at hs1
  have y0 : w1.cell? ⟨w.heap.size, 0, none⟩ = some (.int .i64 0) := by simp [World.cell?, hr1]
  have y1 : w1.cell? ⟨w.heap.size, 1, none⟩ = some (.int .i64 0) := by simp [World.cell?, hr1]
  have f0 : w1.frozen? ⟨w.heap.size, 0, none⟩ = false := by simp [World.frozen?, hr1]
  have f1 : w1.frozen? ⟨w.heap.size, 1, none⟩ = false := by simp [World.frozen?, hr1]
  have l1 : w.heap.size < w1.heap.size := by omega
  have hne : ¬ w.heap.size = w1.heap.size := by omega
  have hne2 : ¬ w1.heap.size = w.heap.size := by omega
  clear hb1 hr0 hba hr1
  go_wp2_with fail
  go_region_law (fail)
  all_goals
    obtain ⟨W0, hW0⟩ : ∃ W0, W0 = (w1.setCell ⟨w.heap.size, 0, none⟩ (.int .i64 1)).setCell ⟨w.heap.size, 1, none⟩ (.int .i64 (-1)) := ⟨_, rfl⟩
    rw [← hW0]
    have sz0 : W0.heap.size = w1.heap.size := by rw [hW0]; simp [World.setCell]
    have g0 : W0.cell? ⟨w.heap.size, 0, none⟩ = some (.int .i64 1) := by
      rw [hW0, World.cell?_setCell_other _ _ _ _ (by simp)]
      exact World.cell?_setCell_same _ _ _ y0
    have g1 : W0.cell? ⟨w.heap.size, 1, none⟩ = some (.int .i64 (-1)) := by
      rw [hW0]
      exact World.cell?_setCell_same _ _ _ ((World.cell?_setCell_other w1 ⟨w.heap.size, 0, none⟩ ⟨w.heap.size, 1, none⟩ _ (by simp)).trans y1)
    have hF0 : Below w.heap.size w W0 := by
      rw [hW0]
      exact hB1.trans ((((Fr.refl (fun k => k = w.heap.size) w1).set w.heap.size 0 _ rfl).set w.heap.size 1 _ rfl).below (Nat.le_of_lt l1) (fun x e => by have e : x = w.heap.size := e; omega))
    have hbN := ((Below.refl W0.heap.size W0).alloc (Nat.le_refl _) (.cells #[.int .i64 1, .int .i64 (-1)] 26)).drew
    have r0 := (hbN.cell (p := ⟨w.heap.size, 0, none⟩) (by show w.heap.size < _; omega)).trans g0
    have r1 := (hbN.cell (p := ⟨w.heap.size, 1, none⟩) (by show w.heap.size < _; omega)).trans g1
    have hfin := hF0.trans (hbN.mono (by omega))
    clear y0 y1 f0 f1 hW0 hbN g0 g1
    generalize (W0.alloc (.cells #[.int .i64 1, .int .i64 (-1)] 26)).drew = WF at *
    go_wp2_with fail
    refine bodyPost_ret (v := .tuple #[.pointer none, .agg #[.int .i64 1, .int .i64 (-1)]]) (by simp [results, Tryz.results5, go_sem, r0, r1]) rfl ⟨rfl, hfin⟩

set_option maxRecDepth 100000 in
set_option maxHeartbeats 2000000 in
theorem newG_yes (n o : Nat) (w : World) (h0 : 16 ≤ n) (h1 : n ≤ 256) (h3 : o ≤ 1024) :
    Calls Tryz.prog 5 #[.int .i64 n, .int .i64 o] w fun e w' => ∃ gp rb F, e = .returned (.tuple #[.pointer (some ⟨gp, 0, none⟩), .agg #[.int .i64 0, .int .i64 0]]) ∧ (grO gp n o rb).J F ws0 w' ∧ (∀ b, F b → w.heap.size ≤ b) ∧ Below w.heap.size w w' := by
  have hmm := @run_makeMap Tryz.prog
  have hba0 := (Below.refl w.heap.size w).alloc (Nat.le_refl _) (.cells #[.int .i64 0, .int .i64 0] 26)
  have P := newHs_yes n o (w.alloc (.cells #[.int .i64 0, .int .i64 0] 26)) h0 h1 h3
  have hf0 := heap_alloc_new w (.cells #[.int .i64 0, .int .i64 0] 26)
  have lf0 : w.heap.size < (w.alloc (.cells #[.int .i64 0, .int .i64 0] 26)).heap.size := by simp
  have HB0 : Hid (Below w.heap.size w (w.alloc (.cells #[.int .i64 0, .int .i64 0] 26))) := hba0
  clear hba0 h0 h1 h3
  go_enter Tryz.func5, Tryz.ntmps5
  go_wp2_with fail
  generalize w.alloc (.cells #[.int .i64 0, .int .i64 0] 26) = w0 at *
  generalize hfb : w.heap.size = fb at *
  refine P.mono ?_
  clear P
  rintro e w1 ⟨hp, rfl, hb1⟩
  have hfw := (hb1.block fb lf0).trans hf0
  have HJ : Hid (Below fb w w1) := HB0.out.trans (hb1.mono (by omega))
  have lw1 : fb < w1.heap.size := lt_of_some hfw
  clear hb1 hf0 HB0
  -- the four blocks that come
  have B1 := ((((Below.refl w1.heap.size w1).alloc (Nat.le_refl _) (.cells #[.int .i64 0, .int .i64 0] 26)).alloc (by simp) (.map #[] 0)).alloc (by simp; omega) (.cells #[.slice none 0 0, .slice none 0 0] 51)).alloc (by simp; omega) (.cells #[.int .i64 0, .int .i64 0] 54)
  have m1 : ((((w1.alloc (.cells #[.int .i64 0, .int .i64 0] 26)).alloc (.map #[] 0)).alloc (.cells #[.slice none 0 0, .slice none 0 0] 51)).alloc (.cells #[.int .i64 0, .int .i64 0] 54)).heap[w1.heap.size + 1]? = some (.map #[] 0) := by
    rw [Below.heap_alloc _ _ _ (by simp), Below.heap_alloc _ _ _ (by simp)]
    exact alloc_snd w1 _ _
  have m2 : ((((w1.alloc (.cells #[.int .i64 0, .int .i64 0] 26)).alloc (.map #[] 0)).alloc (.cells #[.slice none 0 0, .slice none 0 0] 51)).alloc (.cells #[.int .i64 0, .int .i64 0] 54)).heap[w1.heap.size + 1 + 1]? = some (.cells #[.slice none 0 0, .slice none 0 0] 51 (0, 0)) := by
    rw [Below.heap_alloc _ _ _ (by simp)]
    have := alloc_snd (w1.alloc (.cells #[.int .i64 0, .int .i64 0] 26)) (.map #[] 0) (.cells #[.slice none 0 0, .slice none 0 0] 51)
    simpa using this
  have m3 : ((((w1.alloc (.cells #[.int .i64 0, .int .i64 0] 26)).alloc (.map #[] 0)).alloc (.cells #[.slice none 0 0, .slice none 0 0] 51)).alloc (.cells #[.int .i64 0, .int .i64 0] 54)).heap[w1.heap.size + 1 + 1 + 1]? = some (.cells #[.int .i64 0, .int .i64 0] 54 (0, 0)) := by
    have := heap_alloc_new ((((w1.alloc (.cells #[.int .i64 0, .int .i64 0] 26)).alloc (.map #[] 0)).alloc (.cells #[.slice none 0 0, .slice none 0 0] 51))) (.cells #[.int .i64 0, .int .i64 0] 54)
    simpa using this
  have sz4 : ((((w1.alloc (.cells #[.int .i64 0, .int .i64 0] 26)).alloc (.map #[] 0)).alloc (.cells #[.slice none 0 0, .slice none 0 0] 51)).alloc (.cells #[.int .i64 0, .int .i64 0] 54)).heap.size = w1.heap.size + 1 + 1 + 1 + 1 := by simp
  obtain ⟨v0, v1, _, _⟩ := two_cells m3
  have PR := repeatV_any _ (w1.heap.size + 1 + 1 + 1) 12 (0, 0) (by decide) v0 v1
  have hf4 := (B1.block fb lw1).trans hfw
  have HM : Hid (_ ∧ _ ∧ _ ∧ _ ∧ _) := ⟨B1, m1, m2, hf4, sz4⟩
  clear B1 m1 m2 m3 v0 v1 hfw hf4 sz4
  go_wp2_with fail
  generalize (((w1.alloc (.cells #[.int .i64 0, .int .i64 0] 26)).alloc (.map #[] 0)).alloc (.cells #[.slice none 0 0, .slice none 0 0] 51)).alloc (.cells #[.int .i64 0, .int .i64 0] 54) = w4 at *
  refine PR.mono ?_
  clear PR
  rintro e w5 ⟨nb, rfl, hnb, hblk, hb5⟩
  obtain ⟨B1, m1, m2, hf4, sz4⟩ := HM.out
  have hf5 := (hb5.block fb (by omega)).trans hf4
  have HK : Hid (w5.heap[w1.heap.size + 1]? = some (.map #[] 0) ∧ w5.heap[w1.heap.size + 1 + 1]? = some (.cells #[.slice none 0 0, .slice none 0 0] 51 (0, 0)) ∧ w5.heap[nb]? = some (.cells (ev (List.replicate 12 (0, 0))).toArray 54 (0, 0)) ∧ w1.heap.size + 1 + 1 < nb ∧ Below fb w w5 ∧ w1.heap.size + 1 + 1 < w5.heap.size) :=
    ⟨(hb5.block _ (by omega)).trans m1, (hb5.block _ (by omega)).trans m2, hblk, by omega, (HJ.out.trans (B1.mono (by omega))).trans (hb5.mono (by omega)), lt_of_some ((hb5.block _ (by omega)).trans m2)⟩
  have y0 : w5.cell? ⟨fb, 0, none⟩ = some (.int .i64 0) := by simp [World.cell?, hf5]
  have y1 : w5.cell? ⟨fb, 1, none⟩ = some (.int .i64 0) := by simp [World.cell?, hf5]
  have z0 : w5.frozen? ⟨fb, 0, none⟩ = false := by simp [World.frozen?, hf5]
  have z1 : w5.frozen? ⟨fb, 1, none⟩ = false := by simp [World.frozen?, hf5]
  have lw5 : fb < w5.heap.size := lt_of_some hf5
  clear hf5 hb5 hblk hnb B1 m1 m2 hf4 sz4 HM
  go_wp2_with fail
  obtain ⟨W1, hW1⟩ : ∃ W1, W1 = (w5.setCell ⟨fb, 0, none⟩ (.int .i64 0)).setCell ⟨fb, 1, none⟩ (.int .i64 0) := ⟨_, rfl⟩
  rw [← hW1]
  have v0 : W1.cell? ⟨fb, 0, none⟩ = some (.int .i64 0) := by
    rw [hW1, World.cell?_setCell_other _ _ _ _ (by simp)]
    exact World.cell?_setCell_same _ _ _ y0
  have v1 : W1.cell? ⟨fb, 1, none⟩ = some (.int .i64 0) := by
    rw [hW1]
    exact World.cell?_setCell_same _ _ _ ((World.cell?_setCell_other w5 ⟨fb, 0, none⟩ ⟨fb, 1, none⟩ _ (by simp)).trans y1)
  have hF : Fr (fun k => k = fb) w5 W1 := by rw [hW1]; exact ((Fr.refl (fun k => k = fb) w5).set fb 0 _ rfl).set fb 1 _ rfl
  have hsz : W1.heap.size = w5.heap.size := by rw [hW1]; simp
  clear hW1
  obtain ⟨k1, k2, k3, k4, k5, k6⟩ := HK.out
  have hba := (Below.refl W1.heap.size W1).alloc (Nat.le_refl _) (.cells #[.int .i64 n, .int .i64 o, .map (some (w1.heap.size + 1)), .int .i64 0, .int .i64 0, .pointer (some ⟨w1.heap.size + 1 + 1, 0, none⟩), .slice (some ⟨nb, 0, none⟩) 12 12] 56)
  have hg := heap_alloc_new W1 (.cells #[.int .i64 n, .int .i64 o, .map (some (w1.heap.size + 1)), .int .i64 0, .int .i64 0, .pointer (some ⟨w1.heap.size + 1 + 1, 0, none⟩), .slice (some ⟨nb, 0, none⟩) 12 12] 56)
  rw [hsz] at hg
  have g0 := (hba.cell (p := ⟨fb, 0, none⟩) (by show fb < _; omega)).trans v0
  have g1 := (hba.cell (p := ⟨fb, 1, none⟩) (by show fb < _; omega)).trans v1
  have J := gv_start hg ((hba.block _ (by omega)).trans ((hF.block _ (by omega) (fun e => by have e : w1.heap.size + 1 = fb := e; omega)).trans k1)) ((hba.block _ (by omega)).trans ((hF.block _ (by omega) (fun e => by have e : w1.heap.size + 1 + 1 = fb := e; omega)).trans k2)) ((hba.block _ (by rw [hsz]; exact lt_of_some k3)).trans ((hF.block _ (lt_of_some k3) (fun e => by have e : nb = fb := e; omega)).trans k3))
  have hbW : Below fb w W1 := k5.trans (hF.below (Nat.le_of_lt lw5) (fun k e => Nat.le_of_eq (Eq.symm e)))
  refine bodyPost_ret (v := .tuple #[.pointer (some ⟨w5.heap.size, 0, none⟩), .agg #[.int .i64 0, .int .i64 0]]) (by simp only [results, Tryz.results5]; simp [go_sem, g0, g1]) rfl ⟨w5.heap.size, nb, _, rfl, J, fun b d => ?_, by rw [hfb]; exact hbW.trans (hba.mono (by omega))⟩
  rcases d with d | d | d | d <;> omega

end Go.Proofs.YtogknhogphkddaaGreat

/- A grove that a statement does steps in: Do, View, groveBegun: contracts. -/
namespace Go.Proofs.YtogknhogphkddaaGreat
open Go.RowKit W Kp Stl

structure Sg (gp rb gb base : Nat) (most grow : Int) (F : Nat → Prop) (s : Wrs) (j : Nat) (w : World) : Prop where
  J : (grO gp most grow rb).J F s w
  gi : Gi s j
  cg : w.heap[gb]? = some (.cells #[.pointer (some ⟨gp, 0, none⟩)] 24 (0, 0))
  nf : ¬ F gb
  lo : ∀ b, F b → base ≤ b
  bl : base ≤ w.heap.size
section
variable {gp rb gb base j : Nat} {most grow : Int} {F : Nat → Prop} {s : Wrs} {w w' : World} {g : Gfn}
theorem doS_any (h : Sg gp rb gb base most grow F s j w) (hg : ∀ T wt, Wiv T wt → Gok T wt (g T wt)) (hj : j ≤ 9000) (g0 : -1000000 ≤ grow) (g1 : grow ≤ 1000000) (m0 : -1000000 ≤ most) (m1 : most ≤ 1000000) (k R A B I n : Int) :
    Calls Tryz.prog 8 #[.pointer (some ⟨gp, 0, none⟩), hsV k R A B I n] w fun e w' => ∃ F', e = .returned (.int .i64 (s.dos g most grow k R A B I n).1) ∧ Sg gp rb gb base most grow F' (s.dos g most grow k R A B I n).2 (j + 1) w' ∧ Tn F w F' w' := by
  have hG := hg _ _ h.gi.iv
  refine (doG_any h.J (h.gi.wcv (by omega)) hG g0 g1 m0 m1 k R A B I n).mono ?_
  rintro e w' ⟨F', rfl, J', t⟩
  have lg := lt_of_some h.cg
  refine ⟨F', rfl, ⟨J', h.gi.dos (by omega) hG k R A B I n, (t.fr.block gb lg h.nf).trans h.cg, fun d => (t.sub gb d).elim h.nf (fun c => by omega), fun b d => (t.sub b d).elim (h.lo b) (fun c => Nat.le_trans h.bl c), Nat.le_trans h.bl t.fr.size⟩, t⟩
end

theorem gB_1 (g : Gfn) : ws0.dos g 16 8 4 0 0 0 0 0 = (0, ⟨[(1, [(0, 0), (0, 0)], false, false)], [(3, 0), (0, 0), (0, 0), (0, 0), (0, 0), (0, 0), (0, 0), (0, 0), (0, 0), (0, 0), (0, 0), (0, 0)], [], []⟩) := rfl
theorem gB_2 (g : Gfn) : (⟨[(1, [(0, 0), (0, 0)], false, false)], [(3, 0), (0, 0), (0, 0), (0, 0), (0, 0), (0, 0), (0, 0), (0, 0), (0, 0), (0, 0), (0, 0), (0, 0)], [], []⟩ : Wrs).dos g 16 8 6 1 0 0 0 0 = (0, ⟨[(1, [(0, 0), (0, 0)], false, false), (3, [(3, 0), (3, 0)], false, false)], [(3, 0), (3, 1), (0, 0), (0, 0), (0, 0), (0, 0), (0, 0), (0, 0), (0, 0), (0, 0), (0, 0), (0, 0)], [], []⟩) := rfl
theorem gB_3 (g : Gfn) : (⟨[(1, [(0, 0), (0, 0)], false, false), (3, [(3, 0), (3, 0)], false, false)], [(3, 0), (3, 1), (0, 0), (0, 0), (0, 0), (0, 0), (0, 0), (0, 0), (0, 0), (0, 0), (0, 0), (0, 0)], [], []⟩ : Wrs).dos g 16 8 2 0 0 0 0 0 = (0, ⟨[(1, [(0, 0), (0, 0)], false, false), (3, [(3, 0), (3, 0)], false, false)], [(0, 0), (3, 1), (0, 0), (0, 0), (0, 0), (0, 0), (0, 0), (0, 0), (0, 0), (0, 0), (0, 0), (0, 0)], [], []⟩) := rfl
theorem gB_v : (Vr4.vwW [(1, [(0, 0), (0, 0)], false, false), (3, [(3, 0), (3, 0)], false, false)] [] [(0, 0), (3, 1), (0, 0), (0, 0), (0, 0), (0, 0), (0, 0), (0, 0), (0, 0), (0, 0), (0, 0), (0, 0)]).2.2.length = 2 := by decide +kernel
theorem gB_u : usd [(1, [(0, 0), (0, 0)], false, false), (3, [(3, 0), (3, 0)], false, false)] = (6, 0) := rfl

theorem doJ_any {gp rb j : Nat} {most grow : Int} {F : Nat → Prop} {s : Wrs} {w : World} {g : Gfn} (h : (grO gp most grow rb).J F s w) (hi : Gi s j) (hg : ∀ T wt, Wiv T wt → Gok T wt (g T wt)) (hj : j ≤ 9000) (g0 : -1000000 ≤ grow) (g1 : grow ≤ 1000000) (m0 : -1000000 ≤ most) (m1 : most ≤ 1000000) (k R A B I n : Int) :
    Calls Tryz.prog 8 #[.pointer (some ⟨gp, 0, none⟩), hsV k R A B I n] w fun e w' => ∃ F', e = .returned (.int .i64 (s.dos g most grow k R A B I n).1) ∧ Hid ((grO gp most grow rb).J F' (s.dos g most grow k R A B I n).2 w' ∧ Gi (s.dos g most grow k R A B I n).2 (j + 1) ∧ Tn F w F' w') := by
  have hG := hg _ _ hi.iv
  refine (doG_any h (hi.wcv (by omega)) hG g0 g1 m0 m1 k R A B I n).mono ?_
  rintro e w' ⟨F', rfl, J', t⟩
  exact ⟨F', rfl, J', hi.dos (by omega) hG k R A B I n, t⟩

set_option maxRecDepth 100000 in
set_option maxHeartbeats 2000000 in
theorem groveBegun_any (w : World) : Calls Tryz.prog 4 #[] w fun e w' => e = .returned (.bool true) ∧ Below w.heap.size w w' := by
  obtain ⟨g, hg⟩ := gfn_ex
  have P := newG_yes 16 8 w (by decide) (by decide) (by decide)
  have HG : Hid (∀ T wt, Wiv T wt → Gok T wt (g T wt)) := hg
  clear hg
  go_enter Tryz.func4, Tryz.ntmps4
  go_wp2_with fail
  refine P.mono ?_
  clear P
  rintro e w1 ⟨gp, rb, F1, rfl, J1, lo1, hb1⟩
  have ba := (Below.refl w1.heap.size w1).alloc (Nat.le_refl _) (.cells #[.int .i64 0, .int .i64 0] 26)
  have J2 := (grO gp 16 8 rb).below J1 ba
  have P1 := doJ_any J2 Gi.start HG.out (by decide) (by decide) (by decide) (by decide) (by decide) 4 0 0 0 0 0
  rw [gB_1 g] at P1
  dsimp only at P1
  have H1 : Hid (Below w.heap.size w (w1.alloc (.cells #[.int .i64 0, .int .i64 0] 26)) ∧ ∀ b, F1 b → w.heap.size ≤ b) := ⟨hb1.trans (ba.mono hb1.size), lo1⟩
  clear J1 J2 lo1 hb1 ba
  go_wp2_with fail
  generalize w1.alloc (.cells #[.int .i64 0, .int .i64 0] 26) = w2 at *
  refine P1.mono ?_
  clear P1
  rintro e w3 ⟨F3, rfl, H3⟩
  have P2 := doJ_any H3.out.1 H3.out.2.1 HG.out (by decide) (by decide) (by decide) (by decide) (by decide) 6 1 0 0 0 0
  rw [gB_2 g] at P2
  dsimp only at P2
  go_wp2_with fail
  refine P2.mono ?_
  clear P2
  rintro e w4 ⟨F4, rfl, H4⟩
  have P3 := doJ_any H4.out.1 H4.out.2.1 HG.out (by decide) (by decide) (by decide) (by decide) (by decide) 2 0 0 0 0 0
  rw [gB_3 g] at P3
  dsimp only at P3
  go_wp2_with fail
  refine P3.mono ?_
  clear P3
  rintro e w5 ⟨F5, rfl, H5⟩
  have HB : Hid (Below w.heap.size w w5) := by
    have t := (H3.out.2.2.trans H4.out.2.2).trans H5.out.2.2
    exact H1.out.1.trans (t.fr.below H1.out.1.size (fun k e => H1.out.2 k e))
  obtain ⟨l, hl, _, _⟩ := H5.out.1
  have P4 := usedG_any hl H5.out.2.1.tl (by have := H5.out.2.1.tj; omega)
  rw [gB_u] at P4
  have HL : Hid (Gvy gp 16 8 l _ w5) := hl
  clear hl
  go_wp2_with fail
  refine P4.mono ?_
  clear P4
  rintro e w6 ⟨rfl, hb6⟩
  have P5 := viewG_any (HL.out.below hb6) (H5.out.2.1.wvw (by decide)) H5.out.2.1.g5 H5.out.2.1.rv
  have HB6 : Hid (Below w.heap.size w w6) := HB.out.trans (hb6.mono HB.out.size)
  clear hb6
  go_wp2_with fail
  refine P5.mono ?_
  clear P5
  rintro e w7 ⟨r2, d2, na, nn, nc, rfl, _, _, hnn, hb7⟩
  have hnn2 : nn = 2 := hnn.trans gB_v
  subst hnn2
  have HB7 : Hid (Below w.heap.size w (w7.alloc (.cells #[.slice r2 12 d2, .slice na 2 nc] 41))) := by
    have := HB6.out.trans (hb7.mono HB6.out.size)
    exact this.trans (((Below.refl w7.heap.size w7).alloc (Nat.le_refl _) _).mono this.size)
  clear hnn hb7
  go_wp2_with fail
  go_ret
  exact ⟨rfl, HB7.out⟩

end Go.Proofs.YtogknhogphkddaaGreat

/- What the document's answers on words (WordOf, ValOf, Fits, HeadOf, PartsOf) return at whatever numbers: contracts, over the seat's own translation; nothing that was in memory turns. -/
namespace Go.Proofs.YtogknhogphkddaaGreat
open Go.RowKit W

end Go.Proofs.YtogknhogphkddaaGreat

/- What the document's answers on words that ask others (ValOf, HeadOf, PartsOf) return at whatever numbers: contracts, over the seat's own translation; nothing that was in memory turns. -/
namespace Go.Proofs.YtogknhogphkddaaGreat
open Go.RowKit W

end Go.Proofs.YtogknhogphkddaaGreat

/- The document's own arena (a Room) in memory: a struct of its own block, its words in another; what its functions that only look return: contracts, over the seat's own translation; nothing that was in memory turns. -/
namespace Go.Proofs.YtogknhogphkddaaGreat
open Go.RowKit W

set_option maxRecDepth 100000 in
set_option maxHeartbeats 400000 in
theorem f_any (c a : Int) (w : World) :
    Calls Tryz.prog 17 #[.int .i64 c, .int .i64 a] w fun e w' => e = .returned (.agg #[.int .i64 c, .int .i64 a]) ∧ Below w.heap.size w w' := by
  go_enter Tryz.func17, Tryz.ntmps17
  go_wp2_with fail
  exact bodyPost_ret (v := .agg #[.int .i64 c, .int .i64 a]) (by simp [results, Tryz.results17, go_sem]) rfl ⟨rfl, (Below.refl _ _).alloc (Nat.le_refl _) _⟩

end Go.Proofs.YtogknhogphkddaaGreat

/- What the document's own arena answers and leaves where it is made, and where a thing is made in it: contracts, over the seat's own translation; no block but the room's turns. -/
namespace Go.Proofs.YtogknhogphkddaaGreat
open Go.RowKit W

set_option maxRecDepth 100000 in
set_option maxHeartbeats 400000 in
theorem roomFault_yes (n o : Int) (w : World) (h0 : 16 ≤ n) (h1 : n ≤ 256) (h2 : 0 ≤ o) (h3 : o ≤ 1024) :
    Calls Tryz.prog 6 #[.int .i64 n, .int .i64 o] w fun e w' => e = .returned (.agg #[.int .i64 0, .int .i64 0]) ∧ Below w.heap.size w w' := by
  go_enter Tryz.func6, Tryz.ntmps6
  go_wp2_with fail
  exact bodyPost_ret (v := .agg #[.int .i64 0, .int .i64 0]) (by simp [results, Tryz.results6, go_sem]) rfl ⟨rfl, (Below.refl _ _).alloc (Nat.le_refl _) _⟩

set_option maxRecDepth 100000 in
set_option maxHeartbeats 400000 in
theorem roomFault_no (n o : Int) (w : World) (h : n < 16 ∨ 256 < n ∨ o < 0 ∨ 1024 < o) :
    Calls Tryz.prog 6 #[.int .i64 n, .int .i64 o] w fun e w' => e = .returned (.agg #[.int .i64 1, .int .i64 (-1)]) ∧ Below w.heap.size w w' := by
  have fin : ∀ (R : Ending → World → Prop), (∀ w1, Below (w.alloc (.cells #[.int .i64 0, .int .i64 0] 26)).heap.size (w.alloc (.cells #[.int .i64 0, .int .i64 0] 26)) w1 → R (.returned (.agg #[.int .i64 1, .int .i64 (-1)])) w1) → Calls Tryz.prog 17 #[.int .i64 1, .int .i64 (-1)] (w.alloc (.cells #[.int .i64 0, .int .i64 0] 26)) R := by
    intro R hR
    refine (f_any 1 (-1) _).mono ?_
    rintro e w1 ⟨rfl, hb⟩
    exact hR w1 hb
  by_cases h1 : n < 16
  · go_enter Tryz.func6, Tryz.ntmps6
    go_wp2_with fail
    refine fin _ ?_
    intro w1 hb
    obtain ⟨c0, c1, hz⟩ := cells2 hb
    obtain ⟨_, hf⟩ := bcell hb
    have f0 := hf w.heap.size 0 (by simp)
    have f1 := hf w.heap.size 1 (by simp)
    simp [go_sem] at f0 f1
    go_wp2_with fail
    exact bodyPost_ret (v := .agg #[.int .i64 1, .int .i64 (-1)]) (by simp [results, Tryz.results6, go_sem, c0, c1]) rfl ⟨rfl, ((((Below.refl _ _).alloc (Nat.le_refl _) _).trans (hb.mono (by simp))).setCell (Nat.le_refl _) _).setCell (Nat.le_refl _) _⟩
  by_cases h2 : 256 < n
  · go_enter Tryz.func6, Tryz.ntmps6
    go_wp2_with fail
    refine fin _ ?_
    intro w1 hb
    obtain ⟨c0, c1, hz⟩ := cells2 hb
    obtain ⟨_, hf⟩ := bcell hb
    have f0 := hf w.heap.size 0 (by simp)
    have f1 := hf w.heap.size 1 (by simp)
    simp [go_sem] at f0 f1
    go_wp2_with fail
    exact bodyPost_ret (v := .agg #[.int .i64 1, .int .i64 (-1)]) (by simp [results, Tryz.results6, go_sem, c0, c1]) rfl ⟨rfl, ((((Below.refl _ _).alloc (Nat.le_refl _) _).trans (hb.mono (by simp))).setCell (Nat.le_refl _) _).setCell (Nat.le_refl _) _⟩
  by_cases h3 : o < 0
  · go_enter Tryz.func6, Tryz.ntmps6
    go_wp2_with fail
    refine fin _ ?_
    intro w1 hb
    obtain ⟨c0, c1, hz⟩ := cells2 hb
    obtain ⟨_, hf⟩ := bcell hb
    have f0 := hf w.heap.size 0 (by simp)
    have f1 := hf w.heap.size 1 (by simp)
    simp [go_sem] at f0 f1
    go_wp2_with fail
    exact bodyPost_ret (v := .agg #[.int .i64 1, .int .i64 (-1)]) (by simp [results, Tryz.results6, go_sem, c0, c1]) rfl ⟨rfl, ((((Below.refl _ _).alloc (Nat.le_refl _) _).trans (hb.mono (by simp))).setCell (Nat.le_refl _) _).setCell (Nat.le_refl _) _⟩
  have h4 : 1024 < o := by omega
  go_enter Tryz.func6, Tryz.ntmps6
  go_wp2_with fail
  refine fin _ ?_
  intro w1 hb
  obtain ⟨c0, c1, hz⟩ := cells2 hb
  obtain ⟨_, hf⟩ := bcell hb
  have f0 := hf w.heap.size 0 (by simp)
  have f1 := hf w.heap.size 1 (by simp)
  simp [go_sem] at f0 f1
  go_wp2_with fail
  exact bodyPost_ret (v := .agg #[.int .i64 1, .int .i64 (-1)]) (by simp [results, Tryz.results6, go_sem, c0, c1]) rfl ⟨rfl, ((((Below.refl _ _).alloc (Nat.le_refl _) _).trans (hb.mono (by simp))).setCell (Nat.le_refl _) _).setCell (Nat.le_refl _) _⟩

end Go.Proofs.YtogknhogphkddaaGreat

/- GroveDoes: views of the document's world; how great a view is. -/
namespace Go.Proofs.YtogknhogphkddaaGreat
open Go.RowKit W Kp Stl

theorem vwW_go (T : List Tw1) (wt : List En) (l : List (Int × Int)) : Vgo (tI T.length) (kdW T) (shW T wt) ([], []) (Vr4.vwW T wt l).2 (Vr4.vwW T wt l).1 :=
  vls_go (met_go _) (VOk.start _) (by rw [tI_len]; simp) (l.map wI)
theorem vwW_bd {T : List Tw1} {wt : List En} (hw : Wvw T wt) (l : List (Int × Int)) : (Vr4.vwW T wt l).1.length = l.length ∧ (Vr4.vwW T wt l).2.2.length ≤ 10000 ∧ ∀ nd ∈ (Vr4.vwW T wt l).2.2, nd.2.length ≤ 20000 := by
  have hv := vwW_go T wt l
  refine ⟨?_, ?_, fun nd hnd => ?_⟩
  · unfold Vr4.vwW
    rw [vls_len, List.length_map]
  · rw [hv.ok.len]
    refine Nat.le_trans hv.ok.le ?_
    rw [tI_len]
    exact hw.l1
  · obtain ⟨i, hi, e⟩ := List.mem_iff_getElem.1 hnd
    obtain ⟨nd', q1, _, q3, _⟩ := hv.nw i (Nat.zero_le _) (by rw [← hv.ok.len]; exact hi)
    rw [List.getElem?_eq_getElem hi, e] at q1
    have q1 : nd = nd' := by simpa using q1
    rw [q1, q3]
    unfold shW
    have h1 := hw.tl ((Vr4.vwW T wt l).2.1.getD i 0).toNat
    have h2 := hw.l2
    rw [List.length_append, List.length_map]
    split
    · rw [List.length_map]
      have := List.length_filter_le (fun e : En => e.1 == (Vr4.vwW T wt l).2.1.getD i 0) wt
      omega
    · rw [List.length_nil]
      omega

section
variable {rp rb j : Nat} {most grow : Int} {F : Nat → Prop} {s : Wrs} {w : World}

theorem viewQ_any (h : (wrO rp rb most grow).J F s w) (hi : Gi s j) (hj : j ≤ 10000) :
    Calls Tryz.prog 14 #[.pointer (some ⟨rp, 0, none⟩)] w fun e w' => ∃ r2 d2 na nn nc, e = .returned (.agg #[.slice r2 12 d2, .slice na nn nc]) ∧ LpN w' w.heap.size r2 (Vr4.vwW s.T s.wt s.rs).1 ∧ LnN w' w.heap.size na (Vr4.vwW s.T s.wt s.rs).2.2 ∧ nn = (Vr4.vwW s.T s.wt s.rs).2.2.length ∧ Below w.heap.size w w' := by
  obtain ⟨c1, _, _, _, lrb, _, hrl, cr⟩ := wr_cells h
  have hl : Lp w (some ⟨rb, 0, none⟩) s.rs := fun _ => ⟨rb, 0, rfl, lrb, fun i hi => by
    obtain ⟨x0, x1, _⟩ := cr i (by omega)
    rw [Nat.zero_add]
    exact ⟨x0, x1⟩⟩
  have P := Vr4.vwW_any (rc := 12) (wr_wg h) (by rw [hrl]; exact c1) hl (by omega) (hi.wvw hj) hi.rv
  rw [hrl] at P
  exact P
end

end Go.Proofs.YtogknhogphkddaaGreat
