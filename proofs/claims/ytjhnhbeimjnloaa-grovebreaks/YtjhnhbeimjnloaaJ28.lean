/- Joined: Gn1, Gw1, Gw2. -/
import Derived.Test.YtjhnhbeimjnloaaJ27
import Derived.Test.YtjhnhbeimjnloaaJ24
import Derived.Test.YtjhnhbeimjnloaaJ06
import Derived.Test.YtjhnhbeimjnloaaJ12
import Derived.Test.YtjhnhbeimjnloaaJ23
import Derived.Deep.RegionHeld3
/- A grove: New: contracts. -/
namespace Go.Proofs.Ytjhnhbeimjnloaa
open Go.RowKit W Kp Stl

def ws0 : Wrs := ⟨[], List.replicate 12 (0, 0), [], []⟩

theorem mh_new {w : World} {b : Nat} (h : w.heap[b]? = some (.map #[] 0)) : Mh w b 0 (fun _ => none) := by
  obtain ⟨D, ⟨es, clock, hb, r⟩, hD⟩ := Mh.made w
  rw [heap_alloc_new] at hb
  cases hb
  exact ⟨D, ⟨#[], 0, h, r⟩, hD⟩
theorem gvF_nil (fm : Fm) : gvF [] fm = fun _ => none := by
  funext x
  refine gvF_no (fun h => ?_)
  have := h.2.1
  simp at this

theorem gv_start {w : World} {gp mb bp rb : Nat} {n o : Int} (hg : w.heap[gp]? = some (.cells #[.int .i64 n, .int .i64 o, .map (some mb), .int .i64 0, .int .i64 0, .pointer (some ⟨bp, 0, none⟩), .slice (some ⟨rb, 0, none⟩) 12 12] 66 (0, 0)))
    (hm : w.heap[mb]? = some (.map #[] 0)) (hb : w.heap[bp]? = some (.cells #[.slice none 0 0, .slice none 0 0] 63 (0, 0))) (hr : w.heap[rb]? = some (.cells (ev (List.replicate 12 (0, 0))).toArray 41 (0, 0))) :
    (grO gp n o rb).J (fun b => b = gp ∨ b = mb ∨ b = bp ∨ b = rb) ws0 w := by
  have n1 : gp ≠ mb := fun e => by rw [e, hm] at hg; cases hg
  have n2 : gp ≠ bp := fun e => by rw [e, hb] at hg; simp at hg
  have n3 : gp ≠ rb := fun e => by rw [e, hr] at hg; simp at hg
  have n4 : mb ≠ bp := fun e => by rw [e, hb] at hm; cases hm
  have n5 : mb ≠ rb := fun e => by rw [e, hr] at hm; cases hm
  have n6 : bp ≠ rb := fun e => by rw [e, hr] at hb; simp at hb
  have o1 : ∀ b, (if b = gp then 1 else if b = mb then 2 else if b = bp then 3 else if b = rb then 4 else 0) ≠ (0 : Nat) ↔ b = gp ∨ b = mb ∨ b = bp ∨ b = rb := fun b => by
    by_cases e1 : b = gp
    · simp [e1]
    · by_cases e2 : b = mb
      · simp [e2, n1.symm]
      · by_cases e3 : b = bp
        · simp [e3, n2.symm, n4.symm]
        · by_cases e4 : b = rb
          · simp [e4, n3.symm, n5.symm, n6.symm]
          · simp [e1, e2, e3, e4]
  refine ⟨⟨fun b => if b = gp then 1 else if b = mb then 2 else if b = bp then 3 else if b = rb then 4 else 0, mb, bp, rb, fun _ => (none, 0), 0, 0, none, 0, none, 0⟩, ?_, rfl, fun b => (o1 b).symm⟩
  refine { blk := hg, bo := by dsimp only; rw [if_pos rfl], g2 := ?_, g3 := ?_, g4 := ?_, lt := fun b h => ?_ }
  · refine { mp := ?_, mn := Nat.le_refl _, mo := ?_, fl := fun i hi => ?_, fo := fun i hi => ?_, ag := fun i hi => ?_, al := Nat.le_refl _ }
    · show Mh w mb 0 (gvF [] _)
      rw [gvF_nil]
      exact mh_new hm
    · dsimp only
      rw [if_neg n1.symm, if_pos rfl]
    · exact absurd hi.1 (by simp [ws0])
    · exact absurd hi.1 (by simp [ws0])
    · exact absurd hi.1 (by simp [ws0])
  · refine { sd := ⟨hb, World.ownsRow_nil _ _ _ _, World.ownsRow_nil _ _ _ _⟩, so := ?_, ro := fun k e => ?_, qo := fun k e => ?_ }
    · dsimp only
      rw [if_neg n2.symm, if_neg n4.symm, if_pos rfl]
    · cases e
    · cases e
  · refine { rt := hr, rl := by simp [ws0], ro := ?_ }
    dsimp only
    rw [if_neg n3.symm, if_neg n5.symm, if_neg n6.symm, if_pos rfl]
  · rcases (o1 b).1 h with e | e | e | e
    · rw [e]; exact lt_of_some hg
    · rw [e]; exact lt_of_some hm
    · rw [e]; exact lt_of_some hb
    · rw [e]; exact lt_of_some hr

set_option maxRecDepth 100000 in
set_option maxHeartbeats 1000000 in
theorem newG_no (n o : Int) (w : World) (h : n < 16 ∨ 256 < n ∨ o < 0 ∨ 1024 < o) :
    Calls Try.prog 7 #[.int .i64 n, .int .i64 o] w fun e w' => e = .returned (.tuple #[.pointer none, .agg #[.int .i64 1, .int .i64 (-1)]]) ∧ Below w.heap.size w w' := by
  have hba := (Below.refl w.heap.size w).alloc (Nat.le_refl _) (.cells #[.int .i64 0, .int .i64 0] 26)
  have hr0 := heap_alloc_new w (.cells #[.int .i64 0, .int .i64 0] 26)
  have P := newH_no n o (w.alloc (.cells #[.int .i64 0, .int .i64 0] 26)) h
  clear h
  go_enter Try.func7, Try.ntmps7
  go_wp2_with fail
  refine P.mono ?_
  clear P
  rintro e w1 ⟨rfl, hb1⟩
  have hr1 := (hb1.block w.heap.size (by simp)).trans hr0
  have hB1 := hba.trans (hb1.mono (by simp))
  have hs1 := hb1.size
  simp at hs1
  have y0 : w1.cell? ⟨w.heap.size, 0, none⟩ = some (.int .i64 0) := by simp [World.cell?, hr1]
  have y1 : w1.cell? ⟨w.heap.size, 1, none⟩ = some (.int .i64 0) := by simp [World.cell?, hr1]
  have f0 : w1.frozen? ⟨w.heap.size, 0, none⟩ = false := by simp [World.frozen?, hr1]
  have f1 : w1.frozen? ⟨w.heap.size, 1, none⟩ = false := by simp [World.frozen?, hr1]
  have l1 : w.heap.size < w1.heap.size := by omega
  have hne : ¬ w.heap.size = w1.heap.size := by omega
  have hne2 : ¬ w1.heap.size = w.heap.size := by omega
  clear hb1 hr0 hba hr1
  go_wp2_with fail
  go_region_law (fail)
  all_goals
    obtain ⟨W0, hW0⟩ : ∃ W0, W0 = (w1.setCell ⟨w.heap.size, 0, none⟩ (.int .i64 1)).setCell ⟨w.heap.size, 1, none⟩ (.int .i64 (-1)) := ⟨_, rfl⟩
    rw [← hW0]
    have sz0 : W0.heap.size = w1.heap.size := by rw [hW0]; simp [World.setCell]
    have g0 : W0.cell? ⟨w.heap.size, 0, none⟩ = some (.int .i64 1) := by
      rw [hW0, World.cell?_setCell_other _ _ _ _ (by simp)]
      exact World.cell?_setCell_same _ _ _ y0
    have g1 : W0.cell? ⟨w.heap.size, 1, none⟩ = some (.int .i64 (-1)) := by
      rw [hW0]
      exact World.cell?_setCell_same _ _ _ ((World.cell?_setCell_other w1 ⟨w.heap.size, 0, none⟩ ⟨w.heap.size, 1, none⟩ _ (by simp)).trans y1)
    have hF0 : Below w.heap.size w W0 := by
      rw [hW0]
      exact hB1.trans ((((Fr.refl (fun k => k = w.heap.size) w1).set w.heap.size 0 _ rfl).set w.heap.size 1 _ rfl).below (Nat.le_of_lt l1) (fun x e => by have e : x = w.heap.size := e; omega))
    have hbN := ((Below.refl W0.heap.size W0).alloc (Nat.le_refl _) (.cells #[.int .i64 1, .int .i64 (-1)] 26)).drew
    have r0 := (hbN.cell (p := ⟨w.heap.size, 0, none⟩) (by show w.heap.size < _; omega)).trans g0
    have r1 := (hbN.cell (p := ⟨w.heap.size, 1, none⟩) (by show w.heap.size < _; omega)).trans g1
    have hfin := hF0.trans (hbN.mono (by omega))
    clear y0 y1 f0 f1 hW0 hbN g0 g1
    generalize (W0.alloc (.cells #[.int .i64 1, .int .i64 (-1)] 26)).drew = WF at *
    go_wp2_with fail
    refine bodyPost_ret (v := .tuple #[.pointer none, .agg #[.int .i64 1, .int .i64 (-1)]]) (by simp [results, Try.results7, go_sem, r0, r1]) rfl ⟨rfl, hfin⟩

set_option maxRecDepth 100000 in
set_option maxHeartbeats 2000000 in
theorem newG_yes (n o : Nat) (w : World) (h0 : 16 ≤ n) (h1 : n ≤ 256) (h3 : o ≤ 1024) :
    Calls Try.prog 7 #[.int .i64 n, .int .i64 o] w fun e w' => ∃ gp rb F, e = .returned (.tuple #[.pointer (some ⟨gp, 0, none⟩), .agg #[.int .i64 0, .int .i64 0]]) ∧ (grO gp n o rb).J F ws0 w' ∧ (∀ b, F b → w.heap.size ≤ b) ∧ Below w.heap.size w w' := by
  have hmm := @run_makeMap Try.prog
  have hba0 := (Below.refl w.heap.size w).alloc (Nat.le_refl _) (.cells #[.int .i64 0, .int .i64 0] 26)
  have P := newHs_yes n o (w.alloc (.cells #[.int .i64 0, .int .i64 0] 26)) h0 h1 h3
  have hf0 := heap_alloc_new w (.cells #[.int .i64 0, .int .i64 0] 26)
  have lf0 : w.heap.size < (w.alloc (.cells #[.int .i64 0, .int .i64 0] 26)).heap.size := by simp
  have HB0 : Hid (Below w.heap.size w (w.alloc (.cells #[.int .i64 0, .int .i64 0] 26))) := hba0
  clear hba0 h0 h1 h3
  go_enter Try.func7, Try.ntmps7
  go_wp2_with fail
  generalize w.alloc (.cells #[.int .i64 0, .int .i64 0] 26) = w0 at *
  generalize hfb : w.heap.size = fb at *
  refine P.mono ?_
  clear P
  rintro e w1 ⟨hp, rfl, hb1⟩
  have hfw := (hb1.block fb lf0).trans hf0
  have HJ : Hid (Below fb w w1) := HB0.out.trans (hb1.mono (by omega))
  have lw1 : fb < w1.heap.size := lt_of_some hfw
  clear hb1 hf0 HB0
  -- the four blocks that come
  have B1 := ((((Below.refl w1.heap.size w1).alloc (Nat.le_refl _) (.cells #[.int .i64 0, .int .i64 0] 26)).alloc (by simp) (.map #[] 0)).alloc (by simp; omega) (.cells #[.slice none 0 0, .slice none 0 0] 63)).alloc (by simp; omega) (.cells #[.int .i64 0, .int .i64 0] 41)
  have m1 : ((((w1.alloc (.cells #[.int .i64 0, .int .i64 0] 26)).alloc (.map #[] 0)).alloc (.cells #[.slice none 0 0, .slice none 0 0] 63)).alloc (.cells #[.int .i64 0, .int .i64 0] 41)).heap[w1.heap.size + 1]? = some (.map #[] 0) := by
    rw [Below.heap_alloc _ _ _ (by simp), Below.heap_alloc _ _ _ (by simp)]
    exact alloc_snd w1 _ _
  have m2 : ((((w1.alloc (.cells #[.int .i64 0, .int .i64 0] 26)).alloc (.map #[] 0)).alloc (.cells #[.slice none 0 0, .slice none 0 0] 63)).alloc (.cells #[.int .i64 0, .int .i64 0] 41)).heap[w1.heap.size + 1 + 1]? = some (.cells #[.slice none 0 0, .slice none 0 0] 63 (0, 0)) := by
    rw [Below.heap_alloc _ _ _ (by simp)]
    have := alloc_snd (w1.alloc (.cells #[.int .i64 0, .int .i64 0] 26)) (.map #[] 0) (.cells #[.slice none 0 0, .slice none 0 0] 63)
    simpa using this
  have m3 : ((((w1.alloc (.cells #[.int .i64 0, .int .i64 0] 26)).alloc (.map #[] 0)).alloc (.cells #[.slice none 0 0, .slice none 0 0] 63)).alloc (.cells #[.int .i64 0, .int .i64 0] 41)).heap[w1.heap.size + 1 + 1 + 1]? = some (.cells #[.int .i64 0, .int .i64 0] 41 (0, 0)) := by
    have := heap_alloc_new ((((w1.alloc (.cells #[.int .i64 0, .int .i64 0] 26)).alloc (.map #[] 0)).alloc (.cells #[.slice none 0 0, .slice none 0 0] 63))) (.cells #[.int .i64 0, .int .i64 0] 41)
    simpa using this
  have sz4 : ((((w1.alloc (.cells #[.int .i64 0, .int .i64 0] 26)).alloc (.map #[] 0)).alloc (.cells #[.slice none 0 0, .slice none 0 0] 63)).alloc (.cells #[.int .i64 0, .int .i64 0] 41)).heap.size = w1.heap.size + 1 + 1 + 1 + 1 := by simp
  obtain ⟨v0, v1, _, _⟩ := two_cells m3
  have PR := repeatV_any _ (w1.heap.size + 1 + 1 + 1) 12 (0, 0) (by decide) v0 v1
  have hf4 := (B1.block fb lw1).trans hfw
  have HM : Hid (_ ∧ _ ∧ _ ∧ _ ∧ _) := ⟨B1, m1, m2, hf4, sz4⟩
  clear B1 m1 m2 m3 v0 v1 hfw hf4 sz4
  go_wp2_with fail
  generalize (((w1.alloc (.cells #[.int .i64 0, .int .i64 0] 26)).alloc (.map #[] 0)).alloc (.cells #[.slice none 0 0, .slice none 0 0] 63)).alloc (.cells #[.int .i64 0, .int .i64 0] 41) = w4 at *
  refine PR.mono ?_
  clear PR
  rintro e w5 ⟨nb, rfl, hnb, hblk, hb5⟩
  obtain ⟨B1, m1, m2, hf4, sz4⟩ := HM.out
  have hf5 := (hb5.block fb (by omega)).trans hf4
  have HK : Hid (w5.heap[w1.heap.size + 1]? = some (.map #[] 0) ∧ w5.heap[w1.heap.size + 1 + 1]? = some (.cells #[.slice none 0 0, .slice none 0 0] 63 (0, 0)) ∧ w5.heap[nb]? = some (.cells (ev (List.replicate 12 (0, 0))).toArray 41 (0, 0)) ∧ w1.heap.size + 1 + 1 < nb ∧ Below fb w w5 ∧ w1.heap.size + 1 + 1 < w5.heap.size) :=
    ⟨(hb5.block _ (by omega)).trans m1, (hb5.block _ (by omega)).trans m2, hblk, by omega, (HJ.out.trans (B1.mono (by omega))).trans (hb5.mono (by omega)), lt_of_some ((hb5.block _ (by omega)).trans m2)⟩
  have y0 : w5.cell? ⟨fb, 0, none⟩ = some (.int .i64 0) := by simp [World.cell?, hf5]
  have y1 : w5.cell? ⟨fb, 1, none⟩ = some (.int .i64 0) := by simp [World.cell?, hf5]
  have z0 : w5.frozen? ⟨fb, 0, none⟩ = false := by simp [World.frozen?, hf5]
  have z1 : w5.frozen? ⟨fb, 1, none⟩ = false := by simp [World.frozen?, hf5]
  have lw5 : fb < w5.heap.size := lt_of_some hf5
  clear hf5 hb5 hblk hnb B1 m1 m2 hf4 sz4 HM
  go_wp2_with fail
  obtain ⟨W1, hW1⟩ : ∃ W1, W1 = (w5.setCell ⟨fb, 0, none⟩ (.int .i64 0)).setCell ⟨fb, 1, none⟩ (.int .i64 0) := ⟨_, rfl⟩
  rw [← hW1]
  have v0 : W1.cell? ⟨fb, 0, none⟩ = some (.int .i64 0) := by
    rw [hW1, World.cell?_setCell_other _ _ _ _ (by simp)]
    exact World.cell?_setCell_same _ _ _ y0
  have v1 : W1.cell? ⟨fb, 1, none⟩ = some (.int .i64 0) := by
    rw [hW1]
    exact World.cell?_setCell_same _ _ _ ((World.cell?_setCell_other w5 ⟨fb, 0, none⟩ ⟨fb, 1, none⟩ _ (by simp)).trans y1)
  have hF : Fr (fun k => k = fb) w5 W1 := by rw [hW1]; exact ((Fr.refl (fun k => k = fb) w5).set fb 0 _ rfl).set fb 1 _ rfl
  have hsz : W1.heap.size = w5.heap.size := by rw [hW1]; simp
  clear hW1
  obtain ⟨k1, k2, k3, k4, k5, k6⟩ := HK.out
  have hba := (Below.refl W1.heap.size W1).alloc (Nat.le_refl _) (.cells #[.int .i64 n, .int .i64 o, .map (some (w1.heap.size + 1)), .int .i64 0, .int .i64 0, .pointer (some ⟨w1.heap.size + 1 + 1, 0, none⟩), .slice (some ⟨nb, 0, none⟩) 12 12] 66)
  have hg := heap_alloc_new W1 (.cells #[.int .i64 n, .int .i64 o, .map (some (w1.heap.size + 1)), .int .i64 0, .int .i64 0, .pointer (some ⟨w1.heap.size + 1 + 1, 0, none⟩), .slice (some ⟨nb, 0, none⟩) 12 12] 66)
  rw [hsz] at hg
  have g0 := (hba.cell (p := ⟨fb, 0, none⟩) (by show fb < _; omega)).trans v0
  have g1 := (hba.cell (p := ⟨fb, 1, none⟩) (by show fb < _; omega)).trans v1
  have J := gv_start hg ((hba.block _ (by omega)).trans ((hF.block _ (by omega) (fun e => by have e : w1.heap.size + 1 = fb := e; omega)).trans k1)) ((hba.block _ (by omega)).trans ((hF.block _ (by omega) (fun e => by have e : w1.heap.size + 1 + 1 = fb := e; omega)).trans k2)) ((hba.block _ (by rw [hsz]; exact lt_of_some k3)).trans ((hF.block _ (lt_of_some k3) (fun e => by have e : nb = fb := e; omega)).trans k3))
  have hbW : Below fb w W1 := k5.trans (hF.below (Nat.le_of_lt lw5) (fun k e => Nat.le_of_eq (Eq.symm e)))
  refine bodyPost_ret (v := .tuple #[.pointer (some ⟨w5.heap.size, 0, none⟩), .agg #[.int .i64 0, .int .i64 0]]) (by simp only [results, Try.results7]; simp [go_sem, g0, g1]) rfl ⟨w5.heap.size, nb, _, rfl, J, fun b d => ?_, by rw [hfb]; exact hbW.trans (hba.mono (by omega))⟩
  rcases d with d | d | d | d <;> omega

end Go.Proofs.Ytjhnhbeimjnloaa

/- A grove's walk in memory: its block, its map, its nodes; what may turn while it goes. -/
namespace Go.Proofs.Ytjhnhbeimjnloaa
open Go.RowKit W Kp Stl

structure Kg (B : Nat) (w w' : World) : Prop where
  os : w'.os = w.os
  tape : w'.tape = w.tape
  output : w'.output = w.output
  size : w.heap.size ≤ w'.heap.size
  low : ∀ k : Nat, k < w.heap.size → k < B → w'.heap[k]? = w.heap[k]?
  oth : ∀ (k : Nat) cs e m, w.heap[k]? = some (Obj.cells cs e m) → e ≠ 75 → e ≠ 44 → w'.heap[k]? = w.heap[k]?

section
variable {B : Nat} {w w' w'' : World}
theorem Kg.refl (B : Nat) (w : World) : Kg B w w := ⟨rfl, rfl, rfl, Nat.le_refl _, fun _ _ _ => rfl, fun _ _ _ _ _ _ _ => rfl⟩
theorem Kg.trans (h : Kg B w w') (k : Kg B w' w'') : Kg B w w'' :=
  ⟨k.os.trans h.os, k.tape.trans h.tape, k.output.trans h.output, Nat.le_trans h.size k.size, fun i hi hb => (k.low i (Nat.lt_of_lt_of_le hi h.size) hb).trans (h.low i hi hb), fun i cs e m hi h1 h2 => (k.oth i cs e m ((h.oth i cs e m hi h1 h2).trans hi) h1 h2).trans (h.oth i cs e m hi h1 h2)⟩
theorem Kg.of (h : Below w.heap.size w w') : Kg B w w' := ⟨h.os, h.tape, h.output, h.size, fun k hk _ => h.block k hk, fun k _ _ _ hi _ _ => h.block k (lt_of_some hi)⟩
theorem Kg.below (h : Kg B w w') (hB : B ≤ w.heap.size) : Below B w w' := ⟨h.os, h.tape, h.output, h.size, fun k hk => h.low k (by omega) hk⟩
theorem Kg.set {pk o : Nat} {cs : Array Value} {m : Nat × Nat} {e : TypeId} {v : Value} (hp : w.heap[pk]? = some (.cells cs e m)) (he : e = 75 ∨ e = 44) (hB : B ≤ pk) : Kg B w (w.setCell ⟨pk, o, none⟩ v) :=
  ⟨rfl, rfl, rfl, by simp [World.setCell], fun k _ hk => Below.heap_setCell _ _ _ _ (fun c => by have c : k = pk := c; omega), fun k cs2 e2 m2 hk h1 h2 => Below.heap_setCell _ _ _ _ (fun c => by
    have c : k = pk := c
    rw [c, hp] at hk
    simp at hk
    rcases he with he | he
    · exact h1 (hk.2.1.symm.trans he)
    · exact h2 (hk.2.1.symm.trans he))⟩
theorem Kg.grown {row : Option Nat} (g : w.grownBy w' row) (hr : ∀ k, row = some k → B ≤ k ∧ ∀ cs e m, w.heap[k]? = some (.cells cs e m) → e = 75 ∨ e = 44) : Kg B w w' :=
  ⟨g.os, g.tape, g.output, g.size, fun k hk hb => g.block k hk (fun e => by have := (hr k e.symm).1; omega), fun k cs e m hk h1 h2 => g.block k (lt_of_some hk) (fun c => ((hr k c.symm).2 cs e m hk).elim h1 h2)⟩
theorem Lv.kg {ad : Option Addr} {l : List (Int × Int)} (h : Lv w ad l) (k : Kg B w w') : Lv w' ad l := by
  have hk : 0 < l.length → ∀ b, ad = some b → w'.heap[b.block]? = w.heap[b.block]? := fun hp b e => by
    obtain ⟨b0, o0, cs, e0, hb⟩ := h.2 hp
    rw [e0] at e
    cases e
    exact k.oth _ _ _ _ hb (by decide) (by decide)
  refine ⟨h.1.keep k.size hk, fun hp => ?_⟩
  obtain ⟨b0, o0, cs, e0, hb⟩ := h.2 hp
  exact ⟨b0, o0, cs, e0, (hk hp _ e0).trans hb⟩
end

def Kvg (w0 w : World) (m : List Vnd) (w' : World) (m' : List Vnd) : Prop := Kg w0.heap.size w w' ∧ ∀ k, Fb m' k → Fb m k ∨ w.heap.size ≤ k
theorem Kvg.refl (w0 w : World) (m : List Vnd) : Kvg w0 w m w m := ⟨Kg.refl _ _, fun _ h => Or.inl h⟩
theorem Kvg.trans {w0 w w' w'' : World} {m m' m'' : List Vnd} (h : Kvg w0 w m w' m') (k : Kvg w0 w' m' w'' m'') : Kvg w0 w m w'' m'' :=
  ⟨h.1.trans k.1, fun i hi => (k.2 i hi).elim (h.2 i) (fun c => Or.inr (Nat.le_trans h.1.size c))⟩
theorem Kvg.of {w0 w w' : World} {m : List Vnd} (h : Below w.heap.size w w') : Kvg w0 w m w' m := ⟨Kg.of h, fun _ h => Or.inl h⟩
theorem Kvg.new {w0 w w' w'' : World} {m m' : List Vnd} {X : Nat → Prop} (h : Kvg w0 w m w' m') (f : Fr X w' w'') (hx : ∀ k, X k → w.heap.size ≤ k) : Kvg w0 w m w'' m' :=
  ⟨⟨f.os.trans h.1.os, f.tape.trans h.1.tape, f.output.trans h.1.output, Nat.le_trans h.1.size f.size, fun k hk hb => (f.block k (Nat.lt_of_lt_of_le hk h.1.size) (fun c => by have := hx k c; omega)).trans (h.1.low k hk hb),
    fun k cs e mm hk h1 h2 => (f.block k (Nat.lt_of_lt_of_le (lt_of_some hk) h.1.size) (fun c => by have := hx k c; have := lt_of_some hk; omega)).trans (h.1.oth k cs e mm hk h1 h2)⟩, h.2⟩

def mtF (ms : List Int) (x : Int) : Option Value := if ms.contains x = true then some (.int .i64 (ms.idxOf x : Int)) else none
theorem mtF_snoc {ms : List Int} {a : Int} (hn : a ∉ ms) : upm (mtF ms) a (.int .i64 ms.length) = mtF (ms ++ [a]) := by
  funext b
  unfold upm mtF
  by_cases e : b = a
  · subst e
    rw [if_pos rfl, if_pos (by simp), List.idxOf_append, if_neg hn]
    simp
  · rw [if_neg e]
    by_cases c : b ∈ ms
    · rw [if_pos (by simp [c]), if_pos (by simp [c]), List.idxOf_append, if_pos c]
    · rw [if_neg (by simpa using c), if_neg (by simp [c, e])]
theorem mtF_no {ms : List Int} {a : Int} (h : a ∉ ms) : mtF ms a = none := by unfold mtF; rw [if_neg (by simpa using h)]
theorem mtF_yes {ms : List Int} {a : Int} (h : a ∈ ms) : mtF ms a = some (.int .i64 (ms.idxOf a : Int)) := by unfold mtF; rw [if_pos (by simpa using h)]

structure Wkg (w0 w : World) (kb mq gp : Nat) (s : Vst) (vn : Value) (m : List Vnd) : Prop where
  blk : w.heap[kb]? = some (.cells #[.pointer (some ⟨gp, 0, none⟩), .map (some mq), vn] 75 (0, 0))
  lo : w0.heap.size ≤ kb ∧ w0.heap.size ≤ mq
  mp : Mh w mq s.1.length (mtF s.1)
  row : w.ownsRow w0.heap.size 44 2 vn m.length (nv m)
  nd : nds m = s.2
  fl : ∀ x ∈ m, Lv w x.2.1 x.2.2.2
  bel : Below w0.heap.size w0 w

section
variable {w0 w w' : World} {kb mq gp : Nat} {s : Vst} {vn : Value} {m : List Vnd}
theorem Wkg.below (h : Wkg w0 w kb mq gp s vn m) (hb : Below w.heap.size w w') : Wkg w0 w' kb mq gp s vn m :=
  ⟨(hb.block kb (lt_of_some h.blk)).trans h.blk, h.lo, h.mp.same (hb.block mq h.mp.lt), row_keep h.row (fun k hk => hb.block k (row_lt h.row k hk).2), h.nd, fun x hx => (h.fl x hx).kg (Kg.of (B := 0) hb), h.bel.trans (hb.mono h.bel.size)⟩
theorem Wkg.cells (h : Wkg w0 w kb mq gp s vn m) : w.cell? ⟨kb, 0, none⟩ = some (.pointer (some ⟨gp, 0, none⟩)) ∧ w.cell? ⟨kb, 1, none⟩ = some (.map (some mq)) ∧ w.cell? ⟨kb, 2, none⟩ = some vn ∧ kb < w.heap.size :=
  ⟨by simp [World.cell?, h.blk], by simp [World.cell?, h.blk], by simp [World.cell?, h.blk], lt_of_some h.blk⟩
theorem Wkg.len (h : Wkg w0 w kb mq gp s vn m) : m.length = s.2.length := by rw [← h.nd]; simp [nds]
theorem Wkg.fb (h : Wkg w0 w kb mq gp s vn m) (k : Nat) (hk : Fb m k) : k < w.heap.size := by
  obtain ⟨x, hx, hl, o, e⟩ := hk
  obtain ⟨b, o', cs, e', hb⟩ := (h.fl x hx).2 hl
  rw [e] at e'
  cases e'
  exact lt_of_some hb
theorem Wkg.but {X : Nat → Prop} (h : Wkg w0 w kb mq gp s vn m) (f : Fr X w w') (hX : ∀ k, k < w.heap.size → X k → (∃ cs, w.heap[k]? = some (.cells cs 41 (0, 0))) ∧ ¬ Fb m k ∧ w0.heap.size ≤ k) : Wkg w0 w' kb mq gp s vn m := by
  obtain ⟨es, ck, hmb⟩ := h.mp.blk
  have n1 : ¬ X kb := fun c => by
    obtain ⟨⟨cs, hc⟩, _⟩ := hX kb (lt_of_some h.blk) c
    rw [h.blk] at hc
    simp at hc
  have n2 : ¬ X mq := fun c => by
    obtain ⟨⟨cs, hc⟩, _⟩ := hX mq h.mp.lt c
    rw [hmb] at hc
    simp at hc
  refine ⟨(f.block kb (lt_of_some h.blk) n1).trans h.blk, h.lo, h.mp.same (f.block mq h.mp.lt n2), row_keep h.row (fun k hk => f.block k (row_lt h.row k hk).2 (fun c => ?_)), h.nd, fun x hx => ?_, h.bel.trans ⟨f.os, f.tape, f.output, f.size, fun k hk => f.block k (Nat.lt_of_lt_of_le hk h.bel.size) (fun c => by have := (hX k (Nat.lt_of_lt_of_le hk h.bel.size) c).2.2; omega)⟩⟩
  · obtain ⟨⟨cs, hc⟩, _⟩ := hX k (row_lt h.row k hk).2 c
    obtain ⟨cur, hcur⟩ := row_type h.row k hk
    rw [hcur] at hc
    simp at hc
  · have hl := h.fl x hx
    have hk : 0 < x.2.2.2.length → ∀ b, x.2.1 = some b → w'.heap[b.block]? = w.heap[b.block]? := fun hp b e => by
      obtain ⟨b0, o0, cs, e0, hb⟩ := hl.2 hp
      have e' := e
      rw [e0] at e'
      cases e'
      exact f.block _ (lt_of_some hb) (fun c => (hX _ (lt_of_some hb) c).2.1 ⟨x, hx, hp, o0, e0⟩)
    refine ⟨hl.1.keep f.size hk, fun hp => ?_⟩
    obtain ⟨b0, o0, cs, e0, hb⟩ := hl.2 hp
    exact ⟨b0, o0, cs, e0, (hk hp _ e0).trans hb⟩
end

end Go.Proofs.Ytjhnhbeimjnloaa

/- A grove's walk: what a node shows: a contract. -/
namespace Go.Proofs.Ytjhnhbeimjnloaa
open Go.RowKit W Kp Stl

def shG (T : List Tw1) (wt : List En) (a : Int) : List (Int × Int) := if (T.getD a.toNat t0).1 = 5 then (atL wt a).map (fun x => ((3 : Int), x)) else (T.getD a.toNat t0).2.1
theorem shG_W {T : List Tw1} {wt : List En} {a : Int} (h5 : (T.getD a.toNat t0).1 = 5 → (T.getD a.toNat t0).2.1 = []) : (shG T wt a).map wI = shW T wt a := by
  unfold shG shW
  by_cases c : (T.getD a.toNat t0).1 = 5
  · rw [if_pos c, if_pos c, h5 c]
    simp [atL, wI]
  · rw [if_neg c, if_neg c, List.append_nil]

section
variable {gp : Nat} {most grow : Int} {l : Gl} {s : Wrs} {w : World}

set_option maxRecDepth 100000 in
set_option maxHeartbeats 2000000 in
theorem shownG_any (h : Gvy gp most grow l s w) (kb : Nat) (hk : w.cell? ⟨kb, 0, none⟩ = some (.pointer (some ⟨gp, 0, none⟩))) (a : Int) (ha : 0 ≤ a ∧ Alv s.T a.toNat) (hT : s.T.length ≤ 10000) (hw : s.wt.length ≤ 10000) :
    Calls Try.prog 88 #[.pointer (some ⟨kb, 0, none⟩), .int .i64 a] w fun e w' => ∃ ad cap, e = .returned (.slice ad (shG s.T s.wt a).length cap) ∧ Lv w' ad (shG s.T s.wt a) ∧ Below w.heap.size w w' := by
  obtain ⟨i0, hi, hz0, hz1, hz2⟩ := info_parts infoVn
  have al : a < 10000 := by have := ha.2.1; omega
  have L := h.g2.mp.look (t := 59) (e := 80) Try.underlying59 (zeroTh w) (x := a) ha.1 (by omega)
  rw [gvF_yes ha] at L
  dsimp only [Option.getD_some, thV, fsV] at L
  obtain ⟨_, _, c2, _, _, c5, _, _, lg⟩ := h.cells
  have lk := World.block_lt_of_cell? w _ hk
  have hF := Lv.of (h.g2.fl a.toNat ha.2)
  have b1 := (Below.refl w.heap.size w).alloc (Nat.le_refl _) (.cells #[.int .i64 (s.T.getD a.toNat t0).1, .slice (l.fm a.toNat).1 (s.T.getD a.toNat t0).2.1.length (l.fm a.toNat).2] 80)
  have hF1 := hF.kg (Kg.of (B := 0) b1)
  have g1 := h.below b1
  have PA := atS_any _ l.bp _ l.a1 l.k1 s.wt a g1.g3.sd.blk (row_pairs g1.g3.sd.q0) (by omega)
  have hal := Nat.le_trans (atL_len s.wt a) hw
  by_cases h5 : (s.T.getD a.toNat t0).1 = 5
  · have e0 : shG s.T s.wt a = (atL s.wt a).map (fun x => ((3 : Int), x)) := by unfold shG; rw [if_pos h5]
    rw [e0]
    rw [h5] at L b1 PA
    have HB : Hid (Below w.heap.size w (w.alloc (.cells #[.int .i64 5, .slice (l.fm a.toNat).1 (s.T.getD a.toNat t0).2.1.length (l.fm a.toNat).2] 80))) := b1
    clear e0 h5 hF hF1 g1 b1 h ha
    generalize (l.fm a.toNat).1 = ad at *
    generalize (l.fm a.toNat).2 = cp at *
    generalize (s.T.getD a.toNat t0).2.1.length = n at *
    generalize atL s.wt a = A at *
    rw [List.length_map]
    go_enter Try.func88, Try.ntmps88
    go_wp2_with fail
    refine PA.mono ?_
    clear PA
    rintro e w1 ⟨ad1, cap1, rfl, hr1, hb1⟩
    have HB1 : Hid (Below w.heap.size w w1) := HB.out.trans (hb1.mono HB.out.size)
    have HR : Hid (Ls w1 ad1 A) := row_ints hr1
    have s1 := HB1.out.size
    have HQ : Hid (∀ k, some k = (Value.slice ad1 A.length cap1).ownBlock → w.heap.size + 1 ≤ k ∧ k < w1.heap.size) := fun k e => by
      have := row_lt hr1 k e
      simpa using this
    clear hb1 hr1 HB L c2 c5 hk
    go_wp2_with fail
    go_loopw [6, 33] (fun tv iv wr => ∃ (j : Nat) (at1 : Option Addr) (ct : Nat), j ≤ A.length ∧ iv = .int .i64 j ∧ tv = .slice at1 j ct ∧ wr.ownsRow w1.heap.size 41 2 (.slice at1 j ct) j (ev ((A.take j).map (fun x => ((3 : Int), x)))) ∧ Below w1.heap.size w1 wr) (fun _ iv _ => A.length - (intOf iv).toNat)
    case atStart => exact ⟨0, none, 0, Nat.zero_le _, rfl, rfl, World.ownsRow_nil _ _ _ _, Below.refl _ _⟩
    case round =>
      obtain ⟨j, at1, ct, hj, rfl, rfl, hT1, hb⟩ := hrel
      by_cases hlt : j < A.length
      · obtain ⟨bb, o, ead, lb, hcl⟩ := HR.out (by omega)
        have hc := (hb.cell (p := ⟨bb, o + j, none⟩) lb).trans (hcl j hlt)
        have EL : Hid (ev ((A.take (j + 1)).map (fun x => ((3 : Int), x))) = ev ((A.take j).map (fun x => ((3 : Int), x))) ++ [.int .i64 3, .int .i64 (A.getD j 0)]) := by
          show _ = _
          rw [take_snoc A j hlt 0, List.map_append, ev_append]
          rfl
        subst ead
        have hsz := hb.size
        have n3 : IntKind.i64.wrap ((j : Int) + 1) = (j : Int) + 1 := by rw [IntKind.wrap_i64]; omega
        clear hcl
        generalize A.getD j 0 = y at *
        generalize ev ((A.take j).map (fun x => ((3 : Int), x))) = L at *
        go_wp2_with fail
        refine (refValue_any y wr).mono ?_
        rintro e w2 ⟨rfl, hb2⟩
        have hT2 := row_keep hT1 (fun k e => hb2.block k (row_lt hT1 k e).2)
        have hb12 := hb.trans (hb2.mono hsz)
        have hsz2 := hb12.size
        clear hT1 hb hb2 hc
        go_wp2_with (at_builtin; refine wpList_append_own_at _ rfl _ _ 32 rfl w1.heap.size 41 i0 (.agg #[.int .i64 0, .int .i64 0]) 2 16 Try.underlying32 hi hz0 hz1 hz2 rfl (by decide) (.slice at1 j ct) j L rfl (row_alloc hT2 _) ⟨w2.heap.size, 0, none⟩ 1 1 [.int .i64 3, .int .i64 y] rfl rfl ?_ ?_ ?_ ?_ ?_ ?_; (intro j u hj; match j, hj with | 0, hj => (simp at hj; subst hj; simp [Addr.add]) | 1, hj => (simp at hj; subst hj; simp [Addr.add])); (intro u hu; simp at hu; rcases hu with hu | hu <;> (subst hu; rfl)); (unfold maxLen; omega); omega; (simp; omega); intro v' w4 hown4 hgrow4 _ hloc4; obtain ⟨b4, cap4, ev4⟩ := row_shape hown4 (Nat.succ_pos _); subst ev4)
        have hT4 : w4.ownsRow w1.heap.size 41 2 (.slice (some ⟨b4, 0, none⟩) (j + 1) cap4) (j + 1) (ev ((A.take (j + 1)).map (fun x => ((3 : Int), x)))) := by rw [EL.out]; exact hown4
        have hb4 := (hb12.alloc hsz2 _).grown hgrow4 (by simp; omega) (fun k e => (row_lt hT2 k e.symm).1)
        clear hown4 hgrow4 hloc4 hT2 hb12 EL
        go_wp2_with fail
        go_roundw
        case rel => exact ⟨j + 1, some ⟨b4, 0, none⟩, cap4, by omega, by go_num, rfl, hT4, hb4⟩
        case measure => simp [intOf]; omega
      · obtain rfl : j = A.length := by omega
        rw [List.take_length] at hT1
        go_wp2_with fail
        go_ret
        refine ⟨at1, ct, rfl, ?_, HB1.out.trans (hb.mono s1)⟩
        have hT3 : wr.ownsRow w1.heap.size 41 2 (.slice at1 (A.map (fun x => ((3 : Int), x))).length ct) (A.map (fun x => ((3 : Int), x))).length (ev (A.map (fun x => ((3 : Int), x)))) := by rw [List.length_map]; exact hT1
        exact Lv.of hT3
  · have e0 : shG s.T s.wt a = (s.T.getD a.toNat t0).2.1 := by unfold shG; rw [if_neg h5]
    rw [e0]
    have k5 : ((s.T.getD a.toNat t0).1 != 5) = true := by simpa using h5
    have HB : Hid (_ ∧ _) := ⟨hF1, b1⟩
    clear e0 h5 hF hF1 g1 b1 h ha PA hal
    generalize (s.T.getD a.toNat t0).2.1 = f at *
    generalize (l.fm a.toNat).1 = ad at *
    generalize (l.fm a.toNat).2 = cp at *
    generalize (s.T.getD a.toNat t0).1 = kd at *
    go_enter Try.func88, Try.ntmps88
    go_wp2_with fail
    go_ret
    exact ⟨ad, ⟨cp, rfl⟩, HB.out.1, HB.out.2⟩
end

end Go.Proofs.Ytjhnhbeimjnloaa
