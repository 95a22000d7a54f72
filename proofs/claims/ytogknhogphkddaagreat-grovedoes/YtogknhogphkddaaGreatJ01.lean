/- Joined: Words, Words2, Ar, Sm, Tnx, Sm1. -/
import Derived.Test.YtogknhogphkddaaGreatChecked
import Derived.Test.YtogknhogphkddaaGreatJ00
import Derived.WalkKit
import Derived.WalkSpells
import Derived.Deep.QuietTactic
import Derived.BigQuiet
import Derived.WalkSmall
import Derived.Laws.CopyOwn
import Derived.Maps.AppendAt
/- What the functions of package word, and their twins of the document's answer, return at whatever numbers: contracts, over the seat's own translation; nothing that was in memory turns. -/
namespace Go.Proofs.YtogknhogphkddaaGreat
open Go.RowKit W

set_option maxRecDepth 100000 in
set_option maxHeartbeats 400000 in
theorem rangeCode_any (n low : Int) (w : World) :
    Calls Tryz.prog 108 #[.int .i64 n, .int .i64 low] w fun e w' => e = .returned (.int .i64 (rc n low)) ∧ w' = w := by
  by_cases c1 : n < low
  · have e : rc n low = 1 := by unfold rc; rw [if_pos c1]
    rw [e]
    go_enter Tryz.func108, Tryz.ntmps108
    go_wp2
    go_ret
    exact ⟨rfl, rfl⟩
  · by_cases c2 : 1152921504606846976 ≤ n
    · have e : rc n low = 1 := by unfold rc; rw [if_neg c1, if_pos c2]
      rw [e]
      go_enter Tryz.func108, Tryz.ntmps108
      go_wp2
      go_ret
      exact ⟨rfl, rfl⟩
    · have e : rc n low = 0 := by unfold rc; rw [if_neg c1, if_neg c2]
      rw [e]
      go_enter Tryz.func108, Tryz.ntmps108
      go_wp2
      go_ret
      exact ⟨rfl, rfl⟩

set_option maxRecDepth 100000 in
set_option maxHeartbeats 400000 in
theorem tagOf_any (k : Int) (w : World) :
    Calls Tryz.prog 96 #[.int .i64 k] w fun e w' => e = .returned (.int .i64 (tg k)) ∧ w' = w := by
  by_cases c1 : k = 1
  · subst c1
    go_enter Tryz.func96, Tryz.ntmps96
    go_wp2
    go_ret
    exact ⟨rfl, rfl⟩
  · by_cases c3 : k = 3
    · subst c3
      go_enter Tryz.func96, Tryz.ntmps96
      go_wp2
      go_ret
      exact ⟨rfl, rfl⟩
    · by_cases c0 : k = 0
      · subst c0
        go_enter Tryz.func96, Tryz.ntmps96
        go_wp2
        go_ret
        exact ⟨rfl, rfl⟩
      · have e : tg k = 3 := by unfold tg; rw [if_neg c1, if_neg c3, if_neg c0]
        rw [e]
        go_enter Tryz.func96, Tryz.ntmps96
        go_wp2
        go_ret
        exact ⟨rfl, rfl⟩

theorem vc0 (n : Int) : vc 0 n = if n = 0 then 0 else 7 := by simp [vc]
theorem vc2 (n : Int) : vc 2 n = if n = 0 then 0 else 7 := by simp [vc]
theorem vc1 (n : Int) : vc 1 n = rc n (-1152921504606846976) := by simp [vc]
theorem vc3 (n : Int) : vc 3 n = rc n 0 := by simp [vc]

set_option maxRecDepth 100000 in
set_option maxHeartbeats 400000 in
theorem valueCode_any (k n : Int) (w : World) :
    Calls Tryz.prog 95 #[.agg #[.int .i64 k, .int .i64 n]] w fun e w' => e = .returned (.int .i64 (vc k n)) ∧ Below w.heap.size w w' := by
  by_cases c0 : k = 0
  · subst c0
    rw [vc0]
    by_cases c : n = 0
    · subst c
      go_enter Tryz.func95, Tryz.ntmps95
      go_wp2
      go_ret
      exact ⟨rfl, (Below.refl _ _).alloc (Nat.le_refl _) _⟩
    · rw [if_neg c]
      go_enter Tryz.func95, Tryz.ntmps95
      go_wp2
      go_ret
      exact ⟨rfl, (Below.refl _ _).alloc (Nat.le_refl _) _⟩
  · by_cases c2 : k = 2
    · subst c2
      rw [vc2]
      by_cases c : n = 0
      · subst c
        go_enter Tryz.func95, Tryz.ntmps95
        go_wp2
        go_ret
        exact ⟨rfl, (Below.refl _ _).alloc (Nat.le_refl _) _⟩
      · rw [if_neg c]
        go_enter Tryz.func95, Tryz.ntmps95
        go_wp2
        go_ret
        exact ⟨rfl, (Below.refl _ _).alloc (Nat.le_refl _) _⟩
    · by_cases c1 : k = 1
      · subst c1
        rw [vc1]
        go_enter Tryz.func95, Tryz.ntmps95
        go_wp2_with (go_at_call 108; refine (rangeCode_any _ _ _).mono ?_; rintro e w' ⟨rfl, rfl⟩)
        go_ret
        exact ⟨rfl, (Below.refl _ _).alloc (Nat.le_refl _) _⟩
      · by_cases c3 : k = 3
        · subst c3
          rw [vc3]
          go_enter Tryz.func95, Tryz.ntmps95
          go_wp2_with (go_at_call 108; refine (rangeCode_any _ _ _).mono ?_; rintro e w' ⟨rfl, rfl⟩)
          go_ret
          exact ⟨rfl, (Below.refl _ _).alloc (Nat.le_refl _) _⟩
        · have e : vc k n = 2 := by unfold vc; rw [if_neg c0, if_neg c2, if_neg c1, if_neg c3]
          rw [e]
          go_enter Tryz.func95, Tryz.ntmps95
          go_wp2
          go_ret
          exact ⟨rfl, (Below.refl _ _).alloc (Nat.le_refl _) _⟩

theorem bcell {B : Nat} {W w1 : World} (hb : Below B W w1) : (∀ b o, b < B → w1.cell? ⟨b, o, none⟩ = W.cell? ⟨b, o, none⟩) ∧ (∀ b o, b < B → w1.frozen? ⟨b, o, none⟩ = W.frozen? ⟨b, o, none⟩) :=
  ⟨fun b o h => hb.cell (p := ⟨b, o, none⟩) h, fun b o h => hb.frozen (p := ⟨b, o, none⟩) h⟩

theorem cells2 {w w1 : World} {a b : Value} {t : TypeId} (hb : Below (w.alloc (.cells #[a, b] t)).heap.size (w.alloc (.cells #[a, b] t)) w1) :
    w1.cell? ⟨w.heap.size, 0, none⟩ = some a ∧ w1.cell? ⟨w.heap.size, 1, none⟩ = some b ∧ w.heap.size + 1 ≤ w1.heap.size := by
  obtain ⟨hc, _⟩ := bcell hb
  have hz := hb.size
  refine ⟨?_, ?_, by simpa using hz⟩
  · rw [hc _ _ (by simp)]; simp [go_sem]
  · rw [hc _ _ (by simp)]; simp [go_sem]

theorem ret_two {a b : Int} {c : Value} (h : a = b) : Ending.returned (.tuple #[.int .i64 a, c]) = .returned (.tuple #[.int .i64 b, c]) := by rw [h]

set_option maxRecDepth 100000 in
set_option maxHeartbeats 400000 in
theorem encode_any (k n : Int) (w : World) :
    Calls Tryz.prog 80 #[.agg #[.int .i64 k, .int .i64 n]] w fun e w' => e = .returned (.tuple #[.int .i64 (ew k n), .int .i64 (vc k n)]) ∧ Below w.heap.size w w' := by
  by_cases h : vc k n = 0
  · rw [ew_yes k n h]
    have hn := vc_bd k n h
    have H : Hid (vc k n = 0) := h
    clear h
    rw [H.out]
    have E : Hid (bits .or .i64 (n * 4) (tg k) = 4 * n + tg k) := enc_or k n hn.1 hn.2
    go_enter Tryz.func80, Tryz.ntmps80
    go_wp2_with fail
    refine (valueCode_any k n _).mono ?_
    rintro e w1 ⟨rfl, hb⟩
    rw [H.out]
    obtain ⟨hc, hf⟩ := bcell hb
    go_wp2_with fail
    go_quiet ((go_at_call 96; exact Calls.quiet_of_same (tagOf_any _ _)))
    go_wp2_with fail
    go_ret2
    exact ⟨ret_two E.out, below_drewN (((Below.refl _ _).alloc (Nat.le_refl _) _).trans (hb.mono (by simp))) _⟩
  · rw [ew_no k n h]
    have hc : (vc k n != 0) = true := by simpa using h
    go_enter Tryz.func80, Tryz.ntmps80
    go_wp2_with fail
    refine (valueCode_any k n _).mono ?_
    rintro e w1 ⟨rfl, hb⟩
    go_wp2_with fail
    go_ret2
    exact ⟨rfl, ((Below.refl _ _).alloc (Nat.le_refl _) _).trans (hb.mono (by simp))⟩

end Go.Proofs.YtogknhogphkddaaGreat

/- What the functions of package word that ask others of it return at whatever numbers: contracts, over the seat's own translation; nothing that was in memory turns. -/
namespace Go.Proofs.YtogknhogphkddaaGreat
open Go.RowKit W

set_option maxRecDepth 100000 in
set_option maxHeartbeats 400000 in
theorem nil_any (w : World) : Calls Tryz.prog 60 #[] w fun e w' => e = .returned (.int .i64 2) ∧ w' = w := by
  go_enter Tryz.func60, Tryz.ntmps60
  go_wp2
  go_ret
  exact ⟨rfl, rfl⟩

set_option maxRecDepth 100000 in
set_option maxHeartbeats 400000 in
theorem fieldBounds_any (k : Int) (w : World) :
    Calls Tryz.prog 81 #[.int .i64 k] w fun e w' => e = .returned (.tuple #[.int .i64 (fl k), .int .i64 (fm k), .bool (fk k)]) ∧ w' = w := by
  by_cases c1 : k = 1
  · subst c1
    go_enter Tryz.func81, Tryz.ntmps81
    go_wp2
    go_ret3
    exact ⟨rfl, rfl⟩
  by_cases c2 : k = 2
  · subst c2
    go_enter Tryz.func81, Tryz.ntmps81
    go_wp2
    go_ret3
    exact ⟨rfl, rfl⟩
  by_cases c3 : k = 3
  · subst c3
    go_enter Tryz.func81, Tryz.ntmps81
    go_wp2
    go_ret3
    exact ⟨rfl, rfl⟩
  by_cases c4 : k = 4
  · subst c4
    go_enter Tryz.func81, Tryz.ntmps81
    go_wp2
    go_ret3
    exact ⟨rfl, rfl⟩
  by_cases c5 : k = 5
  · subst c5
    go_enter Tryz.func81, Tryz.ntmps81
    go_wp2
    go_ret3
    exact ⟨rfl, rfl⟩
  have e1 : fl k = 0 := by simp [fl, c1, c3, c4]
  have e2 : fm k = 0 := by simp [fm, c1, c2, c3, c4]
  have e3 : fk k = false := by simp [fk, c1, c2, c3, c4, c5]
  rw [e1, e2, e3]
  clear e1 e2 e3
  go_enter Tryz.func81, Tryz.ntmps81
  go_wp2
  go_ret3
  exact ⟨rfl, rfl⟩

set_option maxRecDepth 100000 in
set_option maxHeartbeats 400000 in
theorem head_yes (k f : Int) (w : World) (h : hc k f = 0) :
    Calls Tryz.prog 64 #[.int .i64 k, .int .i64 f] w fun e w' => e = .returned (.tuple #[.int .i64 (16 * f + k), .int .i64 0]) ∧ w' = w := by
  rcases hc_yes k f h with ⟨rfl, rfl⟩ | ⟨rfl, rfl⟩ | ⟨rfl, rfl⟩ | ⟨rfl, h1, h2⟩ | ⟨rfl, rfl⟩
  · clear h
    go_enter Tryz.func64, Tryz.ntmps64
    go_wp2_with fail
    refine (fieldBounds_any _ _).mono ?_
    rintro e w1 ⟨rfl, rfl⟩
    rw [show fl 1 = 2 from rfl, show fm 1 = 2 from rfl, show fk 1 = true from rfl]
    go_wp2
    go_ret2
    exact ⟨ret_two (by decide +kernel), rfl⟩
  · clear h
    go_enter Tryz.func64, Tryz.ntmps64
    go_wp2_with fail
    refine (fieldBounds_any _ _).mono ?_
    rintro e w1 ⟨rfl, rfl⟩
    rw [show fl 3 = 2 from rfl, show fm 3 = 2 from rfl, show fk 3 = true from rfl]
    go_wp2
    go_ret2
    exact ⟨ret_two (by decide +kernel), rfl⟩
  · clear h
    go_enter Tryz.func64, Tryz.ntmps64
    go_wp2_with fail
    refine (fieldBounds_any _ _).mono ?_
    rintro e w1 ⟨rfl, rfl⟩
    rw [show fl 4 = 2 from rfl, show fm 4 = 2 from rfl, show fk 4 = true from rfl]
    go_wp2
    go_ret2
    exact ⟨ret_two (by decide +kernel), rfl⟩
  · have E : Hid (bits .or .i64 (f * 16) 2 = 16 * f + 2) := head_or 2 f h
    clear h
    go_enter Tryz.func64, Tryz.ntmps64
    go_wp2_with fail
    refine (fieldBounds_any _ _).mono ?_
    rintro e w1 ⟨rfl, rfl⟩
    rw [show fl 2 = 0 from rfl, show fm 2 = 12 from rfl, show fk 2 = true from rfl]
    go_wp2
    go_ret2
    exact ⟨ret_two E.out, rfl⟩
  · clear h
    go_enter Tryz.func64, Tryz.ntmps64
    go_wp2_with fail
    refine (fieldBounds_any _ _).mono ?_
    rintro e w1 ⟨rfl, rfl⟩
    rw [show fl 5 = 0 from rfl, show fm 5 = 0 from rfl, show fk 5 = true from rfl]
    go_wp2
    go_ret2
    exact ⟨ret_two (by decide +kernel), rfl⟩

set_option maxRecDepth 100000 in
set_option maxHeartbeats 400000 in
theorem head_no1 (k f : Int) (w : World) (h : (k = 1 ∧ f < 2) ∨ (k = 1 ∧ 2 < f) ∨ (k = 3 ∧ f < 2) ∨ (k = 3 ∧ 2 < f) ∨ (k = 4 ∧ f < 2) ∨ (k = 4 ∧ 2 < f) ∨ (k = 2 ∧ f < 0) ∨ (k = 2 ∧ 12 < f) ∨ (k = 5 ∧ f < 0) ∨ (k = 5 ∧ 0 < f)) :
    Calls Tryz.prog 64 #[.int .i64 k, .int .i64 f] w fun e w' => e = .returned (.tuple #[.int .i64 0, .int .i64 1]) ∧ w' = w := by
  rcases h with ⟨rfl, h⟩ | ⟨rfl, h⟩ | ⟨rfl, h⟩ | ⟨rfl, h⟩ | ⟨rfl, h⟩ | ⟨rfl, h⟩ | ⟨rfl, h⟩ | ⟨rfl, h⟩ | ⟨rfl, h⟩ | ⟨rfl, h⟩
  · go_enter Tryz.func64, Tryz.ntmps64
    go_wp2_with fail
    refine (fieldBounds_any _ _).mono ?_
    rintro e w1 ⟨rfl, rfl⟩
    rw [show fl 1 = 2 from rfl, show fm 1 = 2 from rfl, show fk 1 = true from rfl]
    go_wp2
    go_ret2
    exact ⟨rfl, rfl⟩
  · go_enter Tryz.func64, Tryz.ntmps64
    go_wp2_with fail
    refine (fieldBounds_any _ _).mono ?_
    rintro e w1 ⟨rfl, rfl⟩
    rw [show fl 1 = 2 from rfl, show fm 1 = 2 from rfl, show fk 1 = true from rfl]
    go_wp2
    go_ret2
    exact ⟨rfl, rfl⟩
  · go_enter Tryz.func64, Tryz.ntmps64
    go_wp2_with fail
    refine (fieldBounds_any _ _).mono ?_
    rintro e w1 ⟨rfl, rfl⟩
    rw [show fl 3 = 2 from rfl, show fm 3 = 2 from rfl, show fk 3 = true from rfl]
    go_wp2
    go_ret2
    exact ⟨rfl, rfl⟩
  · go_enter Tryz.func64, Tryz.ntmps64
    go_wp2_with fail
    refine (fieldBounds_any _ _).mono ?_
    rintro e w1 ⟨rfl, rfl⟩
    rw [show fl 3 = 2 from rfl, show fm 3 = 2 from rfl, show fk 3 = true from rfl]
    go_wp2
    go_ret2
    exact ⟨rfl, rfl⟩
  · go_enter Tryz.func64, Tryz.ntmps64
    go_wp2_with fail
    refine (fieldBounds_any _ _).mono ?_
    rintro e w1 ⟨rfl, rfl⟩
    rw [show fl 4 = 2 from rfl, show fm 4 = 2 from rfl, show fk 4 = true from rfl]
    go_wp2
    go_ret2
    exact ⟨rfl, rfl⟩
  · go_enter Tryz.func64, Tryz.ntmps64
    go_wp2_with fail
    refine (fieldBounds_any _ _).mono ?_
    rintro e w1 ⟨rfl, rfl⟩
    rw [show fl 4 = 2 from rfl, show fm 4 = 2 from rfl, show fk 4 = true from rfl]
    go_wp2
    go_ret2
    exact ⟨rfl, rfl⟩
  · go_enter Tryz.func64, Tryz.ntmps64
    go_wp2_with fail
    refine (fieldBounds_any _ _).mono ?_
    rintro e w1 ⟨rfl, rfl⟩
    rw [show fl 2 = 0 from rfl, show fm 2 = 12 from rfl, show fk 2 = true from rfl]
    go_wp2
    go_ret2
    exact ⟨rfl, rfl⟩
  · go_enter Tryz.func64, Tryz.ntmps64
    go_wp2_with fail
    refine (fieldBounds_any _ _).mono ?_
    rintro e w1 ⟨rfl, rfl⟩
    rw [show fl 2 = 0 from rfl, show fm 2 = 12 from rfl, show fk 2 = true from rfl]
    go_wp2
    go_ret2
    exact ⟨rfl, rfl⟩
  · go_enter Tryz.func64, Tryz.ntmps64
    go_wp2_with fail
    refine (fieldBounds_any _ _).mono ?_
    rintro e w1 ⟨rfl, rfl⟩
    rw [show fl 5 = 0 from rfl, show fm 5 = 0 from rfl, show fk 5 = true from rfl]
    go_wp2
    go_ret2
    exact ⟨rfl, rfl⟩
  · go_enter Tryz.func64, Tryz.ntmps64
    go_wp2_with fail
    refine (fieldBounds_any _ _).mono ?_
    rintro e w1 ⟨rfl, rfl⟩
    rw [show fl 5 = 0 from rfl, show fm 5 = 0 from rfl, show fk 5 = true from rfl]
    go_wp2
    go_ret2
    exact ⟨rfl, rfl⟩

set_option maxRecDepth 100000 in
set_option maxHeartbeats 400000 in
theorem head_no2 (k f : Int) (w : World) (h1 : k ≠ 1) (h2 : k ≠ 2) (h3 : k ≠ 3) (h4 : k ≠ 4) (h5 : k ≠ 5) :
    Calls Tryz.prog 64 #[.int .i64 k, .int .i64 f] w fun e w' => e = .returned (.tuple #[.int .i64 0, .int .i64 2]) ∧ w' = w := by
  have e3 : fk k = false := by simp [fk, h1, h2, h3, h4, h5]
  go_enter Tryz.func64, Tryz.ntmps64
  go_wp2_with fail
  refine (fieldBounds_any _ _).mono ?_
  rintro e w1 ⟨rfl, rfl⟩
  go_wp2
  go_ret2
  exact ⟨rfl, rfl⟩

theorem head_any (k f : Int) (w : World) :
    Calls Tryz.prog 64 #[.int .i64 k, .int .i64 f] w fun e w' => e = .returned (.tuple #[.int .i64 (hw k f), .int .i64 (hc k f)]) ∧ w' = w := by
  by_cases h : hc k f = 0
  · rw [hw_yes k f h, h]; exact head_yes k f w h
  · rw [hw_no k f h]
    rcases hc_no k f h with e | ⟨h1, h2, h3, h4, h5⟩
    · rw [hc_1 k f e]
      exact head_no1 k f w e
    · rw [hc_2 k f h1 h2 h3 h4 h5]
      exact head_no2 k f w h1 h2 h3 h4 h5

end Go.Proofs.YtogknhogphkddaaGreat

/- An arena in memory: a struct of its own block, its words in another; what it is to leave all other blocks alone; lemmas on both. -/
namespace Go.Proofs.YtogknhogphkddaaGreat
open Go.RowKit W

structure At (w : World) (p q N O y g : Nat) (ws : List Int) : Prop where
  hp : w.heap[p]? = some (.cells #[.slice (some ⟨q, 0, none⟩) (N + O) (N + O), .int .i64 0, .int .i64 N, .int .i64 y, .int .i64 N, .int .i64 O, .int .i64 g] 146 (0, 0))
  hq : w.heap[q]? = some (.cells (ws.map (Value.int .i64)).toArray 2 (0, 0))
  hl : ws.length = N + O
  hN : 16 ≤ N
  hN' : N ≤ 256
  hO : O ≤ 1024
  hy : y ≤ N
  hg : g ≤ O

structure Sv (p q : Nat) (w w' : World) : Prop where
  os : w'.os = w.os
  tape : w'.tape = w.tape
  output : w'.output = w.output
  size : w.heap.size ≤ w'.heap.size
  block : ∀ k, k < w.heap.size → k ≠ p → k ≠ q → w'.heap[k]? = w.heap[k]?

theorem lt_of_some {w : World} {k : Nat} {o : Obj} (h : w.heap[k]? = some o) : k < w.heap.size := (Array.getElem?_eq_some_iff.1 h).1

theorem Sv.trans {p q : Nat} {a b c : World} (h : Sv p q a b) (k : Sv p q b c) : Sv p q a c :=
  ⟨k.os.trans h.os, k.tape.trans h.tape, k.output.trans h.output, Nat.le_trans h.size k.size, fun i hi h1 h2 => (k.block i (Nat.lt_of_lt_of_le hi h.size) h1 h2).trans (h.block i hi h1 h2)⟩
theorem Sv.of {p q : Nat} {w w' : World} (h : Below w.heap.size w w') : Sv p q w w' := ⟨h.os, h.tape, h.output, h.size, fun k hk _ _ => h.block k hk⟩
theorem Sv.setp {p q : Nat} {w : World} (o : Nat) (v : Value) : Sv p q w (w.setCell ⟨p, o, none⟩ v) :=
  ⟨rfl, rfl, rfl, by simp [World.setCell], fun k _ h1 _ => Below.heap_setCell _ _ _ _ h1⟩
theorem Sv.below {p q B : Nat} {w w' : World} (h : Sv p q w w') (hB : B ≤ w.heap.size) (hp : B ≤ p) (hq : B ≤ q) : Below B w w' :=
  ⟨h.os, h.tape, h.output, h.size, fun k hk => h.block k (by omega) (by omega) (by omega)⟩

theorem At.ltp {w : World} {p q N O y g : Nat} {ws : List Int} (h : At w p q N O y g ws) : p < w.heap.size := lt_of_some h.hp
theorem At.ltq {w : World} {p q N O y g : Nat} {ws : List Int} (h : At w p q N O y g ws) : q < w.heap.size := lt_of_some h.hq
theorem At.same {w w' : World} {p q N O y g : Nat} {ws : List Int} (h : At w p q N O y g ws) (ep : w'.heap[p]? = w.heap[p]?) (eq : w'.heap[q]? = w.heap[q]?) : At w' p q N O y g ws :=
  ⟨ep.trans h.hp, eq.trans h.hq, h.hl, h.hN, h.hN', h.hO, h.hy, h.hg⟩
theorem At.below {w w' : World} {p q N O y g B : Nat} {ws : List Int} (h : At w p q N O y g ws) (hb : Below B w w') (hB : w.heap.size ≤ B) : At w' p q N O y g ws :=
  h.same (hb.block p (Nat.lt_of_lt_of_le h.ltp hB)) (hb.block q (Nat.lt_of_lt_of_le h.ltq hB))
theorem At.alloc {w : World} {p q N O y g : Nat} {ws : List Int} (h : At w p q N O y g ws) (o : Obj) : At (w.alloc o) p q N O y g ws :=
  h.same (Below.heap_alloc _ _ _ h.ltp) (Below.heap_alloc _ _ _ h.ltq)
theorem At.cells {w : World} {p q N O y g : Nat} {ws : List Int} (h : At w p q N O y g ws) :
    w.cell? ⟨p, 0, none⟩ = some (.slice (some ⟨q, 0, none⟩) (N + O) (N + O)) ∧ w.cell? ⟨p, 1, none⟩ = some (.int .i64 0) ∧ w.cell? ⟨p, 2, none⟩ = some (.int .i64 N) ∧ w.cell? ⟨p, 3, none⟩ = some (.int .i64 y) ∧
    w.cell? ⟨p, 4, none⟩ = some (.int .i64 N) ∧ w.cell? ⟨p, 5, none⟩ = some (.int .i64 O) ∧ w.cell? ⟨p, 6, none⟩ = some (.int .i64 g) := by
  have hp := h.hp
  refine ⟨?_, ?_, ?_, ?_, ?_, ?_, ?_⟩ <;> simp [World.cell?, hp]
end Go.Proofs.YtogknhogphkddaaGreat

/- Memory in parts: all blocks but those of a set are as they were; rows of numbers, and of pairs of numbers. -/
namespace Go.Proofs.YtogknhogphkddaaGreat
open Go.RowKit W

structure Fr (X : Nat → Prop) (w w' : World) : Prop where
  os : w'.os = w.os
  tape : w'.tape = w.tape
  output : w'.output = w.output
  size : w.heap.size ≤ w'.heap.size
  block : ∀ k, k < w.heap.size → ¬ X k → w'.heap[k]? = w.heap[k]?

theorem Fr.refl (X : Nat → Prop) (w : World) : Fr X w w := ⟨rfl, rfl, rfl, Nat.le_refl _, fun _ _ _ => rfl⟩
theorem Fr.trans {X Y : Nat → Prop} {a b c : World} (h : Fr X a b) (k : Fr Y b c) (hy : ∀ i, Y i → X i ∨ a.heap.size ≤ i) : Fr X a c :=
  ⟨k.os.trans h.os, k.tape.trans h.tape, k.output.trans h.output, Nat.le_trans h.size k.size, fun i hi hx => (k.block i (Nat.lt_of_lt_of_le hi h.size) (fun c => (hy i c).elim hx (fun c => by omega))).trans (h.block i hi hx)⟩
theorem Fr.mono {X Y : Nat → Prop} {w w' : World} (h : Fr X w w') (hy : ∀ i, X i → Y i) : Fr Y w w' := ⟨h.os, h.tape, h.output, h.size, fun i hi hx => h.block i hi (fun c => hx (hy i c))⟩
theorem Fr.of {X : Nat → Prop} {w w' : World} (h : Below w.heap.size w w') : Fr X w w' := ⟨h.os, h.tape, h.output, h.size, fun k hk _ => h.block k hk⟩
theorem Fr.alloc {X : Nat → Prop} {a w : World} (h : Fr X a w) (o : Obj) : Fr X a (w.alloc o) := h.trans (Fr.of (X := X) ((Below.refl _ _).alloc (Nat.le_refl _) _)) (fun _ c => Or.inl c)
theorem Fr.drew {X : Nat → Prop} {a w : World} (h : Fr X a w) : Fr X a w.drew := ⟨h.os, h.tape, h.output, h.size, h.block⟩
theorem Fr.set {X : Nat → Prop} {a w : World} (h : Fr X a w) (c o : Nat) (v : Value) (hc : X c) : Fr X a (w.setCell ⟨c, o, none⟩ v) :=
  ⟨h.os, h.tape, h.output, by simpa [World.setCell] using h.size, fun k hk hx => (Below.heap_setCell _ _ _ _ (fun e => hx (by rw [e]; exact hc))).trans (h.block k hk hx)⟩
theorem Fr.grown {X : Nat → Prop} {a w w' : World} {row : Option Nat} (h : Fr X a w) (g : w.grownBy w' row) (hr : ∀ k, row = some k → X k ∨ a.heap.size ≤ k) : Fr X a w' :=
  ⟨g.os.trans h.os, g.tape.trans h.tape, g.output.trans h.output, Nat.le_trans h.size g.size, fun k hk hx => (g.block k (Nat.lt_of_lt_of_le hk h.size) (fun e => (hr k e.symm).elim hx (fun c => by omega))).trans (h.block k hk hx)⟩
theorem Fr.below {X : Nat → Prop} {w w' : World} {B : Nat} (h : Fr X w w') (hB : B ≤ w.heap.size) (hx : ∀ k, X k → B ≤ k) : Below B w w' :=
  ⟨h.os, h.tape, h.output, h.size, fun k hk => h.block k (by omega) (fun c => by have := hx k c; omega)⟩

/-! ### rows -/
theorem row_keep {w w' : World} {base n m : Nat} {e : TypeId} {v : Value} {l : List Value} (h : w.ownsRow base e m v n l) (hk : ∀ k, some k = v.ownBlock → w'.heap[k]? = w.heap[k]?) : w'.ownsRow base e m v n l := by
  refine ⟨h.1, ?_⟩
  rcases h.2 with hn | ⟨g, cap, cur, rfl, hb, hgg, rest⟩
  · exact .inl hn
  · exact .inr ⟨g, cap, cur, rfl, hb, (hk g rfl).trans hgg, rest⟩
theorem row_lt {w : World} {base n m : Nat} {e : TypeId} {v : Value} {l : List Value} (h : w.ownsRow base e m v n l) : ∀ k, some k = v.ownBlock → base ≤ k ∧ k < w.heap.size := fun k hk => h.lt k hk.symm
theorem row_fr {X : Nat → Prop} {w w' : World} {base n m : Nat} {e : TypeId} {v : Value} {l : List Value} (h : w.ownsRow base e m v n l) (f : Fr X w w') (hx : ∀ k, some k = v.ownBlock → ¬ X k) : w'.ownsRow base e m v n l :=
  row_keep h (fun k hk => f.block k (row_lt h k hk).2 (hx k hk))
theorem row_base {w : World} {base base' n m : Nat} {e : TypeId} {v : Value} {l : List Value} (h : w.ownsRow base e m v n l) (hb : ∀ k, some k = v.ownBlock → base' ≤ k) : w.ownsRow base' e m v n l := by
  refine ⟨h.1, ?_⟩
  rcases h.2 with hn | ⟨g, cap, cur, rfl, _, rest⟩
  · exact .inl hn
  · exact .inr ⟨g, cap, cur, rfl, hb g rfl, rest⟩
theorem row_type {w : World} {base n m : Nat} {e : TypeId} {v : Value} {l : List Value} (h : w.ownsRow base e m v n l) : ∀ k, some k = v.ownBlock → ∃ cur, w.heap[k]? = some (.cells cur e (0, 0)) := by
  intro k hk
  rcases h.2 with ⟨rfl, _⟩ | ⟨g, cap, cur, rfl, _, hgg, _⟩
  · simp [Value.ownBlock] at hk
  · simp [Value.ownBlock] at hk
    subst hk
    exact ⟨cur, hgg⟩
theorem row_shape {w : World} {base n m : Nat} {e : TypeId} {v : Value} {l : List Value} (h : w.ownsRow base e m v n l) (hn : 0 < n) : ∃ b cap, v = .slice (some ⟨b, 0, none⟩) n cap := by
  rcases h.2 with ⟨_, h0⟩ | ⟨g, cap, cur, hv, _⟩
  · omega
  · exact ⟨g, cap, hv⟩
theorem row_slice {w : World} {base n m : Nat} {e : TypeId} {v : Value} {l : List Value} (h : w.ownsRow base e m v n l) : ∃ ad cap, v = .slice ad n cap := by
  rcases h.2 with ⟨hv, h0⟩ | ⟨g, cap, cur, hv, _⟩
  · exact ⟨none, 0, by rw [hv, h0]⟩
  · exact ⟨_, cap, hv⟩

def Ls (w : World) (ad : Option Addr) (l : List Int) : Prop := 0 < l.length → ∃ b o, ad = some ⟨b, o, none⟩ ∧ b < w.heap.size ∧ ∀ i, i < l.length → w.cell? ⟨b, o + i, none⟩ = some (.int .i64 (l.getD i 0))
def Lp (w : World) (ad : Option Addr) (l : List (Int × Int)) : Prop :=
  0 < l.length → ∃ b o, ad = some ⟨b, o, none⟩ ∧ b < w.heap.size ∧ ∀ i, i < l.length → w.cell? ⟨b, o + i * 2, none⟩ = some (.int .i64 (l.getD i (0, 0)).1) ∧ w.cell? ⟨b, o + i * 2 + 1, none⟩ = some (.int .i64 (l.getD i (0, 0)).2)

def ev (l : List (Int × Int)) : List Value := l.flatMap fun e => [.int .i64 e.1, .int .i64 e.2]
theorem ev_append (a b : List (Int × Int)) : ev (a ++ b) = ev a ++ ev b := by simp [ev]
theorem ev_length : ∀ l : List (Int × Int), (ev l).length = l.length * 2
  | [] => rfl
  | e :: r => by
    have := ev_length r
    simp [ev] at this ⊢
    omega
theorem ev_get : ∀ (l : List (Int × Int)) (i : Nat), i < l.length → (ev l)[i * 2]? = some (.int .i64 (l.getD i (0, 0)).1) ∧ (ev l)[i * 2 + 1]? = some (.int .i64 (l.getD i (0, 0)).2)
  | [], i, h => by simp at h
  | e :: r, 0, _ => by simp [ev]
  | e :: r, i + 1, h => by
    have h2 := ev_get r i (by simpa using h)
    have e1 : (ev (e :: r)) = .int .i64 e.1 :: .int .i64 e.2 :: ev r := by simp [ev]
    rw [e1, show (i + 1) * 2 = i * 2 + 1 + 1 by omega]
    simpa using h2

theorem row_ints {w : World} {base : Nat} {e : TypeId} {ad : Option Addr} {cap : Nat} {l : List Int} (h : w.ownsRow base e 1 (.slice ad l.length cap) l.length (l.map (Value.int .i64))) : Ls w ad l := by
  intro hp
  rcases h.2 with ⟨_, h0⟩ | ⟨g, cap', cur, hv, hb, hh, h3, h4, h5, h6⟩
  · omega
  · simp at hv
    obtain ⟨rfl, rfl⟩ := hv
    refine ⟨g, 0, rfl, lt_of_some hh, fun i hi => ?_⟩
    have e2 : (cur.toList.take (l.length * 1))[i]? = some (.int .i64 (l.getD i 0)) := by
      rw [h6]
      simp [List.getElem?_map, List.getElem?_eq_getElem hi]
    rw [List.getElem?_take_of_lt (by omega)] at e2
    simp [World.cell?, hh]
    simpa using e2
theorem row_pairs {w : World} {base : Nat} {e : TypeId} {ad : Option Addr} {cap : Nat} {l : List (Int × Int)} (h : w.ownsRow base e 2 (.slice ad l.length cap) l.length (ev l)) : Lp w ad l := by
  intro hp
  rcases h.2 with ⟨_, h0⟩ | ⟨g, cap', cur, hv, hb, hh, h3, h4, h5, h6⟩
  · omega
  · simp at hv
    obtain ⟨rfl, rfl⟩ := hv
    refine ⟨g, 0, rfl, lt_of_some hh, fun i hi => ?_⟩
    obtain ⟨k1, k2⟩ := ev_get l i hi
    rw [← h6, List.getElem?_take_of_lt (by omega)] at k1 k2
    constructor
    · simp [World.cell?, hh]
      simpa using k1
    · simp [World.cell?, hh]
      simpa using k2
theorem Ls.keep {w w' : World} {ad : Option Addr} {l : List Int} (h : Ls w ad l) (hs : w.heap.size ≤ w'.heap.size) (hk : 0 < l.length → ∀ a, ad = some a → w'.heap[a.block]? = w.heap[a.block]?) : Ls w' ad l := by
  intro hp
  obtain ⟨b, o, rfl, hb, hc⟩ := h hp
  exact ⟨b, o, rfl, by omega, fun i hi => (World.cell?_of_block (a := ⟨b, o + i, none⟩) (hk hp ⟨b, o, none⟩ rfl)).trans (hc i hi)⟩
theorem Lp.keep {w w' : World} {ad : Option Addr} {l : List (Int × Int)} (h : Lp w ad l) (hs : w.heap.size ≤ w'.heap.size) (hk : 0 < l.length → ∀ a, ad = some a → w'.heap[a.block]? = w.heap[a.block]?) : Lp w' ad l := by
  intro hp
  obtain ⟨b, o, rfl, hb, hc⟩ := h hp
  exact ⟨b, o, rfl, by omega, fun i hi => ⟨(World.cell?_of_block (a := ⟨b, o + i * 2, none⟩) (hk hp ⟨b, o, none⟩ rfl)).trans (hc i hi).1, (World.cell?_of_block (a := ⟨b, o + i * 2 + 1, none⟩) (hk hp ⟨b, o, none⟩ rfl)).trans (hc i hi).2⟩⟩

end Go.Proofs.YtogknhogphkddaaGreat

/- What becomes of memory, and of the blocks that are its own. -/
namespace Go.Proofs.YtogknhogphkddaaGreat
open Go.RowKit W Kp Stl

structure Tn (F : Nat → Prop) (w : World) (F' : Nat → Prop) (w' : World) : Prop where
  fr : Fr F w w'
  sub : ∀ b, F' b → F b ∨ w.heap.size ≤ b
theorem Tn.trans {F F' F'' : Nat → Prop} {w w' w'' : World} (h : Tn F w F' w') (k : Tn F' w' F'' w'') : Tn F w F'' w'' :=
  ⟨h.fr.trans k.fr h.sub, fun b hb => (k.sub b hb).elim (h.sub b) (fun c => Or.inr (Nat.le_trans h.fr.size c))⟩
theorem Tn.of {F : Nat → Prop} {w w' : World} (h : Below w.heap.size w w') : Tn F w F w' := ⟨Fr.of h, fun _ h => Or.inl h⟩
theorem Tn.below {F F' : Nat → Prop} {w w' w'' : World} (h : Tn F w F' w') (hb : Below w'.heap.size w' w'') : Tn F w F' w'' := h.trans (Tn.of hb)
theorem row_front {w : World} {base g n cap : Nat} {e : TypeId} {xs : List Value} (h : w.ownsRow base e 1 (.slice (some ⟨g, 0, none⟩) n cap) n xs) (m : Nat) (hm : m ≤ n) : w.ownsRow base e 1 (.slice (some ⟨g, 0, none⟩) m cap) m (xs.take m) := by
  obtain ⟨h1, h2⟩ := h
  rcases h2 with ⟨hv, _⟩ | ⟨g', cap', cur, hv, hb, hh, h3, h4, h5, h6⟩
  · simp at hv
  · simp at hv
    obtain ⟨rfl, rfl⟩ := hv
    refine ⟨by rw [List.length_take]; omega, Or.inr ⟨g, cap, cur, rfl, hb, hh, by omega, h4, h5, ?_⟩⟩
    rw [← h6, List.take_take]
    congr 1
    omega
theorem row_caps {w : World} {base g n cap : Nat} {e : TypeId} {xs : List Value} (h : w.ownsRow base e 1 (.slice (some ⟨g, 0, none⟩) n cap) n xs) : n ≤ cap ∧ cap ≤ maxLen := by
  rcases h.2 with ⟨hv, _⟩ | ⟨g', cap', cur, hv, hb, hh, h3, h4, h5, h6⟩
  · simp at hv
  · simp at hv
    obtain ⟨rfl, rfl⟩ := hv
    exact ⟨h3, h4⟩

end Go.Proofs.YtogknhogphkddaaGreat

/- The statements' own sets of words that are alive, and grow: what is and keep do: contracts, over the seat's own translation. -/
namespace Go.Proofs.YtogknhogphkddaaGreat
open Go.RowKit W Kp

theorem info64 : (Tryz.prog.info? 2).map (fun i => (i.zero, i.size, i.bytes)) = some (some (.int .i64 0), 1, 8) := by kernel_rfl

end Go.Proofs.YtogknhogphkddaaGreat
