/- Joined: Words, Words2, Ar, Sm, Wp, Gr1, Gp3, Gp4, Wp3, Gr5. -/
import Derived.Test.YtjhnhbeimjnloaaChecked
import Derived.Test.YtjhnhbeimjnloaaJ00
import Derived.WalkKit
import Derived.WalkSpells
import Derived.Deep.QuietTactic
import Derived.BigQuiet
import Derived.WalkSmall
import Derived.Laws.CopyOwn
/- What the functions of package word, and their twins of the document's answer, return at whatever numbers: contracts, over the seat's own translation; nothing that was in memory turns. -/
namespace Go.Proofs.Ytjhnhbeimjnloaa
open Go.RowKit W

set_option maxRecDepth 100000 in
set_option maxHeartbeats 400000 in
theorem rangeCode_any (n low : Int) (w : World) :
    Calls Try.prog 102 #[.int .i64 n, .int .i64 low] w fun e w' => e = .returned (.int .i64 (rc n low)) ∧ w' = w := by
  by_cases c1 : n < low
  · have e : rc n low = 1 := by unfold rc; rw [if_pos c1]
    rw [e]
    go_enter Try.func102, Try.ntmps102
    go_wp2
    go_ret
    exact ⟨rfl, rfl⟩
  · by_cases c2 : 1152921504606846976 ≤ n
    · have e : rc n low = 1 := by unfold rc; rw [if_neg c1, if_pos c2]
      rw [e]
      go_enter Try.func102, Try.ntmps102
      go_wp2
      go_ret
      exact ⟨rfl, rfl⟩
    · have e : rc n low = 0 := by unfold rc; rw [if_neg c1, if_neg c2]
      rw [e]
      go_enter Try.func102, Try.ntmps102
      go_wp2
      go_ret
      exact ⟨rfl, rfl⟩

set_option maxRecDepth 100000 in
set_option maxHeartbeats 400000 in
theorem tagOf_any (k : Int) (w : World) :
    Calls Try.prog 90 #[.int .i64 k] w fun e w' => e = .returned (.int .i64 (tg k)) ∧ w' = w := by
  by_cases c1 : k = 1
  · subst c1
    go_enter Try.func90, Try.ntmps90
    go_wp2
    go_ret
    exact ⟨rfl, rfl⟩
  · by_cases c3 : k = 3
    · subst c3
      go_enter Try.func90, Try.ntmps90
      go_wp2
      go_ret
      exact ⟨rfl, rfl⟩
    · by_cases c0 : k = 0
      · subst c0
        go_enter Try.func90, Try.ntmps90
        go_wp2
        go_ret
        exact ⟨rfl, rfl⟩
      · have e : tg k = 3 := by unfold tg; rw [if_neg c1, if_neg c3, if_neg c0]
        rw [e]
        go_enter Try.func90, Try.ntmps90
        go_wp2
        go_ret
        exact ⟨rfl, rfl⟩

theorem vc0 (n : Int) : vc 0 n = if n = 0 then 0 else 7 := by simp [vc]
theorem vc2 (n : Int) : vc 2 n = if n = 0 then 0 else 7 := by simp [vc]
theorem vc1 (n : Int) : vc 1 n = rc n (-1152921504606846976) := by simp [vc]
theorem vc3 (n : Int) : vc 3 n = rc n 0 := by simp [vc]

set_option maxRecDepth 100000 in
set_option maxHeartbeats 400000 in
theorem valueCode_any (k n : Int) (w : World) :
    Calls Try.prog 89 #[.agg #[.int .i64 k, .int .i64 n]] w fun e w' => e = .returned (.int .i64 (vc k n)) ∧ Below w.heap.size w w' := by
  by_cases c0 : k = 0
  · subst c0
    rw [vc0]
    by_cases c : n = 0
    · subst c
      go_enter Try.func89, Try.ntmps89
      go_wp2
      go_ret
      exact ⟨rfl, (Below.refl _ _).alloc (Nat.le_refl _) _⟩
    · rw [if_neg c]
      go_enter Try.func89, Try.ntmps89
      go_wp2
      go_ret
      exact ⟨rfl, (Below.refl _ _).alloc (Nat.le_refl _) _⟩
  · by_cases c2 : k = 2
    · subst c2
      rw [vc2]
      by_cases c : n = 0
      · subst c
        go_enter Try.func89, Try.ntmps89
        go_wp2
        go_ret
        exact ⟨rfl, (Below.refl _ _).alloc (Nat.le_refl _) _⟩
      · rw [if_neg c]
        go_enter Try.func89, Try.ntmps89
        go_wp2
        go_ret
        exact ⟨rfl, (Below.refl _ _).alloc (Nat.le_refl _) _⟩
    · by_cases c1 : k = 1
      · subst c1
        rw [vc1]
        go_enter Try.func89, Try.ntmps89
        go_wp2_with (go_at_call 102; refine (rangeCode_any _ _ _).mono ?_; rintro e w' ⟨rfl, rfl⟩)
        go_ret
        exact ⟨rfl, (Below.refl _ _).alloc (Nat.le_refl _) _⟩
      · by_cases c3 : k = 3
        · subst c3
          rw [vc3]
          go_enter Try.func89, Try.ntmps89
          go_wp2_with (go_at_call 102; refine (rangeCode_any _ _ _).mono ?_; rintro e w' ⟨rfl, rfl⟩)
          go_ret
          exact ⟨rfl, (Below.refl _ _).alloc (Nat.le_refl _) _⟩
        · have e : vc k n = 2 := by unfold vc; rw [if_neg c0, if_neg c2, if_neg c1, if_neg c3]
          rw [e]
          go_enter Try.func89, Try.ntmps89
          go_wp2
          go_ret
          exact ⟨rfl, (Below.refl _ _).alloc (Nat.le_refl _) _⟩

theorem bcell {B : Nat} {W w1 : World} (hb : Below B W w1) : (∀ b o, b < B → w1.cell? ⟨b, o, none⟩ = W.cell? ⟨b, o, none⟩) ∧ (∀ b o, b < B → w1.frozen? ⟨b, o, none⟩ = W.frozen? ⟨b, o, none⟩) :=
  ⟨fun b o h => hb.cell (p := ⟨b, o, none⟩) h, fun b o h => hb.frozen (p := ⟨b, o, none⟩) h⟩

theorem ret_two {a b : Int} {c : Value} (h : a = b) : Ending.returned (.tuple #[.int .i64 a, c]) = .returned (.tuple #[.int .i64 b, c]) := by rw [h]

set_option maxRecDepth 100000 in
set_option maxHeartbeats 400000 in
theorem encode_any (k n : Int) (w : World) :
    Calls Try.prog 74 #[.agg #[.int .i64 k, .int .i64 n]] w fun e w' => e = .returned (.tuple #[.int .i64 (ew k n), .int .i64 (vc k n)]) ∧ Below w.heap.size w w' := by
  by_cases h : vc k n = 0
  · rw [ew_yes k n h]
    have hn := vc_bd k n h
    have H : Hid (vc k n = 0) := h
    clear h
    rw [H.out]
    have E : Hid (bits .or .i64 (n * 4) (tg k) = 4 * n + tg k) := enc_or k n hn.1 hn.2
    go_enter Try.func74, Try.ntmps74
    go_wp2_with fail
    refine (valueCode_any k n _).mono ?_
    rintro e w1 ⟨rfl, hb⟩
    rw [H.out]
    obtain ⟨hc, hf⟩ := bcell hb
    go_wp2_with fail
    go_quiet ((go_at_call 90; exact Calls.quiet_of_same (tagOf_any _ _)))
    go_wp2_with fail
    go_ret2
    exact ⟨ret_two E.out, below_drewN (((Below.refl _ _).alloc (Nat.le_refl _) _).trans (hb.mono (by simp))) _⟩
  · rw [ew_no k n h]
    have hc : (vc k n != 0) = true := by simpa using h
    go_enter Try.func74, Try.ntmps74
    go_wp2_with fail
    refine (valueCode_any k n _).mono ?_
    rintro e w1 ⟨rfl, hb⟩
    go_wp2_with fail
    go_ret2
    exact ⟨rfl, ((Below.refl _ _).alloc (Nat.le_refl _) _).trans (hb.mono (by simp))⟩

end Go.Proofs.Ytjhnhbeimjnloaa

/- What the functions of package word that ask others of it return at whatever numbers: contracts, over the seat's own translation; nothing that was in memory turns. -/
namespace Go.Proofs.Ytjhnhbeimjnloaa
open Go.RowKit W

set_option maxRecDepth 100000 in
set_option maxHeartbeats 400000 in
theorem nil_any (w : World) : Calls Try.prog 55 #[] w fun e w' => e = .returned (.int .i64 2) ∧ w' = w := by
  go_enter Try.func55, Try.ntmps55
  go_wp2
  go_ret
  exact ⟨rfl, rfl⟩

set_option maxRecDepth 100000 in
set_option maxHeartbeats 400000 in
theorem fieldBounds_any (k : Int) (w : World) :
    Calls Try.prog 75 #[.int .i64 k] w fun e w' => e = .returned (.tuple #[.int .i64 (fl k), .int .i64 (fm k), .bool (fk k)]) ∧ w' = w := by
  by_cases c1 : k = 1
  · subst c1
    go_enter Try.func75, Try.ntmps75
    go_wp2
    go_ret3
    exact ⟨rfl, rfl⟩
  by_cases c2 : k = 2
  · subst c2
    go_enter Try.func75, Try.ntmps75
    go_wp2
    go_ret3
    exact ⟨rfl, rfl⟩
  by_cases c3 : k = 3
  · subst c3
    go_enter Try.func75, Try.ntmps75
    go_wp2
    go_ret3
    exact ⟨rfl, rfl⟩
  by_cases c4 : k = 4
  · subst c4
    go_enter Try.func75, Try.ntmps75
    go_wp2
    go_ret3
    exact ⟨rfl, rfl⟩
  by_cases c5 : k = 5
  · subst c5
    go_enter Try.func75, Try.ntmps75
    go_wp2
    go_ret3
    exact ⟨rfl, rfl⟩
  have e1 : fl k = 0 := by simp [fl, c1, c3, c4]
  have e2 : fm k = 0 := by simp [fm, c1, c2, c3, c4]
  have e3 : fk k = false := by simp [fk, c1, c2, c3, c4, c5]
  rw [e1, e2, e3]
  clear e1 e2 e3
  go_enter Try.func75, Try.ntmps75
  go_wp2
  go_ret3
  exact ⟨rfl, rfl⟩

set_option maxRecDepth 100000 in
set_option maxHeartbeats 400000 in
theorem head_yes (k f : Int) (w : World) (h : hc k f = 0) :
    Calls Try.prog 59 #[.int .i64 k, .int .i64 f] w fun e w' => e = .returned (.tuple #[.int .i64 (16 * f + k), .int .i64 0]) ∧ w' = w := by
  rcases hc_yes k f h with ⟨rfl, rfl⟩ | ⟨rfl, rfl⟩ | ⟨rfl, rfl⟩ | ⟨rfl, h1, h2⟩ | ⟨rfl, rfl⟩
  · clear h
    go_enter Try.func59, Try.ntmps59
    go_wp2_with fail
    refine (fieldBounds_any _ _).mono ?_
    rintro e w1 ⟨rfl, rfl⟩
    rw [show fl 1 = 2 from rfl, show fm 1 = 2 from rfl, show fk 1 = true from rfl]
    go_wp2
    go_ret2
    exact ⟨ret_two (by decide +kernel), rfl⟩
  · clear h
    go_enter Try.func59, Try.ntmps59
    go_wp2_with fail
    refine (fieldBounds_any _ _).mono ?_
    rintro e w1 ⟨rfl, rfl⟩
    rw [show fl 3 = 2 from rfl, show fm 3 = 2 from rfl, show fk 3 = true from rfl]
    go_wp2
    go_ret2
    exact ⟨ret_two (by decide +kernel), rfl⟩
  · clear h
    go_enter Try.func59, Try.ntmps59
    go_wp2_with fail
    refine (fieldBounds_any _ _).mono ?_
    rintro e w1 ⟨rfl, rfl⟩
    rw [show fl 4 = 2 from rfl, show fm 4 = 2 from rfl, show fk 4 = true from rfl]
    go_wp2
    go_ret2
    exact ⟨ret_two (by decide +kernel), rfl⟩
  · have E : Hid (bits .or .i64 (f * 16) 2 = 16 * f + 2) := head_or 2 f h
    clear h
    go_enter Try.func59, Try.ntmps59
    go_wp2_with fail
    refine (fieldBounds_any _ _).mono ?_
    rintro e w1 ⟨rfl, rfl⟩
    rw [show fl 2 = 0 from rfl, show fm 2 = 12 from rfl, show fk 2 = true from rfl]
    go_wp2
    go_ret2
    exact ⟨ret_two E.out, rfl⟩
  · clear h
    go_enter Try.func59, Try.ntmps59
    go_wp2_with fail
    refine (fieldBounds_any _ _).mono ?_
    rintro e w1 ⟨rfl, rfl⟩
    rw [show fl 5 = 0 from rfl, show fm 5 = 0 from rfl, show fk 5 = true from rfl]
    go_wp2
    go_ret2
    exact ⟨ret_two (by decide +kernel), rfl⟩

set_option maxRecDepth 100000 in
set_option maxHeartbeats 400000 in
theorem head_no1 (k f : Int) (w : World) (h : (k = 1 ∧ f < 2) ∨ (k = 1 ∧ 2 < f) ∨ (k = 3 ∧ f < 2) ∨ (k = 3 ∧ 2 < f) ∨ (k = 4 ∧ f < 2) ∨ (k = 4 ∧ 2 < f) ∨ (k = 2 ∧ f < 0) ∨ (k = 2 ∧ 12 < f) ∨ (k = 5 ∧ f < 0) ∨ (k = 5 ∧ 0 < f)) :
    Calls Try.prog 59 #[.int .i64 k, .int .i64 f] w fun e w' => e = .returned (.tuple #[.int .i64 0, .int .i64 1]) ∧ w' = w := by
  rcases h with ⟨rfl, h⟩ | ⟨rfl, h⟩ | ⟨rfl, h⟩ | ⟨rfl, h⟩ | ⟨rfl, h⟩ | ⟨rfl, h⟩ | ⟨rfl, h⟩ | ⟨rfl, h⟩ | ⟨rfl, h⟩ | ⟨rfl, h⟩
  · go_enter Try.func59, Try.ntmps59
    go_wp2_with fail
    refine (fieldBounds_any _ _).mono ?_
    rintro e w1 ⟨rfl, rfl⟩
    rw [show fl 1 = 2 from rfl, show fm 1 = 2 from rfl, show fk 1 = true from rfl]
    go_wp2
    go_ret2
    exact ⟨rfl, rfl⟩
  · go_enter Try.func59, Try.ntmps59
    go_wp2_with fail
    refine (fieldBounds_any _ _).mono ?_
    rintro e w1 ⟨rfl, rfl⟩
    rw [show fl 1 = 2 from rfl, show fm 1 = 2 from rfl, show fk 1 = true from rfl]
    go_wp2
    go_ret2
    exact ⟨rfl, rfl⟩
  · go_enter Try.func59, Try.ntmps59
    go_wp2_with fail
    refine (fieldBounds_any _ _).mono ?_
    rintro e w1 ⟨rfl, rfl⟩
    rw [show fl 3 = 2 from rfl, show fm 3 = 2 from rfl, show fk 3 = true from rfl]
    go_wp2
    go_ret2
    exact ⟨rfl, rfl⟩
  · go_enter Try.func59, Try.ntmps59
    go_wp2_with fail
    refine (fieldBounds_any _ _).mono ?_
    rintro e w1 ⟨rfl, rfl⟩
    rw [show fl 3 = 2 from rfl, show fm 3 = 2 from rfl, show fk 3 = true from rfl]
    go_wp2
    go_ret2
    exact ⟨rfl, rfl⟩
  · go_enter Try.func59, Try.ntmps59
    go_wp2_with fail
    refine (fieldBounds_any _ _).mono ?_
    rintro e w1 ⟨rfl, rfl⟩
    rw [show fl 4 = 2 from rfl, show fm 4 = 2 from rfl, show fk 4 = true from rfl]
    go_wp2
    go_ret2
    exact ⟨rfl, rfl⟩
  · go_enter Try.func59, Try.ntmps59
    go_wp2_with fail
    refine (fieldBounds_any _ _).mono ?_
    rintro e w1 ⟨rfl, rfl⟩
    rw [show fl 4 = 2 from rfl, show fm 4 = 2 from rfl, show fk 4 = true from rfl]
    go_wp2
    go_ret2
    exact ⟨rfl, rfl⟩
  · go_enter Try.func59, Try.ntmps59
    go_wp2_with fail
    refine (fieldBounds_any _ _).mono ?_
    rintro e w1 ⟨rfl, rfl⟩
    rw [show fl 2 = 0 from rfl, show fm 2 = 12 from rfl, show fk 2 = true from rfl]
    go_wp2
    go_ret2
    exact ⟨rfl, rfl⟩
  · go_enter Try.func59, Try.ntmps59
    go_wp2_with fail
    refine (fieldBounds_any _ _).mono ?_
    rintro e w1 ⟨rfl, rfl⟩
    rw [show fl 2 = 0 from rfl, show fm 2 = 12 from rfl, show fk 2 = true from rfl]
    go_wp2
    go_ret2
    exact ⟨rfl, rfl⟩
  · go_enter Try.func59, Try.ntmps59
    go_wp2_with fail
    refine (fieldBounds_any _ _).mono ?_
    rintro e w1 ⟨rfl, rfl⟩
    rw [show fl 5 = 0 from rfl, show fm 5 = 0 from rfl, show fk 5 = true from rfl]
    go_wp2
    go_ret2
    exact ⟨rfl, rfl⟩
  · go_enter Try.func59, Try.ntmps59
    go_wp2_with fail
    refine (fieldBounds_any _ _).mono ?_
    rintro e w1 ⟨rfl, rfl⟩
    rw [show fl 5 = 0 from rfl, show fm 5 = 0 from rfl, show fk 5 = true from rfl]
    go_wp2
    go_ret2
    exact ⟨rfl, rfl⟩

set_option maxRecDepth 100000 in
set_option maxHeartbeats 400000 in
theorem head_no2 (k f : Int) (w : World) (h1 : k ≠ 1) (h2 : k ≠ 2) (h3 : k ≠ 3) (h4 : k ≠ 4) (h5 : k ≠ 5) :
    Calls Try.prog 59 #[.int .i64 k, .int .i64 f] w fun e w' => e = .returned (.tuple #[.int .i64 0, .int .i64 2]) ∧ w' = w := by
  have e3 : fk k = false := by simp [fk, h1, h2, h3, h4, h5]
  go_enter Try.func59, Try.ntmps59
  go_wp2_with fail
  refine (fieldBounds_any _ _).mono ?_
  rintro e w1 ⟨rfl, rfl⟩
  go_wp2
  go_ret2
  exact ⟨rfl, rfl⟩

theorem head_any (k f : Int) (w : World) :
    Calls Try.prog 59 #[.int .i64 k, .int .i64 f] w fun e w' => e = .returned (.tuple #[.int .i64 (hw k f), .int .i64 (hc k f)]) ∧ w' = w := by
  by_cases h : hc k f = 0
  · rw [hw_yes k f h, h]; exact head_yes k f w h
  · rw [hw_no k f h]
    rcases hc_no k f h with e | ⟨h1, h2, h3, h4, h5⟩
    · rw [hc_1 k f e]
      exact head_no1 k f w e
    · rw [hc_2 k f h1 h2 h3 h4 h5]
      exact head_no2 k f w h1 h2 h3 h4 h5

end Go.Proofs.Ytjhnhbeimjnloaa

/- An arena in memory: a struct of its own block, its words in another; what it is to leave all other blocks alone; lemmas on both. -/
namespace Go.Proofs.Ytjhnhbeimjnloaa
open Go.RowKit W

structure At (w : World) (p q N O y g : Nat) (ws : List Int) : Prop where
  hp : w.heap[p]? = some (.cells #[.slice (some ⟨q, 0, none⟩) (N + O) (N + O), .int .i64 0, .int .i64 N, .int .i64 y, .int .i64 N, .int .i64 O, .int .i64 g] 137 (0, 0))
  hq : w.heap[q]? = some (.cells (ws.map (Value.int .i64)).toArray 2 (0, 0))
  hl : ws.length = N + O
  hN : 16 ≤ N
  hN' : N ≤ 256
  hO : O ≤ 1024
  hy : y ≤ N
  hg : g ≤ O

structure Sv (p q : Nat) (w w' : World) : Prop where
  os : w'.os = w.os
  tape : w'.tape = w.tape
  output : w'.output = w.output
  size : w.heap.size ≤ w'.heap.size
  block : ∀ k, k < w.heap.size → k ≠ p → k ≠ q → w'.heap[k]? = w.heap[k]?

theorem lt_of_some {w : World} {k : Nat} {o : Obj} (h : w.heap[k]? = some o) : k < w.heap.size := (Array.getElem?_eq_some_iff.1 h).1

theorem Sv.trans {p q : Nat} {a b c : World} (h : Sv p q a b) (k : Sv p q b c) : Sv p q a c :=
  ⟨k.os.trans h.os, k.tape.trans h.tape, k.output.trans h.output, Nat.le_trans h.size k.size, fun i hi h1 h2 => (k.block i (Nat.lt_of_lt_of_le hi h.size) h1 h2).trans (h.block i hi h1 h2)⟩
theorem Sv.of {p q : Nat} {w w' : World} (h : Below w.heap.size w w') : Sv p q w w' := ⟨h.os, h.tape, h.output, h.size, fun k hk _ _ => h.block k hk⟩
theorem Sv.setp {p q : Nat} {w : World} (o : Nat) (v : Value) : Sv p q w (w.setCell ⟨p, o, none⟩ v) :=
  ⟨rfl, rfl, rfl, by simp [World.setCell], fun k _ h1 _ => Below.heap_setCell _ _ _ _ h1⟩
theorem Sv.below {p q B : Nat} {w w' : World} (h : Sv p q w w') (hB : B ≤ w.heap.size) (hp : B ≤ p) (hq : B ≤ q) : Below B w w' :=
  ⟨h.os, h.tape, h.output, h.size, fun k hk => h.block k (by omega) (by omega) (by omega)⟩

theorem At.ltp {w : World} {p q N O y g : Nat} {ws : List Int} (h : At w p q N O y g ws) : p < w.heap.size := lt_of_some h.hp
theorem At.ltq {w : World} {p q N O y g : Nat} {ws : List Int} (h : At w p q N O y g ws) : q < w.heap.size := lt_of_some h.hq
theorem At.same {w w' : World} {p q N O y g : Nat} {ws : List Int} (h : At w p q N O y g ws) (ep : w'.heap[p]? = w.heap[p]?) (eq : w'.heap[q]? = w.heap[q]?) : At w' p q N O y g ws :=
  ⟨ep.trans h.hp, eq.trans h.hq, h.hl, h.hN, h.hN', h.hO, h.hy, h.hg⟩
theorem At.below {w w' : World} {p q N O y g B : Nat} {ws : List Int} (h : At w p q N O y g ws) (hb : Below B w w') (hB : w.heap.size ≤ B) : At w' p q N O y g ws :=
  h.same (hb.block p (Nat.lt_of_lt_of_le h.ltp hB)) (hb.block q (Nat.lt_of_lt_of_le h.ltq hB))
theorem At.alloc {w : World} {p q N O y g : Nat} {ws : List Int} (h : At w p q N O y g ws) (o : Obj) : At (w.alloc o) p q N O y g ws :=
  h.same (Below.heap_alloc _ _ _ h.ltp) (Below.heap_alloc _ _ _ h.ltq)
theorem At.cells {w : World} {p q N O y g : Nat} {ws : List Int} (h : At w p q N O y g ws) :
    w.cell? ⟨p, 0, none⟩ = some (.slice (some ⟨q, 0, none⟩) (N + O) (N + O)) ∧ w.cell? ⟨p, 1, none⟩ = some (.int .i64 0) ∧ w.cell? ⟨p, 2, none⟩ = some (.int .i64 N) ∧ w.cell? ⟨p, 3, none⟩ = some (.int .i64 y) ∧
    w.cell? ⟨p, 4, none⟩ = some (.int .i64 N) ∧ w.cell? ⟨p, 5, none⟩ = some (.int .i64 O) ∧ w.cell? ⟨p, 6, none⟩ = some (.int .i64 g) := by
  have hp := h.hp
  refine ⟨?_, ?_, ?_, ?_, ?_, ?_, ?_⟩ <;> simp [World.cell?, hp]
end Go.Proofs.Ytjhnhbeimjnloaa

/- Memory in parts: all blocks but those of a set are as they were; rows of numbers, and of pairs of numbers. -/
namespace Go.Proofs.Ytjhnhbeimjnloaa
open Go.RowKit W

structure Fr (X : Nat → Prop) (w w' : World) : Prop where
  os : w'.os = w.os
  tape : w'.tape = w.tape
  output : w'.output = w.output
  size : w.heap.size ≤ w'.heap.size
  block : ∀ k, k < w.heap.size → ¬ X k → w'.heap[k]? = w.heap[k]?

theorem Fr.refl (X : Nat → Prop) (w : World) : Fr X w w := ⟨rfl, rfl, rfl, Nat.le_refl _, fun _ _ _ => rfl⟩
theorem Fr.trans {X Y : Nat → Prop} {a b c : World} (h : Fr X a b) (k : Fr Y b c) (hy : ∀ i, Y i → X i ∨ a.heap.size ≤ i) : Fr X a c :=
  ⟨k.os.trans h.os, k.tape.trans h.tape, k.output.trans h.output, Nat.le_trans h.size k.size, fun i hi hx => (k.block i (Nat.lt_of_lt_of_le hi h.size) (fun c => (hy i c).elim hx (fun c => by omega))).trans (h.block i hi hx)⟩
theorem Fr.mono {X Y : Nat → Prop} {w w' : World} (h : Fr X w w') (hy : ∀ i, X i → Y i) : Fr Y w w' := ⟨h.os, h.tape, h.output, h.size, fun i hi hx => h.block i hi (fun c => hx (hy i c))⟩
theorem Fr.of {X : Nat → Prop} {w w' : World} (h : Below w.heap.size w w') : Fr X w w' := ⟨h.os, h.tape, h.output, h.size, fun k hk _ => h.block k hk⟩
theorem Fr.alloc {X : Nat → Prop} {a w : World} (h : Fr X a w) (o : Obj) : Fr X a (w.alloc o) := h.trans (Fr.of (X := X) ((Below.refl _ _).alloc (Nat.le_refl _) _)) (fun _ c => Or.inl c)
theorem Fr.drew {X : Nat → Prop} {a w : World} (h : Fr X a w) : Fr X a w.drew := ⟨h.os, h.tape, h.output, h.size, h.block⟩
theorem Fr.set {X : Nat → Prop} {a w : World} (h : Fr X a w) (c o : Nat) (v : Value) (hc : X c) : Fr X a (w.setCell ⟨c, o, none⟩ v) :=
  ⟨h.os, h.tape, h.output, by simpa [World.setCell] using h.size, fun k hk hx => (Below.heap_setCell _ _ _ _ (fun e => hx (by rw [e]; exact hc))).trans (h.block k hk hx)⟩
theorem Fr.grown {X : Nat → Prop} {a w w' : World} {row : Option Nat} (h : Fr X a w) (g : w.grownBy w' row) (hr : ∀ k, row = some k → X k ∨ a.heap.size ≤ k) : Fr X a w' :=
  ⟨g.os.trans h.os, g.tape.trans h.tape, g.output.trans h.output, Nat.le_trans h.size g.size, fun k hk hx => (g.block k (Nat.lt_of_lt_of_le hk h.size) (fun e => (hr k e.symm).elim hx (fun c => by omega))).trans (h.block k hk hx)⟩
theorem Fr.below {X : Nat → Prop} {w w' : World} {B : Nat} (h : Fr X w w') (hB : B ≤ w.heap.size) (hx : ∀ k, X k → B ≤ k) : Below B w w' :=
  ⟨h.os, h.tape, h.output, h.size, fun k hk => h.block k (by omega) (fun c => by have := hx k c; omega)⟩

/-! ### rows -/
theorem row_keep {w w' : World} {base n m : Nat} {e : TypeId} {v : Value} {l : List Value} (h : w.ownsRow base e m v n l) (hk : ∀ k, some k = v.ownBlock → w'.heap[k]? = w.heap[k]?) : w'.ownsRow base e m v n l := by
  refine ⟨h.1, ?_⟩
  rcases h.2 with hn | ⟨g, cap, cur, rfl, hb, hgg, rest⟩
  · exact .inl hn
  · exact .inr ⟨g, cap, cur, rfl, hb, (hk g rfl).trans hgg, rest⟩
theorem row_lt {w : World} {base n m : Nat} {e : TypeId} {v : Value} {l : List Value} (h : w.ownsRow base e m v n l) : ∀ k, some k = v.ownBlock → base ≤ k ∧ k < w.heap.size := fun k hk => h.lt k hk.symm
theorem row_fr {X : Nat → Prop} {w w' : World} {base n m : Nat} {e : TypeId} {v : Value} {l : List Value} (h : w.ownsRow base e m v n l) (f : Fr X w w') (hx : ∀ k, some k = v.ownBlock → ¬ X k) : w'.ownsRow base e m v n l :=
  row_keep h (fun k hk => f.block k (row_lt h k hk).2 (hx k hk))
theorem row_base {w : World} {base base' n m : Nat} {e : TypeId} {v : Value} {l : List Value} (h : w.ownsRow base e m v n l) (hb : ∀ k, some k = v.ownBlock → base' ≤ k) : w.ownsRow base' e m v n l := by
  refine ⟨h.1, ?_⟩
  rcases h.2 with hn | ⟨g, cap, cur, rfl, _, rest⟩
  · exact .inl hn
  · exact .inr ⟨g, cap, cur, rfl, hb g rfl, rest⟩
theorem row_type {w : World} {base n m : Nat} {e : TypeId} {v : Value} {l : List Value} (h : w.ownsRow base e m v n l) : ∀ k, some k = v.ownBlock → ∃ cur, w.heap[k]? = some (.cells cur e (0, 0)) := by
  intro k hk
  rcases h.2 with ⟨rfl, _⟩ | ⟨g, cap, cur, rfl, _, hgg, _⟩
  · simp [Value.ownBlock] at hk
  · simp [Value.ownBlock] at hk
    subst hk
    exact ⟨cur, hgg⟩
theorem row_shape {w : World} {base n m : Nat} {e : TypeId} {v : Value} {l : List Value} (h : w.ownsRow base e m v n l) (hn : 0 < n) : ∃ b cap, v = .slice (some ⟨b, 0, none⟩) n cap := by
  rcases h.2 with ⟨_, h0⟩ | ⟨g, cap, cur, hv, _⟩
  · omega
  · exact ⟨g, cap, hv⟩
theorem row_slice {w : World} {base n m : Nat} {e : TypeId} {v : Value} {l : List Value} (h : w.ownsRow base e m v n l) : ∃ ad cap, v = .slice ad n cap := by
  rcases h.2 with ⟨hv, h0⟩ | ⟨g, cap, cur, hv, _⟩
  · exact ⟨none, 0, by rw [hv, h0]⟩
  · exact ⟨_, cap, hv⟩

def Ls (w : World) (ad : Option Addr) (l : List Int) : Prop := 0 < l.length → ∃ b o, ad = some ⟨b, o, none⟩ ∧ b < w.heap.size ∧ ∀ i, i < l.length → w.cell? ⟨b, o + i, none⟩ = some (.int .i64 (l.getD i 0))
def Lp (w : World) (ad : Option Addr) (l : List (Int × Int)) : Prop :=
  0 < l.length → ∃ b o, ad = some ⟨b, o, none⟩ ∧ b < w.heap.size ∧ ∀ i, i < l.length → w.cell? ⟨b, o + i * 2, none⟩ = some (.int .i64 (l.getD i (0, 0)).1) ∧ w.cell? ⟨b, o + i * 2 + 1, none⟩ = some (.int .i64 (l.getD i (0, 0)).2)

def ev (l : List (Int × Int)) : List Value := l.flatMap fun e => [.int .i64 e.1, .int .i64 e.2]
theorem ev_append (a b : List (Int × Int)) : ev (a ++ b) = ev a ++ ev b := by simp [ev]
theorem ev_length : ∀ l : List (Int × Int), (ev l).length = l.length * 2
  | [] => rfl
  | e :: r => by
    have := ev_length r
    simp [ev] at this ⊢
    omega
theorem ev_get : ∀ (l : List (Int × Int)) (i : Nat), i < l.length → (ev l)[i * 2]? = some (.int .i64 (l.getD i (0, 0)).1) ∧ (ev l)[i * 2 + 1]? = some (.int .i64 (l.getD i (0, 0)).2)
  | [], i, h => by simp at h
  | e :: r, 0, _ => by simp [ev]
  | e :: r, i + 1, h => by
    have h2 := ev_get r i (by simpa using h)
    have e1 : (ev (e :: r)) = .int .i64 e.1 :: .int .i64 e.2 :: ev r := by simp [ev]
    rw [e1, show (i + 1) * 2 = i * 2 + 1 + 1 by omega]
    simpa using h2

theorem row_ints {w : World} {base : Nat} {e : TypeId} {ad : Option Addr} {cap : Nat} {l : List Int} (h : w.ownsRow base e 1 (.slice ad l.length cap) l.length (l.map (Value.int .i64))) : Ls w ad l := by
  intro hp
  rcases h.2 with ⟨_, h0⟩ | ⟨g, cap', cur, hv, hb, hh, h3, h4, h5, h6⟩
  · omega
  · simp at hv
    obtain ⟨rfl, rfl⟩ := hv
    refine ⟨g, 0, rfl, lt_of_some hh, fun i hi => ?_⟩
    have e2 : (cur.toList.take (l.length * 1))[i]? = some (.int .i64 (l.getD i 0)) := by
      rw [h6]
      simp [List.getElem?_map, List.getElem?_eq_getElem hi]
    rw [List.getElem?_take_of_lt (by omega)] at e2
    simp [World.cell?, hh]
    simpa using e2
theorem row_pairs {w : World} {base : Nat} {e : TypeId} {ad : Option Addr} {cap : Nat} {l : List (Int × Int)} (h : w.ownsRow base e 2 (.slice ad l.length cap) l.length (ev l)) : Lp w ad l := by
  intro hp
  rcases h.2 with ⟨_, h0⟩ | ⟨g, cap', cur, hv, hb, hh, h3, h4, h5, h6⟩
  · omega
  · simp at hv
    obtain ⟨rfl, rfl⟩ := hv
    refine ⟨g, 0, rfl, lt_of_some hh, fun i hi => ?_⟩
    obtain ⟨k1, k2⟩ := ev_get l i hi
    rw [← h6, List.getElem?_take_of_lt (by omega)] at k1 k2
    constructor
    · simp [World.cell?, hh]
      simpa using k1
    · simp [World.cell?, hh]
      simpa using k2
theorem Ls.keep {w w' : World} {ad : Option Addr} {l : List Int} (h : Ls w ad l) (hs : w.heap.size ≤ w'.heap.size) (hk : 0 < l.length → ∀ a, ad = some a → w'.heap[a.block]? = w.heap[a.block]?) : Ls w' ad l := by
  intro hp
  obtain ⟨b, o, rfl, hb, hc⟩ := h hp
  exact ⟨b, o, rfl, by omega, fun i hi => (World.cell?_of_block (a := ⟨b, o + i, none⟩) (hk hp ⟨b, o, none⟩ rfl)).trans (hc i hi)⟩
theorem Lp.keep {w w' : World} {ad : Option Addr} {l : List (Int × Int)} (h : Lp w ad l) (hs : w.heap.size ≤ w'.heap.size) (hk : 0 < l.length → ∀ a, ad = some a → w'.heap[a.block]? = w.heap[a.block]?) : Lp w' ad l := by
  intro hp
  obtain ⟨b, o, rfl, hb, hc⟩ := h hp
  exact ⟨b, o, rfl, by omega, fun i hi => ⟨(World.cell?_of_block (a := ⟨b, o + i * 2, none⟩) (hk hp ⟨b, o, none⟩ rfl)).trans (hc i hi).1, (World.cell?_of_block (a := ⟨b, o + i * 2 + 1, none⟩) (hk hp ⟨b, o, none⟩ rfl)).trans (hc i hi).2⟩⟩

end Go.Proofs.Ytjhnhbeimjnloaa

/- The document's world: lists. -/
namespace Go.Proofs.Ytjhnhbeimjnloaa
open Go.RowKit W Kp Stl

abbrev Tw1 := Int × List (Int × Int) × Bool × Bool
structure Wrs where
  T : List Tw1
  rs : List (Int × Int)
  rg : List En
  wt : List En
theorem ev_root : ∀ (l : List (Int × Int)) (i : Nat) (x : Int × Int), ev (l.set i x) = ((ev l).set (i * 2) (.int .i64 x.1)).set (i * 2 + 1) (.int .i64 x.2)
  | [], _, _ => rfl
  | e :: l, 0, x => by simp [ev]
  | e :: l, i + 1, x => by
    have ih := ev_root l i x
    have e1 : ev (e :: l) = .int .i64 e.1 :: .int .i64 e.2 :: ev l := by simp [ev]
    have e2 : ev ((e :: l).set (i + 1) x) = .int .i64 e.1 :: .int .i64 e.2 :: ev (l.set i x) := by simp [ev]
    rw [e1, e2, ih, show (i + 1) * 2 = i * 2 + 1 + 1 by omega]
    simp
def pqI (g : Int) (q : List En) : Nat := q.findIdx (fun e => e.1 == g)

end Go.Proofs.Ytjhnhbeimjnloaa

/- The document's world: what is kept alive is a least set: lists alone. -/
namespace Go.Proofs.Ytjhnhbeimjnloaa
open Go.RowKit W Kp Stl

def inS (L : List Bool) (v : Int × Int) : Bool := !(v.1 == 3) || L.getD v.2.toNat false
def t0 : Tw1 := (0, [], false, false)
def Kps (T : List Tw1) (wt : List En) (X : Nat → Prop) (i : Nat) (v : Int × Int) : Prop :=
  (((T.getD i t0).1 = 1 ∨ (T.getD i t0).1 = 2) ∧ v ∈ (T.getD i t0).2.1) ∨ ((T.getD i t0).1 = 3 ∧ v = (T.getD i t0).2.1.getD 1 (0, 0)) ∨
  ((T.getD i t0).1 = 4 ∧ (((T.getD i t0).2.1.getD 0 (0, 0)).1 = 3 → X ((T.getD i t0).2.1.getD 0 (0, 0)).2.toNat) ∧ v = (T.getD i t0).2.1.getD 1 (0, 0)) ∨
  ((T.getD i t0).1 = 5 ∧ ∃ e ∈ wt, e.1 = i ∧ v = (3, e.2))
theorem Kps.mono {T : List Tw1} {wt : List En} {X Y : Nat → Prop} (hXY : ∀ i, X i → Y i) {i : Nat} {v : Int × Int} (h : Kps T wt X i v) : Kps T wt Y i v := by
  rcases h with h | h | ⟨h1, h2, h3⟩ | h
  · exact Or.inl h
  · exact Or.inr (Or.inl h)
  · exact Or.inr (Or.inr (Or.inl ⟨h1, fun c => hXY _ (h2 c), h3⟩))
  · exact Or.inr (Or.inr (Or.inr h))
def Cls (T : List Tw1) (wt : List En) (X : Nat → Prop) : Prop := ∀ i, i < T.length → X i → ∀ v, Kps T wt X i v → v.1 = 3 → X v.2.toNat
def Ls_ (L : List Bool) : Nat → Prop := fun i => L.getD i false = true
structure Grn (T : List Tw1) (wt : List En) (is out : List Bool) : Prop where
  len : out.length = is.length
  up : ∀ i, Ls_ is i → Ls_ out i
  cl : Cls T wt (Ls_ out)
  lt : ∀ X, Cls T wt X → (∀ i, Ls_ is i → X i) → ∀ i, Ls_ out i → X i

theorem inS_no {L : List Bool} {v : Int × Int} (h : inS L v = false) : v.1 = 3 ∧ L.getD v.2.toNat false = false := by
  unfold inS at h
  rw [Bool.or_eq_false_iff] at h
  exact ⟨by simpa using h.1, h.2⟩
theorem inS_yes {L : List Bool} {v : Int × Int} (h : inS L v = true) : v.1 = 3 → Ls_ L v.2.toNat := fun h3 => by
  unfold inS at h
  rw [h3] at h
  unfold Ls_
  simpa using h
theorem getD_setB (L : List Bool) (i j : Nat) (h : i < L.length) : (L.set i true).getD j false = if i = j then true else L.getD j false := by
  rw [List.getD_eq_getElem?_getD, List.getD_eq_getElem?_getD, List.getElem?_set]
  split
  · rename_i e
    subst e
    rfl
  · rfl
theorem Ls_.lt {L : List Bool} {i : Nat} (h : Ls_ L i) : i < L.length := by
  unfold Ls_ at h
  by_cases c : i < L.length
  · exact c
  · rw [List.getD_eq_getElem?_getD, List.getElem?_eq_none (by omega)] at h
    cases h
def cnt (L : List Bool) : Nat := (L.filter (fun b => !b)).length
theorem cnt_set : ∀ (L : List Bool) (i : Nat), L.getD i true = false → cnt (L.set i true) + 1 = cnt L
  | [], i, h => by simp at h
  | b :: L, 0, h => by
    have h : b = false := by simpa using h
    subst h
    simp [cnt]
  | b :: L, i + 1, h => by
    have h : L.getD i true = false := by simpa using h
    have ih := cnt_set L i h
    unfold cnt at ih ⊢
    rw [List.set_cons_succ]
    cases b
    · simp only [Bool.not_false, List.filter_cons_of_pos, List.length_cons]
      omega
    · rw [List.filter_cons_of_neg (by simp), List.filter_cons_of_neg (by simp)]
      exact ih
end Go.Proofs.Ytjhnhbeimjnloaa

/- What is not dead. -/
namespace Go.Proofs.Ytjhnhbeimjnloaa
open Go.RowKit W Kp Stl

def Alv (T : List Tw1) (i : Nat) : Prop := i < T.length ∧ (T.getD i t0).2.2.2 = false
structure Wiv (T : List Tw1) (wt : List En) : Prop where
  fl : ∀ i, Alv T i → (T.getD i t0).1 = 3 ∨ (T.getD i t0).1 = 4 → (T.getD i t0).2.1.length = 2
  fv : ∀ i, Alv T i → ∀ v ∈ (T.getD i t0).2.1, v.1 = 3 → 0 ≤ v.2 ∧ Alv T v.2.toNat
  wv : ∀ e ∈ wt, 0 ≤ e.2 ∧ Alv T e.2.toNat
  tl : ∀ i, (T.getD i t0).2.1.length ≤ 12
theorem getD_in {α : Type} {l : List α} {i : Nat} {x : α} (h : i < l.length) : l.getD i x ∈ l := by
  rw [List.getD_eq_getElem?_getD, List.getElem?_eq_getElem h]
  exact List.getElem_mem h
theorem Wiv.kps {T : List Tw1} {wt : List En} (h : Wiv T wt) {X : Nat → Prop} {i : Nat} (hi : Alv T i) {v : Int × Int} (hv : Kps T wt X i v) (h3 : v.1 = 3) : 0 ≤ v.2 ∧ Alv T v.2.toNat := by
  rcases hv with ⟨_, hm⟩ | ⟨hk, e⟩ | ⟨hk, _, e⟩ | ⟨_, e0, he, _, e⟩
  · exact h.fv i hi v hm h3
  · exact h.fv i hi v (by rw [e]; exact getD_in (by rw [h.fl i hi (Or.inl hk)]; decide)) h3
  · exact h.fv i hi v (by rw [e]; exact getD_in (by rw [h.fl i hi (Or.inr hk)]; decide)) h3
  · rw [e]
    exact h.wv e0 he
theorem Wiv.cls {T : List Tw1} {wt : List En} (h : Wiv T wt) : Cls T wt (Alv T) := fun _ _ hX _ hv h3 => (h.kps hX hv h3).2
end Go.Proofs.Ytjhnhbeimjnloaa

/- What is alive of itself. -/
namespace Go.Proofs.Ytjhnhbeimjnloaa
open Go.RowKit W Kp Stl

def fr0 (mj : Bool) (t : Tw1) : Bool := t.2.2.1 && !t.2.2.2 && !mj
def frR (L : List Bool) (v : Int × Int) : List Bool := if v.1 = 3 then L.set v.2.toNat true else L
def frs (T : List Tw1) (rs : List (Int × Int)) (mj : Bool) : List Bool := rs.foldl frR (T.map (fr0 mj))
theorem frR_len (L : List Bool) (v : Int × Int) : (frR L v).length = L.length := by
  unfold frR
  split
  · rw [List.length_set]
  · rfl
theorem frs_len (T : List Tw1) (rs : List (Int × Int)) (mj : Bool) : (frs T rs mj).length = T.length := by
  have key : ∀ (rs : List (Int × Int)) (L : List Bool), (rs.foldl frR L).length = L.length := fun rs => by
    induction rs with
    | nil => intro L; rfl
    | cons v rs ih => intro L; rw [List.foldl_cons, ih, frR_len]
  unfold frs
  rw [key, List.length_map]
theorem frR_in {L : List Bool} {v : Int × Int} {i : Nat} : Ls_ (frR L v) i ↔ Ls_ L i ∨ (v.1 = 3 ∧ v.2.toNat = i ∧ i < L.length) := by
  unfold frR
  by_cases h3 : v.1 = 3
  · rw [if_pos h3]
    unfold Ls_
    by_cases hl : v.2.toNat < L.length
    · rw [getD_setB _ _ _ hl]
      constructor
      · intro h
        split at h
        · rename_i e
          exact Or.inr ⟨h3, e, by omega⟩
        · exact Or.inl h
      · rintro (h | ⟨_, e, _⟩)
        · split
          · rfl
          · exact h
        · rw [if_pos e]
    · rw [List.set_eq_of_length_le (by omega)]
      exact ⟨Or.inl, fun h => h.elim id (fun ⟨_, e, hl'⟩ => absurd hl' (by omega))⟩
  · rw [if_neg h3]
    exact ⟨Or.inl, fun h => h.elim id (fun ⟨e, _⟩ => absurd e h3)⟩
theorem fold_in : ∀ (rs : List (Int × Int)) (L : List Bool) (i : Nat), Ls_ (rs.foldl frR L) i ↔ Ls_ L i ∨ (i < L.length ∧ ∃ v ∈ rs, v.1 = 3 ∧ v.2.toNat = i)
  | [], L, i => by simp
  | v :: rs, L, i => by
    rw [List.foldl_cons, fold_in rs, frR_in, frR_len]
    constructor
    · rintro ((h | ⟨h1, h2, h3⟩) | ⟨h1, u, hu, h2⟩)
      · exact Or.inl h
      · exact Or.inr ⟨h3, v, by simp, h1, h2⟩
      · exact Or.inr ⟨h1, u, List.mem_cons_of_mem _ hu, h2⟩
    · rintro (h | ⟨h1, u, hu, h2, h3⟩)
      · exact Or.inl (Or.inl h)
      · rcases List.mem_cons.1 hu with e | e
        · rw [e] at h2 h3
          exact Or.inl (Or.inr ⟨h2, h3, h1⟩)
        · exact Or.inr ⟨h1, u, e, h2, h3⟩
theorem map_in (mj : Bool) (T : List Tw1) (i : Nat) : Ls_ (T.map (fr0 mj)) i ↔ i < T.length ∧ (T.getD i t0).2.2.1 = true ∧ (T.getD i t0).2.2.2 = false ∧ mj = false := by
  unfold Ls_
  by_cases h : i < T.length
  · rw [List.getD_eq_getElem?_getD, List.getElem?_map, List.getElem?_eq_getElem h, List.getD_eq_getElem?_getD, List.getElem?_eq_getElem h]
    simp [fr0, h, and_assoc]
  · rw [List.getD_eq_getElem?_getD, List.getElem?_eq_none (by rw [List.length_map]; omega)]
    simp [h]
theorem frs_in (T : List Tw1) (rs : List (Int × Int)) (mj : Bool) (i : Nat) : Ls_ (frs T rs mj) i ↔ i < T.length ∧ (((T.getD i t0).2.2.1 = true ∧ (T.getD i t0).2.2.2 = false ∧ mj = false) ∨ ∃ v ∈ rs, v.1 = 3 ∧ v.2.toNat = i) := by
  unfold frs
  rw [fold_in, map_in, List.length_map]
  constructor
  · rintro (⟨h1, h2⟩ | ⟨h1, h2⟩)
    · exact ⟨h1, Or.inl h2⟩
    · exact ⟨h1, Or.inr h2⟩
  · rintro ⟨h1, h2 | h2⟩
    · exact Or.inl ⟨h1, h2⟩
    · exact Or.inr ⟨h1, h2⟩

end Go.Proofs.Ytjhnhbeimjnloaa

/- How many words things have. -/
namespace Go.Proofs.Ytjhnhbeimjnloaa
open Go.RowKit W Kp Stl

def usP (p : Int × Int) (t : Tw1) : Int × Int := if t.2.2.2 = true then p else if t.2.2.1 = true then (p.1, p.2 + (1 + t.2.1.length)) else (p.1 + (1 + t.2.1.length), p.2)
def usd (l : List Tw1) : Int × Int := l.foldl usP (0, 0)
theorem usd_snoc (l : List Tw1) (t : Tw1) : usd (l ++ [t]) = usP (usd l) t := by simp [usd, List.foldl_append]
theorem usd_bd (l : List Tw1) (h : ∀ t ∈ l, t.2.1.length ≤ 12) : 0 ≤ (usd l).1 ∧ (usd l).1 ≤ 13 * l.length ∧ 0 ≤ (usd l).2 ∧ (usd l).2 ≤ 13 * l.length := by
  have key : ∀ (l : List Tw1) (p : Int × Int), (∀ t ∈ l, t.2.1.length ≤ 12) → p.1 ≤ (l.foldl usP p).1 ∧ (l.foldl usP p).1 ≤ p.1 + 13 * l.length ∧ p.2 ≤ (l.foldl usP p).2 ∧ (l.foldl usP p).2 ≤ p.2 + 13 * l.length := by
    intro l
    induction l with
    | nil => intro p _; simp
    | cons t l ih =>
      intro p hl
      have h1 := ih (usP p t) (fun x hx => hl x (List.mem_cons_of_mem _ hx))
      have h2 := hl t (by simp)
      rw [List.foldl_cons]
      have h3 : p.1 ≤ (usP p t).1 ∧ (usP p t).1 ≤ p.1 + 13 ∧ p.2 ≤ (usP p t).2 ∧ (usP p t).2 ≤ p.2 + 13 := by
        unfold usP
        split
        · omega
        · split
          · dsimp only; omega
          · dsimp only; omega
      simp only [List.length_cons]
      omega
  have := key l (0, 0) h
  unfold usd
  dsimp only at this
  omega

end Go.Proofs.Ytjhnhbeimjnloaa

/- The document's world: what a cut comes to: lists alone. g: what Grown answers, whatever it is that is the least set. -/
namespace Go.Proofs.Ytjhnhbeimjnloaa
open Go.RowKit W Kp Stl

section
variable {T : List Tw1} {wt : List En}

theorem Grn.uniq {is a b : List Bool} (h : Grn T wt is a) (h' : Grn T wt is b) : a = b := by
  refine List.ext_getElem (h.len.trans h'.len.symm) (fun i h1 h2 => ?_)
  have key : Ls_ a i ↔ Ls_ b i := ⟨fun q => h.lt _ h'.cl h'.up i q, fun q => h'.lt _ h.cl h.up i q⟩
  unfold Ls_ at key
  rw [List.getD_eq_getElem?_getD, List.getElem?_eq_getElem h1, List.getD_eq_getElem?_getD, List.getElem?_eq_getElem h2] at key
  have key : a[i] = true ↔ b[i] = true := key
  cases ha : a[i] <;> cases hb : b[i] <;> simp_all
end

def isd (L : List Bool) (x : Int) : Bool := L.getD x.toNat false
def kpg (g : List Bool → List Bool) (L : List Bool) (x : Int) : List Bool := g (L.set x.toNat true)
def cwn (T : List Tw1) (L : List Bool) : Nat → Int
  | 0 => 0
  | i + 1 => if L.getD i false = true then cwn T L i + (1 + (T.getD i t0).2.1.length) else cwn T L i
def cuT (L : List Bool) (i : Nat) (t : Tw1) : Tw1 :=
  if L.getD i false = true then
    (t.1, (if t.1 = 4 ∧ inS L (t.2.1.getD 0 (0, 0)) = false then [(2, 0), (2, 0)] else if t.1 = 3 ∧ inS L (t.2.1.getD 0 (0, 0)) = false then [(2, 0), t.2.1.getD 1 (0, 0)] else t.2.1), true, t.2.2.2)
  else (t.1, [], t.2.2.1, true)
def cuL (L : List Bool) (T : List Tw1) : Nat → List Tw1
  | 0 => T
  | i + 1 => (cuL L T i).set i (cuT L i (T.getD i t0))
def Wrs.c0 (g : List Bool → List Bool) (s : Wrs) (mj : Bool) : List Bool := g (frs s.T s.rs mj)
def Wrs.cR (g : List Bool → List Bool) (s : Wrs) (mj : Bool) : List Bool × List En × List En :=
  turns isd (kpg g) (s.rg.length + 1) (s.rg.filter (fun e => !isd (s.c0 g mj) e.2)) (s.c0 g mj) []
def Wrs.cF (g : List Bool → List Bool) (s : Wrs) (grow : Int) (mj : Bool) : Bool :=
  (!mj && decide (grow - (usd s.T).2 < (usd s.T).1)) || decide (grow < cwn s.T (s.cR g mj).1 s.T.length)
def Wrs.cut (g : List Bool → List Bool) (s : Wrs) (grow : Int) (mj : Bool) : Wrs :=
  if s.cF g grow mj = true then s else
    { T := cuL (s.cR g mj).1 s.T s.T.length, rs := s.rs, rg := s.rg.filter (fun e => isd (s.c0 g mj) e.2 && isd (s.cR g mj).1 e.1), wt := (s.wt ++ (s.cR g mj).2.1).filter (fun e => isd (s.cR g mj).1 e.1) }
def Wrs.ccd (g : List Bool → List Bool) (s : Wrs) (grow : Int) (mj : Bool) : Int := if s.cF g grow mj = true then 3 else 0

def Gok (T : List Tw1) (wt : List En) (g : List Bool → List Bool) : Prop := ∀ is : List Bool, is.length = T.length → (∀ k, Ls_ is k → Alv T k) → Grn T wt is (g is)

theorem cuL_len (L : List Bool) (T : List Tw1) : ∀ i, (cuL L T i).length = T.length
  | 0 => rfl
  | i + 1 => by
    rw [cuL, List.length_set]
    exact cuL_len L T i
theorem cuL_get (L : List Bool) (T : List Tw1) : ∀ (i j : Nat), i ≤ T.length → j < T.length → (cuL L T i).getD j t0 = if j < i then cuT L j (T.getD j t0) else T.getD j t0
  | 0, j, _, _ => by rw [if_neg (by omega)]; rfl
  | i + 1, j, hi, hj => by
    have ih := cuL_get L T i j (by omega) hj
    rw [cuL, List.getD_eq_getElem?_getD, List.getElem?_set]
    by_cases e : i = j
    · subst e
      rw [if_pos rfl, if_pos (by rw [cuL_len]; exact hj), if_pos (by omega)]
      rfl
    · rw [if_neg e, ← List.getD_eq_getElem?_getD, ih]
      by_cases c : j < i
      · rw [if_pos c, if_pos (by omega)]
      · rw [if_neg c, if_neg (by omega)]
theorem cwn_bd (T : List Tw1) (L : List Bool) (h : ∀ i, (T.getD i t0).2.1.length ≤ 12) : ∀ i, 0 ≤ cwn T L i ∧ cwn T L i ≤ 13 * i
  | 0 => by simp [cwn]
  | i + 1 => by
    have ih := cwn_bd T L h i
    have := h i
    unfold cwn
    split
    · omega
    · omega

section
variable {T : List Tw1} {wt : List En} {g : List Bool → List Bool}

structure Sok_ (T : List Tw1) (L : List Bool) : Prop where
  len : L.length = T.length
  al : ∀ k, Ls_ L k → Alv T k
theorem Gok.ok (hg : Gok T wt g) (hW : Wiv T wt) {L : List Bool} (h : Sok_ T L) : Sok_ T (g L) ∧ ∀ k, Ls_ L k → Ls_ (g L) k := by
  have hG := hg L h.len h.al
  exact ⟨⟨hG.len.trans h.len, fun k hk => hG.lt _ hW.cls h.al k hk⟩, hG.up⟩
theorem Sok_.put {L : List Bool} (h : Sok_ T L) {x : Nat} (hx : Alv T x) : Sok_ T (L.set x true) ∧ Ls_ (L.set x true) x ∧ ∀ k, Ls_ L k → Ls_ (L.set x true) k := by
  have hl : x < L.length := by rw [h.len]; exact hx.1
  refine ⟨⟨by rw [List.length_set]; exact h.len, fun k hk => ?_⟩, ?_, fun k hk => ?_⟩
  · unfold Ls_ at hk
    rw [getD_setB _ _ _ hl] at hk
    split at hk
    · rename_i e
      rw [← e]
      exact hx
    · exact h.al k hk
  · unfold Ls_
    rw [getD_setB _ _ _ hl, if_pos rfl]
  · unfold Ls_ at hk ⊢
    rw [getD_setB _ _ _ hl]
    split
    · rfl
    · exact hk
end

end Go.Proofs.Ytjhnhbeimjnloaa
