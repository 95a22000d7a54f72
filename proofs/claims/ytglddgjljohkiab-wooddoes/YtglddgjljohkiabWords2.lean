/- What the functions of package word that ask others of it return at whatever numbers: contracts, over the seat's own translation; nothing that was in memory turns. -/
import Derived.Test.YtglddgjljohkiabWords
namespace Go.Proofs.Ytglddgjljohkiab
open Go.RowKit W

set_option maxRecDepth 100000 in
set_option maxHeartbeats 400000 in
theorem nil_any (w : World) : Calls Try.prog 57 #[] w fun e w' => e = .returned (.int .i64 2) ∧ w' = w := by
  go_enter Try.func57, Try.ntmps57
  go_wp2
  go_ret
  exact ⟨rfl, rfl⟩

set_option maxRecDepth 100000 in
set_option maxHeartbeats 400000 in
theorem ref_any (n : Int) (w : World) :
    Calls Try.prog 21 #[.int .i64 n] w fun e w' => e = .returned (.int .i64 (ew 3 n)) ∧ Below w.heap.size w w' := by
  go_enter Try.func21, Try.ntmps21
  go_wp2_with fail
  refine (encode_any 3 n _).mono ?_
  rintro e w1 ⟨rfl, hb⟩
  go_wp2_with fail
  go_ret
  exact ⟨rfl, hb⟩

set_option maxRecDepth 100000 in
set_option maxHeartbeats 400000 in
theorem at_any (x : Int) (w : World) :
    Calls Try.prog 22 #[.int .i64 x] w fun e w' => e = .returned (.tuple #[.int .i64 (aV x), .bool (aB x)]) ∧ Below w.heap.size w w' := by
  by_cases h0 : dc x = 0
  · have t0 : (dc x != 0) = false := by simpa using h0
    by_cases h3 : dk x = 3
    · have eb : aB x = true := by unfold aB; rw [h0, h3]; rfl
      rw [aV_yes x eb, eb]
      have t3 : (dk x != 3) = false := by simpa using h3
      clear h0 h3 eb
      go_enter Try.func22, Try.ntmps22
      go_wp2_with fail
      refine (decode_any x _).mono ?_
      rintro e w1 ⟨rfl, hb⟩
      go_wp2_with fail
      go_ret2
      exact ⟨rfl, hb.alloc hb.size _⟩
    · have eb : aB x = false := by unfold aB; rw [beq_eq_false_iff_ne.2 h3]; simp
      rw [aV_no x eb, eb]
      have t3 : (dk x != 3) = true := by simpa using h3
      clear h0 h3 eb
      go_enter Try.func22, Try.ntmps22
      go_wp2_with fail
      refine (decode_any x _).mono ?_
      rintro e w1 ⟨rfl, hb⟩
      go_wp2_with fail
      go_ret2
      exact ⟨rfl, hb.alloc hb.size _⟩
  · have t0 : (dc x != 0) = true := by simpa using h0
    have eb : aB x = false := by unfold aB; rw [beq_eq_false_iff_ne.2 h0]; simp
    rw [aV_no x eb, eb]
    clear h0 eb
    go_enter Try.func22, Try.ntmps22
    go_wp2_with fail
    refine (decode_any x _).mono ?_
    rintro e w1 ⟨rfl, hb⟩
    go_wp2_with fail
    go_ret2
    exact ⟨rfl, hb.alloc hb.size _⟩

set_option maxRecDepth 100000 in
set_option maxHeartbeats 400000 in
theorem fieldBounds_any (k : Int) (w : World) :
    Calls Try.prog 90 #[.int .i64 k] w fun e w' => e = .returned (.tuple #[.int .i64 (fl k), .int .i64 (fm k), .bool (fk k)]) ∧ w' = w := by
  by_cases c1 : k = 1
  · subst c1
    go_enter Try.func90, Try.ntmps90
    go_wp2
    go_ret3
    exact ⟨rfl, rfl⟩
  by_cases c2 : k = 2
  · subst c2
    go_enter Try.func90, Try.ntmps90
    go_wp2
    go_ret3
    exact ⟨rfl, rfl⟩
  by_cases c3 : k = 3
  · subst c3
    go_enter Try.func90, Try.ntmps90
    go_wp2
    go_ret3
    exact ⟨rfl, rfl⟩
  by_cases c4 : k = 4
  · subst c4
    go_enter Try.func90, Try.ntmps90
    go_wp2
    go_ret3
    exact ⟨rfl, rfl⟩
  by_cases c5 : k = 5
  · subst c5
    go_enter Try.func90, Try.ntmps90
    go_wp2
    go_ret3
    exact ⟨rfl, rfl⟩
  have e1 : fl k = 0 := by simp [fl, c1, c3, c4]
  have e2 : fm k = 0 := by simp [fm, c1, c2, c3, c4]
  have e3 : fk k = false := by simp [fk, c1, c2, c3, c4, c5]
  rw [e1, e2, e3]
  clear e1 e2 e3
  go_enter Try.func90, Try.ntmps90
  go_wp2
  go_ret3
  exact ⟨rfl, rfl⟩

set_option maxRecDepth 100000 in
set_option maxHeartbeats 400000 in
theorem head_yes (k f : Int) (w : World) (h : hc k f = 0) :
    Calls Try.prog 59 #[.int .i64 k, .int .i64 f] w fun e w' => e = .returned (.tuple #[.int .i64 (16 * f + k), .int .i64 0]) ∧ w' = w := by
  rcases hc_yes k f h with ⟨rfl, rfl⟩ | ⟨rfl, rfl⟩ | ⟨rfl, rfl⟩ | ⟨rfl, h1, h2⟩ | ⟨rfl, rfl⟩
  · clear h
    go_enter Try.func59, Try.ntmps59
    go_wp2_with fail
    refine (fieldBounds_any _ _).mono ?_
    rintro e w1 ⟨rfl, rfl⟩
    rw [show fl 1 = 2 from rfl, show fm 1 = 2 from rfl, show fk 1 = true from rfl]
    go_wp2
    go_ret2
    exact ⟨ret_two (by decide +kernel), rfl⟩
  · clear h
    go_enter Try.func59, Try.ntmps59
    go_wp2_with fail
    refine (fieldBounds_any _ _).mono ?_
    rintro e w1 ⟨rfl, rfl⟩
    rw [show fl 3 = 2 from rfl, show fm 3 = 2 from rfl, show fk 3 = true from rfl]
    go_wp2
    go_ret2
    exact ⟨ret_two (by decide +kernel), rfl⟩
  · clear h
    go_enter Try.func59, Try.ntmps59
    go_wp2_with fail
    refine (fieldBounds_any _ _).mono ?_
    rintro e w1 ⟨rfl, rfl⟩
    rw [show fl 4 = 2 from rfl, show fm 4 = 2 from rfl, show fk 4 = true from rfl]
    go_wp2
    go_ret2
    exact ⟨ret_two (by decide +kernel), rfl⟩
  · have E : Hid (bits .or .i64 (f * 16) 2 = 16 * f + 2) := head_or 2 f h
    clear h
    go_enter Try.func59, Try.ntmps59
    go_wp2_with fail
    refine (fieldBounds_any _ _).mono ?_
    rintro e w1 ⟨rfl, rfl⟩
    rw [show fl 2 = 0 from rfl, show fm 2 = 12 from rfl, show fk 2 = true from rfl]
    go_wp2
    go_ret2
    exact ⟨ret_two E.out, rfl⟩
  · clear h
    go_enter Try.func59, Try.ntmps59
    go_wp2_with fail
    refine (fieldBounds_any _ _).mono ?_
    rintro e w1 ⟨rfl, rfl⟩
    rw [show fl 5 = 0 from rfl, show fm 5 = 0 from rfl, show fk 5 = true from rfl]
    go_wp2
    go_ret2
    exact ⟨ret_two (by decide +kernel), rfl⟩

set_option maxRecDepth 100000 in
set_option maxHeartbeats 400000 in
theorem head_no1 (k f : Int) (w : World) (h : (k = 1 ∧ f < 2) ∨ (k = 1 ∧ 2 < f) ∨ (k = 3 ∧ f < 2) ∨ (k = 3 ∧ 2 < f) ∨ (k = 4 ∧ f < 2) ∨ (k = 4 ∧ 2 < f) ∨ (k = 2 ∧ f < 0) ∨ (k = 2 ∧ 12 < f) ∨ (k = 5 ∧ f < 0) ∨ (k = 5 ∧ 0 < f)) :
    Calls Try.prog 59 #[.int .i64 k, .int .i64 f] w fun e w' => e = .returned (.tuple #[.int .i64 0, .int .i64 1]) ∧ w' = w := by
  rcases h with ⟨rfl, h⟩ | ⟨rfl, h⟩ | ⟨rfl, h⟩ | ⟨rfl, h⟩ | ⟨rfl, h⟩ | ⟨rfl, h⟩ | ⟨rfl, h⟩ | ⟨rfl, h⟩ | ⟨rfl, h⟩ | ⟨rfl, h⟩
  · go_enter Try.func59, Try.ntmps59
    go_wp2_with fail
    refine (fieldBounds_any _ _).mono ?_
    rintro e w1 ⟨rfl, rfl⟩
    rw [show fl 1 = 2 from rfl, show fm 1 = 2 from rfl, show fk 1 = true from rfl]
    go_wp2
    go_ret2
    exact ⟨rfl, rfl⟩
  · go_enter Try.func59, Try.ntmps59
    go_wp2_with fail
    refine (fieldBounds_any _ _).mono ?_
    rintro e w1 ⟨rfl, rfl⟩
    rw [show fl 1 = 2 from rfl, show fm 1 = 2 from rfl, show fk 1 = true from rfl]
    go_wp2
    go_ret2
    exact ⟨rfl, rfl⟩
  · go_enter Try.func59, Try.ntmps59
    go_wp2_with fail
    refine (fieldBounds_any _ _).mono ?_
    rintro e w1 ⟨rfl, rfl⟩
    rw [show fl 3 = 2 from rfl, show fm 3 = 2 from rfl, show fk 3 = true from rfl]
    go_wp2
    go_ret2
    exact ⟨rfl, rfl⟩
  · go_enter Try.func59, Try.ntmps59
    go_wp2_with fail
    refine (fieldBounds_any _ _).mono ?_
    rintro e w1 ⟨rfl, rfl⟩
    rw [show fl 3 = 2 from rfl, show fm 3 = 2 from rfl, show fk 3 = true from rfl]
    go_wp2
    go_ret2
    exact ⟨rfl, rfl⟩
  · go_enter Try.func59, Try.ntmps59
    go_wp2_with fail
    refine (fieldBounds_any _ _).mono ?_
    rintro e w1 ⟨rfl, rfl⟩
    rw [show fl 4 = 2 from rfl, show fm 4 = 2 from rfl, show fk 4 = true from rfl]
    go_wp2
    go_ret2
    exact ⟨rfl, rfl⟩
  · go_enter Try.func59, Try.ntmps59
    go_wp2_with fail
    refine (fieldBounds_any _ _).mono ?_
    rintro e w1 ⟨rfl, rfl⟩
    rw [show fl 4 = 2 from rfl, show fm 4 = 2 from rfl, show fk 4 = true from rfl]
    go_wp2
    go_ret2
    exact ⟨rfl, rfl⟩
  · go_enter Try.func59, Try.ntmps59
    go_wp2_with fail
    refine (fieldBounds_any _ _).mono ?_
    rintro e w1 ⟨rfl, rfl⟩
    rw [show fl 2 = 0 from rfl, show fm 2 = 12 from rfl, show fk 2 = true from rfl]
    go_wp2
    go_ret2
    exact ⟨rfl, rfl⟩
  · go_enter Try.func59, Try.ntmps59
    go_wp2_with fail
    refine (fieldBounds_any _ _).mono ?_
    rintro e w1 ⟨rfl, rfl⟩
    rw [show fl 2 = 0 from rfl, show fm 2 = 12 from rfl, show fk 2 = true from rfl]
    go_wp2
    go_ret2
    exact ⟨rfl, rfl⟩
  · go_enter Try.func59, Try.ntmps59
    go_wp2_with fail
    refine (fieldBounds_any _ _).mono ?_
    rintro e w1 ⟨rfl, rfl⟩
    rw [show fl 5 = 0 from rfl, show fm 5 = 0 from rfl, show fk 5 = true from rfl]
    go_wp2
    go_ret2
    exact ⟨rfl, rfl⟩
  · go_enter Try.func59, Try.ntmps59
    go_wp2_with fail
    refine (fieldBounds_any _ _).mono ?_
    rintro e w1 ⟨rfl, rfl⟩
    rw [show fl 5 = 0 from rfl, show fm 5 = 0 from rfl, show fk 5 = true from rfl]
    go_wp2
    go_ret2
    exact ⟨rfl, rfl⟩

set_option maxRecDepth 100000 in
set_option maxHeartbeats 400000 in
theorem head_no2 (k f : Int) (w : World) (h1 : k ≠ 1) (h2 : k ≠ 2) (h3 : k ≠ 3) (h4 : k ≠ 4) (h5 : k ≠ 5) :
    Calls Try.prog 59 #[.int .i64 k, .int .i64 f] w fun e w' => e = .returned (.tuple #[.int .i64 0, .int .i64 2]) ∧ w' = w := by
  have e3 : fk k = false := by simp [fk, h1, h2, h3, h4, h5]
  go_enter Try.func59, Try.ntmps59
  go_wp2_with fail
  refine (fieldBounds_any _ _).mono ?_
  rintro e w1 ⟨rfl, rfl⟩
  go_wp2
  go_ret2
  exact ⟨rfl, rfl⟩

theorem head_any (k f : Int) (w : World) :
    Calls Try.prog 59 #[.int .i64 k, .int .i64 f] w fun e w' => e = .returned (.tuple #[.int .i64 (hw k f), .int .i64 (hc k f)]) ∧ w' = w := by
  by_cases h : hc k f = 0
  · rw [hw_yes k f h, h]; exact head_yes k f w h
  · rw [hw_no k f h]
    rcases hc_no k f h with e | ⟨h1, h2, h3, h4, h5⟩
    · rw [hc_1 k f e]
      exact head_no1 k f w e
    · rw [hc_2 k f h1 h2 h3 h4 h5]
      exact head_no2 k f w h1 h2 h3 h4 h5

set_option maxRecDepth 100000 in
set_option maxHeartbeats 400000 in
theorem parts_any (h : Int) (w : World) :
    Calls Try.prog 93 #[.int .i64 h] w fun e w' => e = .returned (.tuple #[.int .i64 (pk h), .int .i64 (pf h), .int .i64 (pc h)]) ∧ w' = w := by
  have ha := and15 h
  by_cases c : hc (h % 16) (h / 16) = 0
  · have e1 : pk h = h % 16 := by unfold pk; rw [if_pos c]
    have e2 : pf h = h / 16 := by unfold pf; rw [if_pos c]
    have e3 : pc h = 0 := by unfold pc; rw [if_pos c]
    rw [e1, e2, e3]
    clear e1 e2 e3
    have t : (hc (h % 16) (h / 16) != 0) = false := by simpa using c
    clear c
    go_enter Try.func93, Try.ntmps93
    go_wp2_with fail
    refine (head_any _ _ _).mono ?_
    rintro e w1 ⟨rfl, rfl⟩
    go_wp2_with fail
    go_ret3
    exact ⟨rfl, rfl⟩
  · have e1 : pk h = 0 := by unfold pk; rw [if_neg c]
    have e2 : pf h = 0 := by unfold pf; rw [if_neg c]
    have e3 : pc h = 7 := by unfold pc; rw [if_neg c]
    rw [e1, e2, e3]
    clear e1 e2 e3
    have t : (hc (h % 16) (h / 16) != 0) = true := by simpa using c
    clear c
    go_enter Try.func93, Try.ntmps93
    go_wp2_with fail
    refine (head_any _ _ _).mono ?_
    rintro e w1 ⟨rfl, rfl⟩
    go_wp2_with fail
    go_ret3
    exact ⟨rfl, rfl⟩

end Go.Proofs.Ytglddgjljohkiab
