/- Lists of entries: Clip, with, Clone: contracts. -/
import Derived.Test.YthlfgddhkffilaaSd
import Derived.Deep.RegionLawGrows
namespace Go.Proofs.Ythlfgddhkffilaa
open Go.RowKit W Kp Stl

set_option maxRecDepth 100000 in
set_option maxHeartbeats 400000 in
theorem clip_any (w : World) (ad : Option Addr) (n cap : Nat) (h1 : n ≤ cap) :
    Calls Try.prog 119 #[.slice ad n cap] w fun e w' => e = .returned (.slice ad n n) ∧ w' = w := by
  go_enter Try.func119, Try.ntmps119
  go_wp2_with fail
  go_ret
  exact ⟨rfl, rfl⟩

/-- A list that may be read: its slice, whatever its room. -/
structure Li (w : World) (ad : Option Addr) (l : List En) (cap : Nat) : Prop where
  lp : Lp w ad l
  le : l.length ≤ cap
  nil : ad = none → l.length = 0 ∧ cap = 0

theorem Lp.cells {w : World} {ad : Option Addr} {q : List En} (h : Lp w ad q) : ∀ b, ad = some b → ∀ j u, (ev q)[j]? = some u → w.cell? (b.add j) = some u := by
  intro b e j u hj
  have hl := ev_length q
  have hjl : j < (ev q).length := (List.getElem?_eq_some_iff.1 hj).1
  obtain ⟨g, o, e2, hb, hc⟩ := h (by omega)
  rw [e] at e2
  cases e2
  obtain ⟨c1, c2⟩ := hc (j / 2) (by omega)
  obtain ⟨k1, k2⟩ := ev_get q (j / 2) (by omega)
  rcases Nat.mod_two_eq_zero_or_one j with hz | hz
  · have e3 : j / 2 * 2 = j := by omega
    rw [e3] at k1 c1
    rw [hj] at k1
    cases k1
    rw [Addr.add_lit]
    exact c1
  · have e3 : j / 2 * 2 + 1 = j := by omega
    have e4 : o + j / 2 * 2 + 1 = o + j := by omega
    rw [e3] at k2
    rw [e4] at c2
    rw [hj] at k2
    cases k2
    rw [Addr.add_lit]
    exact c2
theorem Lp.below {w w' : World} {ad : Option Addr} {l : List (Int × Int)} (h : Lp w ad l) (hb : Below w.heap.size w w') : Lp w' ad l :=
  h.keep hb.size (fun hp z e => by
    obtain ⟨b, o, e2, hlt, _⟩ := h hp
    rw [e] at e2
    cases e2
    exact hb.block _ hlt)

set_option maxRecDepth 100000 in
set_option maxHeartbeats 400000 in
theorem with_any (w : World) (ad : Option Addr) (q : List En) (cap : Nat) (g z : Int) (h : Li w ad q cap) (hm : q.length ≤ 100000) :
    Calls Try.prog 103 #[.slice ad q.length cap, .agg #[.int .i64 g, .int .i64 z]] w fun e w' => ∃ b1 cap1, e = .returned (.slice (some ⟨b1, 0, none⟩) (q.length + 1) cap1) ∧ w'.ownsRow w.heap.size 84 2 (.slice (some ⟨b1, 0, none⟩) (q.length + 1) cap1) (q.length + 1) (ev (q ++ [(g, z)])) ∧ Below w.heap.size w w' := by
  obtain ⟨i0, hi, hz0, hz1, hz2⟩ := info_parts infoEn
  have HL : Hid (Lp w ad q) := h.lp
  have HN : Hid (ad = none → q.length = 0 ∧ q.length = 0) := fun e => ⟨(h.nil e).1, (h.nil e).1⟩
  have hle := h.le
  clear h
  go_enter Try.func103, Try.ntmps103
  go_wp2_with fail
  go_region_held3 (fun w' => w'.cell? ⟨w.heap.size, 0, none⟩ = some (.int .i64 g) ∧ w'.cell? ⟨w.heap.size, 1, none⟩ = some (.int .i64 z)) (go_keep)
    (first | (go_at_call 119; refine (clip_any _ ad q.length cap hle).mono ?_; rintro e w3 ⟨rfl, rfl⟩) | (refine step_append_grows rfl (.tmp 6) (.tmp 8) 80 rfl 84 i0 (.agg #[.int .i64 0, .int .i64 0]) 2 16 Try.underlying80 hi hz0 hz1 hz2 rfl (by decide) ad q.length q.length (ev q) (by simp [Act.eval]) HN.out (ev_length q) (HL.out.below (by first | exact (((Below.refl _ w).alloc (Nat.le_refl _) _).alloc (by simp) _).drew | exact ((Below.refl _ w).alloc (Nat.le_refl _) _).drew.alloc (by simp) _)).cells ⟨w.heap.size + 1, 0, none⟩ 1 1 [.int .i64 g, .int .i64 z] (by simp [Act.eval]) rfl ?_ ?_ (by omega) (by unfold maxLen; omega) (by omega) ?_; (intro j u hj; match j, hj with | 0, hj => (simp at hj; subst hj; simp [Addr.add]) | 1, hj => (simp at hj; subst hj; simp [Addr.add])); (intro u hu; simp at hu; rcases hu with hu | hu <;> (subst hu; rfl)); intro v' w4 hown4 hgrow4; obtain ⟨b4, cap4, ev4⟩ := row_shape hown4 (Nat.succ_pos _); subst ev4; have y1 := hgrow4.cell (a := ⟨w.heap.size, 0, none⟩) (v := .int .i64 g) (by simp) (by simp); have y2 := hgrow4.cell (a := ⟨w.heap.size, 1, none⟩) (v := .int .i64 z) (by simp) (by simp)))
  all_goals
    go_wp2_with fail
    go_ret
    exact ⟨b4, cap4, rfl, by rw [ev_append]; exact row_base hown4 (fun k e => by have := (row_lt hown4 k e).1; simp at this; omega), by first | exact ((((Below.refl _ w).alloc (Nat.le_refl _) _).alloc (by simp) _).drew).grown hgrow4 (by simp; omega) (fun k e => by cases e) | exact (((Below.refl _ w).alloc (Nat.le_refl _) _).drew.alloc (by simp) _).grown hgrow4 (by simp; omega) (fun k e => by cases e)⟩

theorem ev_one (l : List En) : ∀ u ∈ ev l, u.oneCell' = true := by
  intro u hu
  simp only [ev, List.mem_flatMap] at hu
  obtain ⟨e, _, hu⟩ := hu
  simp at hu
  rcases hu with rfl | rfl <;> rfl

theorem owns_emptyE (w : World) : (w.alloc (.cells #[] 84)).ownsRow w.heap.size 84 2 (.slice (some ⟨w.heap.size, 0, none⟩) 0 0) 0 [] :=
  ⟨rfl, Or.inr ⟨w.heap.size, 0, #[], rfl, Nat.le_refl _, heap_alloc_new _ _, Nat.le_refl _, Nat.zero_le _, rfl, rfl⟩⟩

set_option maxRecDepth 100000 in
set_option maxHeartbeats 400000 in
theorem cloneE_any (w : World) (ad : Option Addr) (l : List En) (cap : Nat) (h : Li w ad l cap) (hm : l.length ≤ 100000) :
    Calls Try.prog 107 #[.slice ad l.length cap] w fun e w' => ∃ a1 c1, e = .returned (.slice a1 l.length c1) ∧ w'.ownsRow w.heap.size 84 2 (.slice a1 l.length c1) l.length (ev l) ∧ Below w.heap.size w w' := by
  obtain ⟨i0, hi, hz0, hz1, hz2⟩ := info_parts infoEn
  have qn : ∀ (w : World) (a : Option Addr) (n c : Nat), (binOp .eql 80 (.slice a n c) (.slice none 0 0)).run Try.prog w = .ok (.bool a.isNone) w := fun w a n c => Lib.run_eql_slice_nil w _ _ a n c 0 0 Try.underlying80
  have HL : Hid (Lp w ad l) := h.lp
  cases ad with
  | none =>
    have hl : l = [] := List.eq_nil_of_length_eq_zero (h.nil rfl).1
    subst hl
    clear h HL
    go_enter Try.func107, Try.ntmps107
    go_wp2_with fail
    go_ret
    exact ⟨none, 0, rfl, World.ownsRow_nil _ _ _ _, Below.refl _ _⟩
  | some a =>
    clear h
    go_enter Try.func107, Try.ntmps107
    go_wp2_with (at_builtin; refine wpList_append_own _ rfl _ _ 80 rfl w.heap.size 84 i0 (.agg #[.int .i64 0, .int .i64 0]) 2 16 Try.underlying80 hi hz0 hz1 hz2 rfl (by decide) _ 0 [] rfl (owns_emptyE w) a l.length cap (ev l) rfl (ev_length l) ((HL.out.below ((Below.refl _ _).alloc (Nat.le_refl _) _)).cells a rfl) (ev_one l) ?_ ?_ ?_ ?_; (unfold maxLen; omega); omega; (simp); intro v w1 hown hgrow _)
    rw [List.nil_append, Nat.zero_add] at hown
    obtain ⟨a1, c1, rfl⟩ := row_slice hown
    go_wp2_with fail
    go_ret
    exact ⟨a1, c1, rfl, hown, ((Below.refl _ _).alloc (Nat.le_refl _) _).grown hgrow (by simp) (fun k e => by cases e; exact Nat.le_refl _)⟩

end Go.Proofs.Ythlfgddhkffilaa
