/- What Words of package arena answers: a contract, over the seat's own translation; nothing that was in memory turns. -/
import Derived.Test.YthlfgddhkffilaaAr5
namespace Go.Proofs.Ythlfgddhkffilaa
open Go.RowKit W

theorem owns_empty (w : World) : (w.alloc (.cells #[] 2)).ownsRow w.heap.size 2 1 (.slice (some ⟨w.heap.size, 0, none⟩) 0 0) 0 [] :=
  ⟨rfl, Or.inr ⟨w.heap.size, 0, #[], rfl, Nat.le_refl _, heap_alloc_new _ _, Nat.le_refl _, Nat.zero_le _, rfl, rfl⟩⟩

/-- What is owned, and is not nil, has a head, and its cells lie there. -/
theorem owned_cells {w : World} {base n : Nat} {e : TypeId} {v : Value} {l : List Int} (h : w.ownsRow base e 1 v n (l.map (Value.int .i64))) (hn : 0 < n) :
    ∃ b cap, v = .slice (some ⟨b, 0, none⟩) n cap ∧ base ≤ b ∧ ∀ i, i < n → w.cell? ⟨b, i, none⟩ = some (.int .i64 (l.getD i 0)) := by
  obtain ⟨h1, h2⟩ := h
  rcases h2 with ⟨_, h2⟩ | ⟨b, cap, cur, hv, hb, hh, h3, h4, h5, h6⟩
  · omega
  · refine ⟨b, cap, hv, hb, fun i hi => ?_⟩
    have hl : l.length = n := by simpa using h1
    have hc : cur.toList[i]? = some (.int .i64 (l.getD i 0)) := by
      have t : (cur.toList.take (n * 1))[i]? = (l.map (Value.int .i64))[i]? := by rw [h6]
      rw [List.getElem?_take_of_lt (by omega), List.getElem?_map, List.getElem?_eq_getElem (show i < l.length by omega)] at t
      rw [t]
      simp [List.getD_eq_getElem?_getD, List.getElem?_eq_getElem (show i < l.length by omega)]
    simp only [World.cell?, hh]
    simpa using hc

theorem At.all {w : World} {p q N O y g : Nat} {ws : List Int} (h : At w p q N O y g ws) (j : Nat) (v : Value) (hv : (ws.map (Value.int .i64))[j]? = some v) : w.cell? ((⟨q, 0, none⟩ : Addr).add j) = some v := by
  have := h.src 0 (N + O) (by omega) j v
  rw [List.drop_zero, List.take_of_length_le (by rw [h.hl]; omega)] at this
  exact this hv

set_option maxRecDepth 100000 in
set_option maxHeartbeats 400000 in
theorem clone_any {p q N O y g : Nat} {ws : List Int} (w : World) (h : At w p q N O y g ws) :
    Calls Try.prog 97 #[.slice (some ⟨q, 0, none⟩) (N + O) (N + O)] w fun e w' => ∃ b cap, e = .returned (.slice (some ⟨b, 0, none⟩) (N + O) cap) ∧ w.heap.size ≤ b ∧ (∀ i, i < N + O → w'.cell? ⟨b, i, none⟩ = some (.int .i64 (ws.getD i 0))) ∧ Below w.heap.size w w' := by
  obtain ⟨i0, hi, hz0, hz1, hz2⟩ := info_parts info64A
  have qn : ∀ (w : World) (a : Option Addr) (n c : Nat), (binOp .eql 54 (.slice a n c) (.slice none 0 0)).run Try.prog w = .ok (.bool a.isNone) w := fun w a n c => Lib.run_eql_slice_nil w _ _ a n c 0 0 Try.underlying54
  have k1 := h.hN'
  have k2 := h.hN
  have k3 := h.hO
  have hl := h.hl
  go_enter Try.func97, Try.ntmps97
  go_wp2_with (at_builtin; refine wpList_append_own _ rfl _ _ 54 rfl w.heap.size 2 i0 (.int .i64 0) 1 8 Try.underlying54 hi hz0 hz1 hz2 rfl (by decide) _ 0 [] rfl (owns_empty w) ⟨q, 0, none⟩ (N + O) (N + O) (ws.map (Value.int .i64)) rfl ?_ ?_ (ints_one _) ?_ ?_ ?_ ?_; (simp; omega); (intro j u hj; exact (h.alloc _).all j u hj); (unfold maxLen; omega); omega; (simp); intro v w1 hown hgrow _)
  rw [List.nil_append, Nat.zero_add] at hown
  obtain ⟨b, cap, rfl, hb, hc⟩ := owned_cells hown (by omega)
  go_ret
  exact ⟨b, cap, rfl, hb, hc, ((Below.refl _ _).alloc (Nat.le_refl _) _).grown hgrow (by simp) (fun k e => by cases e; exact Nat.le_refl _)⟩

set_option maxRecDepth 100000 in
set_option maxHeartbeats 400000 in
theorem words_any {p q N O y g : Nat} {ws : List Int} (w : World) (h : At w p q N O y g ws) :
    Calls Try.prog 53 #[.pointer (some ⟨p, 0, none⟩)] w fun e w' => ∃ b cap, e = .returned (.slice (some ⟨b, 0, none⟩) (N + O) cap) ∧ w.heap.size ≤ b ∧ (∀ i, i < N + O → w'.cell? ⟨b, i, none⟩ = some (.int .i64 (ws.getD i 0))) ∧ Below w.heap.size w w' := by
  obtain ⟨c0, c1, c2, c3, c4, c5, c6⟩ := h.cells
  go_enter Try.func53, Try.ntmps53
  go_wp2_with fail
  refine (clone_any _ h).mono ?_
  rintro e w1 ⟨b, cap, rfl, hb, hc, hbel⟩
  have HC : Hid (∀ i, i < N + O → w1.cell? ⟨b, i, none⟩ = some (.int .i64 (ws.getD i 0))) := hc
  clear hc
  go_wp2_with fail
  go_ret
  exact ⟨b, cap, rfl, hb, HC.out, hbel⟩

end Go.Proofs.Ythlfgddhkffilaa
