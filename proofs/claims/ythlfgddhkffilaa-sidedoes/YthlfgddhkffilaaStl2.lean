/- The same by flags: which are dead, which have come; once from the front, entry by entry. Lists alone. -/
import Derived.Test.YthlfgddhkffilaaStl
namespace Go.Proofs.Ythlfgddhkffilaa.Stl

/-- Of entries, those that are dead and have not come. -/
def rem : List En → List Bool → List Bool → List En
  | e :: r, d :: D, m :: M => if d && !m then e :: rem r D M else rem r D M
  | _, _, _ => []

theorem rem_nil (D M : List Bool) : rem [] D M = [] := by cases D <;> cases M <;> rfl

theorem rem_append : ∀ (a b : List En) (c d e f : List Bool), a.length = c.length → a.length = e.length → rem (a ++ b) (c ++ d) (e ++ f) = rem a c e ++ rem b d f
  | [], b, [], d, [], f, _, _ => by simp [rem]
  | x :: a, b, y :: c, d, z :: e, f, h1, h2 => by
    have ih := rem_append a b c d e f (by simpa using h1) (by simpa using h2)
    simp only [List.cons_append, rem]
    split
    · rw [ih]; rfl
    · exact ih
  | [], _, _ :: _, _, _, _, h, _ => by simp at h
  | [], _, [], _, _ :: _, _, _, h => by simp at h
  | _ :: _, _, [], _, _, _, h, _ => by simp at h
  | _ :: _, _, _ :: _, _, [], _, _, h => by simp at h

theorem rem_len : ∀ (r : List En) (D M : List Bool), (rem r D M).length ≤ r.length
  | [], D, M => by rw [rem_nil]; simp
  | e :: r, [], M => by simp [rem]
  | e :: r, d :: D, [] => by simp [rem]
  | e :: r, d :: D, m :: M => by
    have := rem_len r D M
    simp only [rem]
    split <;> simp <;> omega

theorem drop_cons {α : Type} (l : List α) (i : Nat) (h : i < l.length) (z : α) : l.drop i = l.getD i z :: l.drop (i + 1) := by
  rw [List.drop_eq_getElem_cons h]
  simp [List.getElem?_eq_getElem h]
theorem take_snoc {α : Type} (l : List α) (i : Nat) (h : i < l.length) (z : α) : l.take (i + 1) = l.take i ++ [l.getD i z] := by
  rw [List.take_add_one, List.getElem?_eq_getElem h]
  simp [List.getElem?_eq_getElem h]

theorem rem_drop (r : List En) (D M : List Bool) (i : Nat) (h : i < r.length) (h1 : D.length = r.length) (h2 : M.length = r.length) :
    rem (r.drop i) (D.drop i) (M.drop i) = if D.getD i false && !M.getD i false then r.getD i (0, 0) :: rem (r.drop (i + 1)) (D.drop (i + 1)) (M.drop (i + 1)) else rem (r.drop (i + 1)) (D.drop (i + 1)) (M.drop (i + 1)) := by
  rw [drop_cons r i h (0, 0), drop_cons D i (by omega) false, drop_cons M i (by omega) false, rem]
theorem rem_take (r : List En) (D M : List Bool) (i : Nat) (h : i < r.length) (h1 : D.length = r.length) (h2 : M.length = r.length) :
    rem (r.take (i + 1)) (D.take (i + 1)) (M.take (i + 1)) = rem (r.take i) (D.take i) (M.take i) ++ if D.getD i false && !M.getD i false then [r.getD i (0, 0)] else [] := by
  rw [take_snoc r i h (0, 0), take_snoc D i (by omega) false, take_snoc M i (by omega) false, rem_append _ _ _ _ _ _ (by simp; omega) (by simp; omega)]
  congr 1
theorem rem_first (p : En → Bool) : ∀ r : List En, rem r (r.map (fun e => !p e)) (List.replicate r.length false) = r.filter (fun e => !p e)
  | [] => rfl
  | e :: r => by
    have ih := rem_first p r
    simp only [List.map_cons, List.length_cons, List.replicate_succ, rem, ih, List.filter_cons]
    cases p e <;> rfl

section
variable {σ : Type} {is : σ → Int → Bool} {kp : σ → Int → σ}

/-- So far from the front. -/
structure Far (is : σ → Int → Bool) (kp : σ → Int → σ) (r : List En) (D : List Bool) (P : σ × List En × List En) (i : Nat) (A : σ) (C : List En) (M : List Bool) : Prop where
  hD : D.length = r.length
  hM : M.length = r.length
  eq : pass is kp (rem (r.drop i) (D.drop i) (M.drop i)) A C (rem (r.take i) (D.take i) (M.take i)) = P

variable {r : List En} {D M : List Bool} {P : σ × List En × List En} {i : Nat} {A : σ} {C : List En}

theorem Far.start (h1 : D.length = r.length) (h2 : M.length = r.length) : Far is kp r D (pass is kp (rem r D M) A C []) 0 A C M := ⟨h1, h2, by simp [rem_nil]⟩
theorem Far.skip (h : Far is kp r D P i A C M) (hi : i < r.length) (hf : (D.getD i false && !M.getD i false) = false) : Far is kp r D P (i + 1) A C M := by
  refine ⟨h.hD, h.hM, ?_⟩
  have e := h.eq
  rw [rem_drop r D M i hi h.hD h.hM, hf] at e
  rw [rem_take r D M i hi h.hD h.hM, hf]
  simpa using e
theorem Far.left (h : Far is kp r D P i A C M) (hi : i < r.length) (hf : (D.getD i false && !M.getD i false) = true) (hn : is A (r.getD i (0, 0)).1 = false) : Far is kp r D P (i + 1) A C M := by
  refine ⟨h.hD, h.hM, ?_⟩
  have e := h.eq
  rw [rem_drop r D M i hi h.hD h.hM, hf, if_pos rfl, pass, hn] at e
  rw [rem_take r D M i hi h.hD h.hM, hf]
  simpa using e
theorem Far.come (h : Far is kp r D P i A C M) (hi : i < r.length) (hf : (D.getD i false && !M.getD i false) = true) (hn : is A (r.getD i (0, 0)).1 = true) : Far is kp r D P (i + 1) (kp A (r.getD i (0, 0)).2) (C ++ [r.getD i (0, 0)]) (M.set i true) := by
  have hM' : (M.set i true).length = r.length := by simpa using h.hM
  refine ⟨h.hD, hM', ?_⟩
  have e := h.eq
  rw [rem_drop r D M i hi h.hD h.hM, hf, if_pos rfl, pass, hn, if_pos rfl] at e
  have e1 : (M.set i true).drop (i + 1) = M.drop (i + 1) := by rw [List.drop_set_of_lt (by omega)]
  have e2 : (M.set i true).take i = M.take i := by rw [List.take_set_of_le (by omega)]
  have e3 : (M.set i true).getD i false = true := by simp [h.hM, hi]
  rw [rem_take r D (M.set i true) i hi h.hD hM', e1, e2, e3]
  simpa using e
theorem Far.stop (h : Far is kp r D P r.length A C M) : (A, C, rem r D M) = P := by
  have e := h.eq
  rw [List.drop_length, rem_nil, List.take_length, ← h.hD, List.take_length, h.hD, ← h.hM, List.take_length] at e
  exact e

end

end Go.Proofs.Ythlfgddhkffilaa.Stl
