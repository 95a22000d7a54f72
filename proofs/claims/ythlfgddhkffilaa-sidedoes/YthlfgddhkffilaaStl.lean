/- What becomes of what is registered and what waits: from the front, again and again, till nothing more comes; of whatever tells what is alive, and keeps it; two that tell the same come to the same; nothing comes twice. Lists and numbers alone. -/
import Derived.Test.YthlfgddhkffilaaKp
namespace Go.Proofs.Ythlfgddhkffilaa.Stl
open Kp

/-- An entry: a guardian and a thing, by their words. -/
abbrev En := Int × Int

section
variable {σ τ : Type}

/-- Once from the front, of entries of dead things: those whose guardian is alive by then come; the others are left. -/
def pass (is : σ → Int → Bool) (kp : σ → Int → σ) : List En → σ → List En → List En → σ × List En × List En
  | [], s, C, D => (s, C, D)
  | e :: r, s, C, D => if is s e.1 then pass is kp r (kp s e.2) (C ++ [e]) D else pass is kp r s C (D ++ [e])

/-- Again and again. -/
def turns (is : σ → Int → Bool) (kp : σ → Int → σ) : Nat → List En → σ → List En → σ × List En × List En
  | 0, D, s, C => (s, C, D)
  | n + 1, D, s, C => if (pass is kp D s C []).2.1.length = C.length then pass is kp D s C [] else turns is kp n (pass is kp D s C []).2.2 (pass is kp D s C []).1 (pass is kp D s C []).2.1

variable {is : σ → Int → Bool} {kp : σ → Int → σ}

theorem pass_len : ∀ (l : List En) (s : σ) (C D : List En), (pass is kp l s C D).2.1.length + (pass is kp l s C D).2.2.length = C.length + D.length + l.length ∧ C.length ≤ (pass is kp l s C D).2.1.length
  | [], s, C, D => by simp [pass]
  | e :: r, s, C, D => by
    unfold pass
    split
    · have := pass_len r (kp s e.2) (C ++ [e]) D
      simp at this ⊢
      omega
    · have := pass_len r s C (D ++ [e])
      simp at this ⊢
      omega

theorem turns_go {n : Nat} {D : List En} {s : σ} {C : List En} (h : (pass is kp D s C []).2.1.length ≠ C.length) : turns is kp (n + 1) D s C = turns is kp n (pass is kp D s C []).2.2 (pass is kp D s C []).1 (pass is kp D s C []).2.1 := by
  rw [turns, if_neg h]
theorem turns_stop {n : Nat} {D : List En} {s : σ} {C : List En} (h : (pass is kp D s C []).2.1.length = C.length) : turns is kp (n + 1) D s C = pass is kp D s C [] := by
  rw [turns, if_pos h]

/-- Nothing is lost, and nothing is made up. -/
theorem pass_count (x : En) : ∀ (l : List En) (s : σ) (C D : List En), (pass is kp l s C D).2.1.count x + (pass is kp l s C D).2.2.count x = C.count x + D.count x + l.count x
  | [], s, C, D => by simp [pass]
  | e :: r, s, C, D => by
    unfold pass
    split
    · rw [pass_count x r (kp s e.2) (C ++ [e]) D, List.count_append, List.count_cons, List.count_cons, List.count_nil]
      omega
    · rw [pass_count x r s C (D ++ [e]), List.count_append, List.count_cons, List.count_cons, List.count_nil]
      omega

theorem turns_count (x : En) : ∀ (n : Nat) (D : List En) (s : σ) (C : List En), (turns is kp n D s C).2.1.count x + (turns is kp n D s C).2.2.count x = C.count x + D.count x
  | 0, D, s, C => by simp [turns]
  | n + 1, D, s, C => by
    have h := pass_count (is := is) (kp := kp) x D s C []
    unfold turns
    split
    · rw [h]; simp
    · rw [turns_count x n, h]; simp

theorem turns_len : ∀ (n : Nat) (D : List En) (s : σ) (C : List En), (turns is kp n D s C).2.1.length + (turns is kp n D s C).2.2.length = C.length + D.length
  | 0, D, s, C => by simp [turns]
  | n + 1, D, s, C => by
    have h := (pass_len (is := is) (kp := kp) D s C []).1
    unfold turns
    split
    · rw [h]; simp
    · rw [turns_len n, h]; simp

/-- With turns enough it makes no odds how many. -/
theorem turns_more : ∀ (n m : Nat) (D : List En) (s : σ) (C : List En), D.length < n → D.length < m → turns is kp n D s C = turns is kp m D s C
  | 0, _, _, _, _, h, _ => by omega
  | n + 1, 0, _, _, _, _, h => by omega
  | n + 1, m + 1, D, s, C, h1, h2 => by
    have h := pass_len (is := is) (kp := kp) D s C []
    simp at h
    unfold turns
    split
    · rfl
    · exact turns_more n m _ _ _ (by omega) (by omega)

/-- What holds ahead, and what keeping keeps, holds behind. -/
theorem pass_inv (I : σ → Prop) (hk : ∀ s x, I s → I (kp s x)) : ∀ (l : List En) (s : σ) (C D : List En), I s → I (pass is kp l s C D).1
  | [], _, _, _, h => h
  | e :: r, s, C, D, h => by
    unfold pass
    split
    · exact pass_inv I hk r _ _ _ (hk _ _ h)
    · exact pass_inv I hk r _ _ _ h
theorem turns_inv (I : σ → Prop) (hk : ∀ s x, I s → I (kp s x)) : ∀ (n : Nat) (D : List En) (s : σ) (C : List En), I s → I (turns is kp n D s C).1
  | 0, _, _, _, h => h
  | n + 1, D, s, C, h => by
    unfold turns
    split
    · exact pass_inv I hk _ _ _ _ h
    · exact turns_inv I hk n _ _ _ (pass_inv I hk _ _ _ _ h)

/-- Two that tell the same, and keep the same, come to the same. -/
theorem pass_sim {is' : τ → Int → Bool} {kp' : τ → Int → τ} (ρ : σ → τ → Prop) (hi : ∀ s t x, ρ s t → is s x = is' t x) (hk : ∀ s t x, ρ s t → ρ (kp s x) (kp' t x)) :
    ∀ (l : List En) (s : σ) (t : τ) (C D : List En), ρ s t → ρ (pass is kp l s C D).1 (pass is' kp' l t C D).1 ∧ (pass is kp l s C D).2 = (pass is' kp' l t C D).2
  | [], _, _, _, _, h => ⟨h, rfl⟩
  | e :: r, s, t, C, D, h => by
    unfold pass
    rw [← hi s t e.1 h]
    split
    · exact pass_sim ρ hi hk r _ _ _ _ (hk _ _ _ h)
    · exact pass_sim ρ hi hk r _ _ _ _ h
theorem turns_sim {is' : τ → Int → Bool} {kp' : τ → Int → τ} (ρ : σ → τ → Prop) (hi : ∀ s t x, ρ s t → is s x = is' t x) (hk : ∀ s t x, ρ s t → ρ (kp s x) (kp' t x)) :
    ∀ (n : Nat) (D : List En) (s : σ) (t : τ) (C : List En), ρ s t → ρ (turns is kp n D s C).1 (turns is' kp' n D t C).1 ∧ (turns is kp n D s C).2 = (turns is' kp' n D t C).2
  | 0, _, _, _, _, h => ⟨h, rfl⟩
  | n + 1, D, s, t, C, h => by
    obtain ⟨h1, h2⟩ := pass_sim ρ hi hk D s t C [] h
    unfold turns
    rw [← h2]
    split
    · exact ⟨h1, h2⟩
    · exact turns_sim ρ hi hk n _ _ _ _ h1

end

end Go.Proofs.Ythlfgddhkffilaa.Stl
