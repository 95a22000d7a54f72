/- What becomes of entries by a set of words, told in two ways: lists alone. -/
import Derived.Test.YthlfgddhkffilaaStl2
import Derived.Test.YthlfgddhkffilaaSdc
namespace Go.Proofs.Ythlfgddhkffilaa
open Go.RowKit Kp Stl

/-- A thousand more. -/
abbrev w1k (x : Int) : Int := wrap64 (x + 1000)
theorem w1k_in {x : Int} (h0 : 0 ≤ x) (h1 : x ≤ 999) : w1k x = x + 1000 := IntWalk.wrap64_in _ ⟨by omega, by omega⟩
/-- Is a word alive: it was kept, or it is of the set. -/
def isW (A : List Int) (x : Int) : Bool := decide (1000 ≤ x) || A.contains x
theorem isW_in {A : List Int} {x : Int} (h1 : x ≤ 999) : isW A x = A.contains x := by
  unfold isW
  rw [decide_eq_false (by omega), Bool.false_or]
/-- A word as it is now. -/
def nwW (x : Int) : Int := if x < 1000 then w1k x else x
theorem nwW_in {x : Int} (h0 : 0 ≤ x) (h1 : x ≤ 999) : nwW x = x + 1000 := by
  unfold nwW
  rw [if_pos (by omega), w1k_in h0 h1]
theorem nwW_kept {x : Int} (h0 : 0 ≤ x) (h1 : x ≤ 999) : nwW (w1k x) = x + 1000 := by
  rw [w1k_in h0 h1]
  unfold nwW
  rw [if_neg (by omega)]

/-- Words from 0 to 999. -/
def Smw (l : List En) : Prop := ∀ e ∈ l, 0 ≤ e.1 ∧ e.1 ≤ 999 ∧ 0 ≤ e.2 ∧ e.2 ≤ 999

/-- What comes of an entry of a dead thing. -/
def lkW (L : Pairs) (N : Nat) (s : List Int × List En) (e : En) : Bool × (List Int × List En) :=
  if isW s.1 e.1 then (true, (dfs L N s.1 e.2, s.2 ++ [(e.1, w1k e.2)])) else (false, s)
/-- Alive, by a list. -/
def isC (A : List Int) (x : Int) : Bool := A.contains x
def kpD (L : Pairs) (N : Nat) (A : List Int) (x : Int) : List Int := dfs L N A x

theorem pass_acc {σ : Type} (is : σ → Int → Bool) (kp : σ → Int → σ) : ∀ (l : List En) (s : σ) (C D : List En), pass is kp l s C D = ((pass is kp l s [] []).1, C ++ (pass is kp l s [] []).2.1, D ++ (pass is kp l s [] []).2.2)
  | [], s, C, D => by simp [pass]
  | e :: r, s, C, D => by
    unfold pass
    split
    · rw [pass_acc is kp r _ (C ++ [e]) D, pass_acc is kp r _ ([] ++ [e]) []]
      simp
    · rw [pass_acc is kp r _ C (D ++ [e]), pass_acc is kp r _ [] ([] ++ [e])]
      simp

/-- As it waits then. -/
def kept (e : En) : En := (e.1, w1k e.2)
theorem fold_pass (L : Pairs) (N : Nat) : ∀ (l : List En) (Y D : List En) (A : List Int) (Q : List En), Smw l →
    l.foldl (pstep (lkW L N)) (Y, D, (A, Q)) = (Y ++ (pass isC (kpD L N) l A [] []).2.1, D ++ (pass isC (kpD L N) l A [] []).2.2, ((pass isC (kpD L N) l A [] []).1, Q ++ ((pass isC (kpD L N) l A [] []).2.1).map kept))
  | [], Y, D, A, Q, _ => by simp [pass]
  | e :: r, Y, D, A, Q, h => by
    have he := h e (by simp)
    have hr : Smw r := fun x hx => h x (by simp [hx])
    rw [List.foldl_cons]
    unfold pass
    cases hc : isC A e.1
    · have e1 : pstep (lkW L N) (Y, D, (A, Q)) e = (Y, D ++ [e], (A, Q)) := by
        have : isW A e.1 = false := by rw [isW_in he.2.1]; exact hc
        simp [pstep, lkW, this]
      rw [e1, fold_pass L N r _ _ _ _ hr, if_neg (by simp), pass_acc isC (kpD L N) r A [] ([] ++ [e])]
      simp
    · have e1 : pstep (lkW L N) (Y, D, (A, Q)) e = (Y ++ [e], D, (dfs L N A e.2, Q ++ [(e.1, w1k e.2)])) := by
        have : isW A e.1 = true := by rw [isW_in he.2.1]; exact hc
        simp [pstep, lkW, this]
      rw [e1, fold_pass L N r _ _ _ _ hr, if_pos rfl, pass_acc isC (kpD L N) r (kpD L N A e.2) ([] ++ [e]) []]
      simp [kept, kpD]

theorem pts_pass (L : Pairs) (N : Nat) (l : List En) (A : List Int) (Q : List En) (h : Smw l) : pts (lkW L N) (A, Q) l = ((pass isC (kpD L N) l A [] []).2.1, (pass isC (kpD L N) l A [] []).2.2, ((pass isC (kpD L N) l A [] []).1, Q ++ ((pass isC (kpD L N) l A [] []).2.1).map kept)) := by
  have := fold_pass L N l [] [] A Q h
  simpa [pts] using this

theorem pass_sub {σ : Type} (is : σ → Int → Bool) (kp : σ → Int → σ) : ∀ (l : List En) (s : σ) (e : En), (e ∈ (pass is kp l s [] []).2.1 ∨ e ∈ (pass is kp l s [] []).2.2) → e ∈ l
  | [], s, e, h => by simp [pass] at h
  | x :: r, s, e, h => by
    unfold pass at h
    split at h
    · rw [pass_acc is kp r _ ([] ++ [x]) []] at h
      have := pass_sub is kp r (kp s x.2) e
      simp at h ⊢
      grind
    · rw [pass_acc is kp r _ [] ([] ++ [x])] at h
      have := pass_sub is kp r s e
      simp at h ⊢
      grind

theorem turns_acc {σ : Type} (is : σ → Int → Bool) (kp : σ → Int → σ) : ∀ (n : Nat) (d : List En) (s : σ) (C : List En), turns is kp n d s C = ((turns is kp n d s []).1, C ++ (turns is kp n d s []).2.1, (turns is kp n d s []).2.2)
  | 0, d, s, C => by simp [turns]
  | n + 1, d, s, C => by
    have h := pass_acc is kp d s C []
    simp only [List.nil_append] at h
    by_cases hz : (pass is kp d s [] []).2.1.length = 0
    · rw [turns_stop (by rw [h]; simp [hz]), turns_stop (by simpa using hz), h]
    · rw [turns_go (by rw [h]; simp only [List.length_append]; omega), turns_go (by simpa using hz), h]
      dsimp only
      rw [turns_acc is kp n _ _ (C ++ _), turns_acc is kp n _ _ ((pass is kp d s [] []).2.1)]
      simp

theorem trn_turns (L : Pairs) (N : Nat) : ∀ (n : Nat) (d : List En) (A : List Int) (Q : List En), Smw d → trn (lkW L N) n (A, Q) d = (((turns isC (kpD L N) n d A []).1, Q ++ ((turns isC (kpD L N) n d A []).2.1).map kept), (turns isC (kpD L N) n d A []).2.2)
  | 0, d, A, Q, _ => by simp [trn, turns]
  | n + 1, d, A, Q, h => by
    have hp := pts_pass L N d A Q h
    by_cases hz : (pass isC (kpD L N) d A [] []).2.1.length = 0
    · rw [trn_stop _ _ _ _ (by rw [hp]; exact hz), turns_stop (by simpa using hz), hp]
    · rw [trn_go _ _ _ _ (by rw [hp]; exact hz), turns_go (by simpa using hz), hp]
      dsimp only
      rw [trn_turns L N n _ _ _ (fun e he => h e (pass_sub isC (kpD L N) d A e (Or.inr he))), turns_acc isC (kpD L N) n _ _ ((pass isC (kpD L N) d A [] []).2.1)]
      simp

/-- What comes of entries, by the set that grows deep first. -/
def tD (L : Pairs) (N : Nat) (A : List Int) (r : List En) : List Int × List En × List En := turns isC (kpD L N) ((r.filter (fun e => !A.contains e.2)).length + 1) (r.filter (fun e => !A.contains e.2)) A []

theorem turns_sub {σ : Type} (is : σ → Int → Bool) (kp : σ → Int → σ) : ∀ (n : Nat) (d : List En) (s : σ) (e : En), (e ∈ (turns is kp n d s []).2.1 ∨ e ∈ (turns is kp n d s []).2.2) → e ∈ d
  | 0, d, s, e, h => by simpa [turns] using h
  | n + 1, d, s, e, h => by
    have hs := pass_sub is kp d s e
    by_cases hz : (pass is kp d s [] []).2.1.length = 0
    · rw [turns_stop (by simpa using hz)] at h
      exact hs h
    · rw [turns_go (by simpa using hz), turns_acc is kp n _ _ ((pass is kp d s [] []).2.1)] at h
      have := turns_sub is kp n (pass is kp d s [] []).2.2 (pass is kp d s [] []).1 e
      simp only [List.mem_append] at h
      grind

end Go.Proofs.Ythlfgddhkffilaa
