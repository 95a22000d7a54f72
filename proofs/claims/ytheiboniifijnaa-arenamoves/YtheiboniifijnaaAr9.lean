/- Make and Copy of package arena in one contract each, whatever they are asked; what words are where a thing was made. -/
import Derived.Test.YtheiboniifijnaaABegun
namespace Go.Proofs.Ytheiboniifijnaa
open Go.RowKit W

theorem length_fil (ws : List Int) (y : Nat) (hd : Int) (k : Nat) : (fil ws y hd k).length = ws.length := by
  induction k with
  | zero => simp [fil]
  | succ k ih => simp [fil, ih]
theorem getD_set (l : List Int) (i j : Nat) (x : Int) (h : i < l.length) : (l.set i x).getD j 0 = if i = j then x else l.getD j 0 := by
  rw [List.getD_eq_getElem?_getD, List.getD_eq_getElem?_getD, List.getElem?_set]
  split
  · rename_i e; subst e; simp
  · rfl
theorem fil_get (ws : List Int) (y : Nat) (hd : Int) (k i : Nat) (h : y + k < ws.length) : (fil ws y hd k).getD i 0 = if i = y then hd else if y + 1 ≤ i ∧ i < y + 1 + k then 2 else ws.getD i 0 := by
  induction k with
  | zero =>
    rw [fil, getD_set _ _ _ _ (by omega)]
    by_cases e : y = i
    · rw [if_pos e, if_pos e.symm]
    · rw [if_neg e, if_neg (fun c => e c.symm), if_neg (by omega)]
  | succ k ih =>
    rw [fil, getD_set _ _ _ _ (by rw [length_fil]; omega), ih (by omega)]
    by_cases e : y + 1 + k = i
    · rw [if_pos e, if_neg (by omega), if_pos (by omega)]
    · rw [if_neg e]
      by_cases e2 : i = y
      · rw [if_pos e2, if_pos e2]
      · rw [if_neg e2, if_neg e2]
        by_cases e3 : y + 1 ≤ i ∧ i < y + 1 + k
        · rw [if_pos e3, if_pos (by omega)]
        · rw [if_neg e3, if_neg (by omega)]

theorem hB_head (y f : Nat) : hB 0 ((y + 1 + f : Nat) : Int) y = true := by simp [hB]; omega
theorem ld_head {N y g : Nat} {ws : List Int} (hd : Int) (f : Nat) (h : y + f < ws.length) : ld N (y + 1 + f) g (fil ws y hd f) y = hd := by
  have hi : iB N (y + 1 + f) g y = true := by unfold iB; rw [hB_head]; rfl
  unfold ld
  rw [if_pos hi, Int.toNat_natCast, fil_get _ _ _ _ _ h, if_pos rfl]
theorem en_head (N y g f : Nat) : en N (y + 1 + f) g y = ((y + 1 + f : Nat) : Int) := by
  unfold en
  rw [if_pos (hB_head y f)]
theorem ld_none {N y g : Nat} {ws : List Int} {a : Int} (h1 : a < 0 ∨ (y : Int) ≤ a) (h2 : a < N ∨ (N : Int) + g ≤ a) : ld N y g ws a = 0 := by
  have e1 : hB 0 y a = false := by simp [hB]; omega
  have e2 : hB N g a = false := by simp [hB]; omega
  unfold ld iB
  rw [e1, e2]
  rfl

/-- Is a thing made, or copied? -/
def mkB (N y : Nat) (k f : Int) : Bool := decide (hc k f = 0 ∧ f + 1 ≤ (N : Int) - y)
def cpB (N O y g : Nat) (ws : List Int) (a : Int) : Bool := decide (pc (ld N y g ws a) = 0 ∧ 1 + pf (ld N y g ws a) ≤ en N y g a - a ∧ 1 + pf (ld N y g ws a) ≤ (O : Int) - g)
theorem mkB_yes {N y : Nat} {k f : Int} (h : mkB N y k f = true) : hc k f = 0 ∧ f + 1 ≤ (N : Int) - y := by simpa [mkB] using h
theorem mkB_no {N y : Nat} {k f : Int} (h : mkB N y k f = false) : hc k f ≠ 0 ∨ (N : Int) - y < f + 1 := by
  have : ¬ (hc k f = 0 ∧ f + 1 ≤ (N : Int) - y) := by simpa [mkB] using h
  by_cases c : hc k f = 0
  · exact Or.inr (by omega)
  · exact Or.inl c
theorem cpB_yes {N O y g : Nat} {ws : List Int} {a : Int} (h : cpB N O y g ws a = true) : pc (ld N y g ws a) = 0 ∧ 1 + pf (ld N y g ws a) ≤ en N y g a - a ∧ 1 + pf (ld N y g ws a) ≤ (O : Int) - g := by simpa [cpB] using h
theorem cpB_no {N O y g : Nat} {ws : List Int} {a : Int} (h : cpB N O y g ws a = false) : pc (ld N y g ws a) ≠ 0 ∨ en N y g a - a < 1 + pf (ld N y g ws a) ∨ (O : Int) - g < 1 + pf (ld N y g ws a) := by
  have : ¬ (pc (ld N y g ws a) = 0 ∧ 1 + pf (ld N y g ws a) ≤ en N y g a - a ∧ 1 + pf (ld N y g ws a) ≤ (O : Int) - g) := by simpa [cpB] using h
  by_cases c : pc (ld N y g ws a) = 0
  · exact Or.inr (by omega)
  · exact Or.inl c

/-- What Make answers and leaves. -/
def mkR (N y : Nat) (k f : Int) : Int := if mkB N y k f = true then (y : Int) else -1
def mkY (N y : Nat) (k f : Int) : Nat := if mkB N y k f = true then y + 1 + f.toNat else y
def mkW (N y : Nat) (k f : Int) (ws : List Int) : List Int := if mkB N y k f = true then fil ws y (hw k f) f.toNat else ws
def cpR (N O y g : Nat) (ws : List Int) (a : Int) : Int := if cpB N O y g ws a = true then ((N + g : Nat) : Int) else -1
def cpG (N O y g : Nat) (ws : List Int) (a : Int) : Nat := if cpB N O y g ws a = true then g + (1 + (pf (ld N y g ws a)).toNat) else g
def cpW (N O y g : Nat) (ws : List Int) (a : Int) : List Int := if cpB N O y g ws a = true then splice ws (N + g) ((ws.drop a.toNat).take (1 + (pf (ld N y g ws a)).toNat)) else ws

theorem make_any {p q N O y g : Nat} {ws : List Int} (k f : Int) (w : World) (h : At w p q N O y g ws) :
    Calls Try.prog 31 #[.pointer (some ⟨p, 0, none⟩), .int .i64 k, .int .i64 f] w fun e w' => e = .returned (.int .i64 (mkR N y k f)) ∧ At w' p q N O (mkY N y k f) g (mkW N y k f ws) ∧ Sv p q w w' := by
  unfold mkR mkY mkW
  cases hb : mkB N y k f
  · rw [if_neg (by simp), if_neg (by simp), if_neg (by simp)]
    exact (make_no k f w h (mkB_no hb)).mono fun e w' hx => ⟨hx.1, h.below hx.2 (Nat.le_refl _), Sv.of hx.2⟩
  · rw [if_pos rfl, if_pos rfl, if_pos rfl]
    exact make_yes k f w h (mkB_yes hb).1 (mkB_yes hb).2

theorem copy_any {p q N O y g : Nat} {ws : List Int} (a : Int) (w : World) (h : At w p q N O y g ws) :
    Calls Try.prog 33 #[.pointer (some ⟨p, 0, none⟩), .int .i64 a] w fun e w' => e = .returned (.int .i64 (cpR N O y g ws a)) ∧ At w' p q N O y (cpG N O y g ws a) (cpW N O y g ws a) ∧ Sv p q w w' := by
  unfold cpR cpG cpW
  cases hb : cpB N O y g ws a
  · rw [if_neg (by simp), if_neg (by simp), if_neg (by simp)]
    exact (copy_no a w h (cpB_no hb)).mono fun e w' hx => ⟨hx.1, h.below hx.2 (Nat.le_refl _), Sv.of hx.2⟩
  · rw [if_pos rfl, if_pos rfl, if_pos rfl]
    exact copy_yes a w h (cpB_yes hb).1 (cpB_yes hb).2.1 (cpB_yes hb).2.2

/-- A list of steps that came in: so many; the numbers of each. -/
def IsSteps (w : World) (ad : Option Addr) (n : Nat) (S : Nat → Int × Int × Int × Int) : Prop :=
  0 < n → ∃ b o, ad = some ⟨b, o, none⟩ ∧ b < w.heap.size ∧ ∀ i, i < n → w.cell? ⟨b, o + i * 4, none⟩ = some (.int .i64 (S i).1) ∧ w.cell? ⟨b, o + i * 4 + 1, none⟩ = some (.int .i64 (S i).2.1) ∧ w.cell? ⟨b, o + i * 4 + 2, none⟩ = some (.int .i64 (S i).2.2.1) ∧ w.cell? ⟨b, o + i * 4 + 3, none⟩ = some (.int .i64 (S i).2.2.2)

end Go.Proofs.Ytheiboniifijnaa
