/- Joined: Opens, Apart2. -/
import Derived.Test.YtglddgjljohkiabJb
import Derived.Deep.Slices
import Derived.Lib.SmallJoins
/- A list of steps, or of words, that came in, opened: what a walk is told of it. -/
namespace Go.Proofs.Ytglddgjljohkiab
open Go.ChangeShapes Go.WideShapes Go.ChangeAt Go.RowKit Go.Joins Go.Deep W

/-- A list of words that came in. -/
def IsWords (w : World) (ad : Option Addr) (n : Nat) (S : Nat → Int) : Prop :=
  0 < n → ∃ b o, ad = some ⟨b, o, none⟩ ∧ b < w.heap.size ∧ ∀ i, i < n → w.cell? ⟨b, o + i, none⟩ = some (.int .i64 (S i))

end Go.Proofs.Ytglddgjljohkiab

/- ArenaApart's walk: it returns true at whatever spaces and steps, in whatever memory; nothing that was in memory turns. -/
namespace Go.Proofs.Ytglddgjljohkiab.Apart2
open Go.RowKit W

theorem ld_field {N y g : Nat} {ws : List Int} (hd : Int) (f j : Nat) (h : y + f < ws.length) (hj : j < f) : ld N (y + 1 + f) g (fil ws y hd f) ((y : Int) + 1 + j) = 2 := by
  have hh : hB 0 ((y + 1 + f : Nat) : Int) ((y : Int) + 1 + j) = true := by simp [hB]; omega
  have hi : iB N (y + 1 + f) g ((y : Int) + 1 + j) = true := by unfold iB; rw [hh]; rfl
  unfold ld
  rw [if_pos hi, show ((y : Int) + 1 + j).toNat = y + 1 + j by omega, fil_get _ _ _ _ _ h, if_neg (by omega), if_pos (by omega)]

theorem splice_get (ws : List Int) (t f n i : Nat) (h1 : t + n ≤ ws.length) (h2 : f + n ≤ ws.length) :
    (splice ws t ((ws.drop f).take n)).getD i 0 = if t ≤ i ∧ i < t + n then ws.getD (f + i - t) 0 else ws.getD i 0 := by
  have hl : ((ws.drop f).take n).length = n := by simp; omega
  unfold splice
  rw [hl]
  simp only [List.getD_eq_getElem?_getD]
  by_cases c : i < t
  · rw [List.getElem?_append_left (by simp; omega), if_neg (by omega), List.getElem?_take_of_lt c]
  · have e1 : (ws.take t).length = t := by simp; omega
    rw [List.getElem?_append_right (by omega), e1]
    by_cases c2 : i < t + n
    · rw [if_pos (by omega), List.getElem?_append_left (by omega), List.getElem?_take_of_lt (by omega), List.getElem?_drop, show f + (i - t) = f + i - t by omega]
    · rw [if_neg (by omega), List.getElem?_append_right (by omega), hl, List.getElem?_drop, show t + n + (i - t - n) = i by omega]

/-- What a copy's words are, and that those that it was made of are as they were. -/
theorem copied {N O y g : Nat} {ws : List Int} {a : Nat} (hl : ws.length = N + O) (hy : y ≤ N) (hi : iB N y g a = true) (n : Nat) (h1 : 1 + (n : Int) ≤ endA N y g a - a) (h2 : 1 + (n : Int) ≤ (O : Int) - g) (j : Nat) (hj : j ≤ n) :
    ld N y (g + (1 + n)) (splice ws (N + g) ((ws.drop a).take (1 + n))) ((N : Int) + g + j) = ws.getD (a + j) 0 ∧ ld N y (g + (1 + n)) (splice ws (N + g) ((ws.drop a).take (1 + n))) ((a : Int) + j) = ws.getD (a + j) 0 := by
  have he : endA N y g a ≤ (N : Int) + g := by unfold endA; split <;> omega
  constructor
  · have hh : hB N ((g + (1 + n) : Nat) : Int) ((N : Int) + g + j) = true := by simp [hB]; omega
    have hi : iB N y (g + (1 + n)) ((N : Int) + g + j) = true := by unfold iB; rw [hh]; simp
    unfold ld
    rw [if_pos hi, show ((N : Int) + g + j).toNat = N + g + j by omega, splice_get _ _ _ _ _ (by omega) (by omega), if_pos (by omega), show a + (N + g + j) - (N + g) = a + j by omega]
  · have hi2 : iB N y (g + (1 + n)) ((a : Int) + j) = true := by
      unfold endA at h1
      split at h1
      · rename_i c
        have c := hB_yes c
        have hh : hB 0 y ((a : Int) + j) = true := by simp [hB]; omega
        unfold iB; rw [hh]; rfl
      · rename_i c
        have c1 : hB N g a = true := by
          unfold iB at hi
          simp only [Bool.not_eq_true] at c
          rw [c] at hi
          simpa using hi
        have c2 := hB_yes c1
        have hh : hB N ((g + (1 + n) : Nat) : Int) ((a : Int) + j) = true := by simp [hB]; omega
        unfold iB; rw [hh]; simp
    unfold ld
    rw [if_pos hi2, show ((a : Int) + j).toNat = a + j by omega, splice_get _ _ _ _ _ (by omega) (by omega), if_neg (by omega)]

end Go.Proofs.Ytglddgjljohkiab.Apart2
