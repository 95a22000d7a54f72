/- Plain facts on numbers: what the bit operations of words come to, and what the words of values are; no condition but those named. -/
import Derived.Laws.BitsAllLaws
import Derived.Laws.BitsLemmas
namespace Go.Proofs.Ythlfgddhkffilaa.W
open Go

theorem ofInt_nat (w : Int) : (BitVec.ofInt 64 w).toNat = (w % 18446744073709551616).toNat := by
  rw [BitVec.toNat_ofInt]; rfl

theorem and3 (w : Int) : bits .and .i64 w 3 = w % 4 := by
  show IntKind.i64.wrap (((BitVec.ofInt 64 w) &&& (BitVec.ofInt 64 3)).toNat : Int) = w % 4
  rw [BitVec.toNat_and, ofInt_nat, ofInt_nat]
  have e : ((3 : Int) % 18446744073709551616).toNat = 3 := by decide
  rw [e, nat_mask2, IntKind.wrap_i64]
  omega

theorem and15 (w : Int) : bits .and .i64 w 15 = w % 16 := by
  show IntKind.i64.wrap (((BitVec.ofInt 64 w) &&& (BitVec.ofInt 64 15)).toNat : Int) = w % 16
  rw [BitVec.toNat_and, ofInt_nat, ofInt_nat]
  have e : ((15 : Int) % 18446744073709551616).toNat = 15 := by decide
  rw [e, nat_mask4, IntKind.wrap_i64]
  omega

theorem or4 (x t : Int) (h : x % 4 = 0) (h1 : -9223372036854775808 ≤ x) (h2 : x ≤ 9223372036854775804) (t0 : 0 ≤ t) (t1 : t < 4) : bits .or .i64 x t = x + t := by
  show IntKind.i64.wrap (((BitVec.ofInt 64 x) ||| (BitVec.ofInt 64 t)).toNat : Int) = x + t
  rw [BitVec.toNat_or, ofInt_nat, ofInt_nat, nat_join 2 _ _ (by omega) (by omega), IntKind.wrap_i64]
  omega

theorem or16 (x t : Int) (h : x % 16 = 0) (h1 : -9223372036854775808 ≤ x) (h2 : x ≤ 9223372036854775792) (t0 : 0 ≤ t) (t1 : t < 16) : bits .or .i64 x t = x + t := by
  show IntKind.i64.wrap (((BitVec.ofInt 64 x) ||| (BitVec.ofInt 64 t)).toNat : Int) = x + t
  rw [BitVec.toNat_or, ofInt_nat, ofInt_nat, nat_join 4 _ _ (by omega) (by omega), IntKind.wrap_i64]
  omega

/-- The code of a number that must lie from low to MaxInt - 1. -/
def rc (n low : Int) : Int := if n < low then 1 else if 1152921504606846976 ≤ n then 1 else 0
/-- The code of a value of kind k with the number n. -/
def vc (k n : Int) : Int :=
  if k = 0 then (if n = 0 then 0 else 7) else if k = 2 then (if n = 0 then 0 else 7)
  else if k = 1 then rc n (-1152921504606846976) else if k = 3 then rc n 0 else 2
/-- The two low bits of a value's word. -/
def tg (k : Int) : Int := if k = 1 then 0 else if k = 3 then 1 else if k = 0 then 2 else 3
/-- The kind that two low bits tell. -/
def ko (t : Int) : Int := if t = 0 then 1 else if t = 1 then 3 else if t = 2 then 0 else 2
/-- The word of a value, or 0. -/
def ew (k n : Int) : Int := if vc k n = 0 then 4 * n + tg k else 0

theorem tg_bd (k : Int) : 0 ≤ tg k ∧ tg k < 4 := by unfold tg; repeat' split <;> omega
theorem vc_bd (k n : Int) (h : vc k n = 0) : -1152921504606846976 ≤ n ∧ n < 1152921504606846976 := by
  unfold vc rc at h; repeat' split at h <;> omega

theorem enc_or (k n : Int) (h1 : -1152921504606846976 ≤ n) (h2 : n < 1152921504606846976) : bits .or .i64 (n * 4) (tg k) = 4 * n + tg k := by
  have ht := tg_bd k
  rw [or4 (n * 4) (tg k) (by omega) (by omega) (by omega) ht.1 ht.2]; omega

/-- What a word is read as: its code, its kind, its number (0 where there is a code). -/
def dc (w : Int) : Int := vc (ko (w % 4)) (w / 4)
def dk (w : Int) : Int := if dc w = 0 then ko (w % 4) else 0
def dn (w : Int) : Int := if dc w = 0 then w / 4 else 0

/-- The code of a first word's parts. -/
def hc (k f : Int) : Int :=
  if k = 1 then (if f = 2 then 0 else 1) else if k = 3 then (if f = 2 then 0 else 1) else if k = 4 then (if f = 2 then 0 else 1)
  else if k = 2 then (if f < 0 then 1 else if 12 < f then 1 else 0) else if k = 5 then (if f = 0 then 0 else 1) else 2
/-- The first word of a thing, or 0. -/
def hw (k f : Int) : Int := if hc k f = 0 then 16 * f + k else 0
/-- What a first word tells: its code, its kind, its fields. -/
def pc (h : Int) : Int := if hc (h % 16) (h / 16) = 0 then 0 else 7
def pk (h : Int) : Int := if hc (h % 16) (h / 16) = 0 then h % 16 else 0
def pf (h : Int) : Int := if hc (h % 16) (h / 16) = 0 then h / 16 else 0

theorem hc_bd (k f : Int) (h : hc k f = 0) : 1 ≤ k ∧ k ≤ 5 ∧ 0 ≤ f ∧ f ≤ 12 := by
  unfold hc at h; repeat' split at h <;> omega

theorem head_or (k f : Int) (h : hc k f = 0) : bits .or .i64 (f * 16) k = 16 * f + k := by
  have hb := hc_bd k f h
  rw [or16 (f * 16) k (by omega) (by omega) (by omega) (by omega) (by omega)]; omega

theorem hw_yes (k f : Int) (h : hc k f = 0) : hw k f = 16 * f + k := by unfold hw; rw [if_pos h]
theorem hw_no (k f : Int) (h : hc k f ≠ 0) : hw k f = 0 := by unfold hw; rw [if_neg h]
theorem ew_yes (k n : Int) (h : vc k n = 0) : ew k n = 4 * n + tg k := by unfold ew; rw [if_pos h]
theorem ew_no (k n : Int) (h : vc k n ≠ 0) : ew k n = 0 := by unfold ew; rw [if_neg h]

theorem hc_yes (k f : Int) (h : hc k f = 0) : (k = 1 ∧ f = 2) ∨ (k = 3 ∧ f = 2) ∨ (k = 4 ∧ f = 2) ∨ (k = 2 ∧ 0 ≤ f ∧ f ≤ 12) ∨ (k = 5 ∧ f = 0) := by
  unfold hc at h; repeat' split at h <;> omega
theorem hc_2 (k f : Int) (h1 : k ≠ 1) (h2 : k ≠ 2) (h3 : k ≠ 3) (h4 : k ≠ 4) (h5 : k ≠ 5) : hc k f = 2 := by
  unfold hc; rw [if_neg h1, if_neg h3, if_neg h4, if_neg h2, if_neg h5]
theorem hc_no (k f : Int) (h : hc k f ≠ 0) :
    ((k = 1 ∧ f < 2) ∨ (k = 1 ∧ 2 < f) ∨ (k = 3 ∧ f < 2) ∨ (k = 3 ∧ 2 < f) ∨ (k = 4 ∧ f < 2) ∨ (k = 4 ∧ 2 < f) ∨ (k = 2 ∧ f < 0) ∨ (k = 2 ∧ 12 < f) ∨ (k = 5 ∧ f < 0) ∨ (k = 5 ∧ 0 < f)) ∨ (k ≠ 1 ∧ k ≠ 2 ∧ k ≠ 3 ∧ k ≠ 4 ∧ k ≠ 5) := by
  unfold hc at h; repeat' split at h <;> omega
theorem hc_1 (k f : Int) (h : (k = 1 ∧ f < 2) ∨ (k = 1 ∧ 2 < f) ∨ (k = 3 ∧ f < 2) ∨ (k = 3 ∧ 2 < f) ∨ (k = 4 ∧ f < 2) ∨ (k = 4 ∧ 2 < f) ∨ (k = 2 ∧ f < 0) ∨ (k = 2 ∧ 12 < f) ∨ (k = 5 ∧ f < 0) ∨ (k = 5 ∧ 0 < f)) : hc k f = 1 := by
  rcases h with ⟨rfl, h⟩ | ⟨rfl, h⟩ | ⟨rfl, h⟩ | ⟨rfl, h⟩ | ⟨rfl, h⟩ | ⟨rfl, h⟩ | ⟨rfl, h⟩ | ⟨rfl, h⟩ | ⟨rfl, h⟩ | ⟨rfl, h⟩
  all_goals (simp [hc]; omega)

/-- How many fields a kind has at least and at most; is there such a kind? -/
def fl (k : Int) : Int := if k = 1 then 2 else if k = 3 then 2 else if k = 4 then 2 else 0
def fm (k : Int) : Int := if k = 1 then 2 else if k = 3 then 2 else if k = 4 then 2 else if k = 2 then 12 else 0
def fk (k : Int) : Bool := k == 1 || k == 3 || k == 4 || k == 2 || k == 5

/-- Does a word lead to a place, and to which? -/
def aB (x : Int) : Bool := dc x == 0 && dk x == 3
def aV (x : Int) : Int := if aB x then dn x else 0
theorem aV_yes (x : Int) (h : aB x = true) : aV x = dn x := by unfold aV; rw [if_pos h]
theorem aV_no (x : Int) (h : aB x = false) : aV x = 0 := by unfold aV; rw [h]; rfl

theorem vc_k (k n : Int) (h : vc k n = 0) : k = 0 ∨ k = 1 ∨ k = 2 ∨ k = 3 := by
  unfold vc at h; repeat' split at h <;> omega
theorem ko_tg (k : Int) (h : k = 0 ∨ k = 1 ∨ k = 2 ∨ k = 3) : ko (tg k) = k := by
  rcases h with rfl | rfl | rfl | rfl <;> rfl
/-- There and back: a value's word is read as that value. -/
theorem dec_enc (k n : Int) (h : vc k n = 0) : dc (ew k n) = 0 ∧ dk (ew k n) = k ∧ dn (ew k n) = n := by
  have ht := tg_bd k
  have e : ew k n = 4 * n + tg k := ew_yes k n h
  have e1 : ew k n % 4 = tg k := by omega
  have e2 : ew k n / 4 = n := by omega
  have e3 : ko (tg k) = k := ko_tg k (vc_k k n h)
  have hd : dc (ew k n) = 0 := by unfold dc; rw [e1, e2, e3, h]
  exact ⟨hd, by unfold dk; rw [if_pos hd, e1, e3], by unfold dn; rw [if_pos hd, e2]⟩
/-- Each value has a word of its own. -/
theorem enc_inj (k n k2 n2 : Int) (h : vc k n = 0) (h2 : vc k2 n2 = 0) (e : ew k n = ew k2 n2) : k = k2 ∧ n = n2 := by
  obtain ⟨_, a, b⟩ := dec_enc k n h
  obtain ⟨_, c, d⟩ := dec_enc k2 n2 h2
  rw [e] at a b
  exact ⟨a.symm.trans c, b.symm.trans d⟩
theorem tg_ko (t : Int) (h1 : 0 ≤ t) (h2 : t < 4) : tg (ko t) = t := by
  have : t = 0 ∨ t = 1 ∨ t = 2 ∨ t = 3 := by omega
  rcases this with rfl | rfl | rfl | rfl <;> rfl
/-- Back and there: a word that is a value is that value's word. -/
theorem enc_dec (x : Int) (h : dc x = 0) : vc (dk x) (dn x) = 0 ∧ ew (dk x) (dn x) = x := by
  have e1 : dk x = ko (x % 4) := by unfold dk; rw [if_pos h]
  have e2 : dn x = x / 4 := by unfold dn; rw [if_pos h]
  have hv : vc (dk x) (dn x) = 0 := by rw [e1, e2]; exact h
  refine ⟨hv, ?_⟩
  rw [ew_yes _ _ hv, e1, e2, tg_ko _ (by omega) (by omega)]
  omega
/-- Does the word of a value lead somewhere? -/
theorem at_enc (k n : Int) (h : vc k n = 0) : aB (ew k n) = (k == 3) ∧ (k = 3 → aV (ew k n) = n) := by
  obtain ⟨h1, h2, h3⟩ := dec_enc k n h
  have hb : aB (ew k n) = (k == 3) := by unfold aB; rw [h1, h2]; rfl
  exact ⟨hb, fun e => by rw [aV_yes _ (by rw [hb, e]; rfl), h3]⟩
theorem vc3_in (n : Int) (h1 : 0 ≤ n) (h2 : n < 1152921504606846976) : vc 3 n = 0 := by
  simp [vc, rc]; omega
theorem head_low (k f : Int) (h : hc k f = 0) : bits .and .i64 (16 * f + k) 15 = k := by
  have b := hc_bd k f h
  rw [and15]; omega
theorem parts_head (k f : Int) (h : hc k f = 0) : pk (hw k f) = k ∧ pf (hw k f) = f ∧ pc (hw k f) = 0 := by
  have b := hc_bd k f h
  rw [hw_yes k f h]
  have e1 : (16 * f + k) % 16 = k := by omega
  have e2 : (16 * f + k) / 16 = f := by omega
  unfold pk pf pc
  rw [e1, e2, if_pos h, if_pos h, if_pos h]
  exact ⟨rfl, rfl, rfl⟩
theorem head_parts (x : Int) (h : pc x = 0) : hc (pk x) (pf x) = 0 ∧ hw (pk x) (pf x) = x := by
  have c : hc (x % 16) (x / 16) = 0 := by
    unfold pc at h
    split at h
    · assumption
    · omega
  have e1 : pk x = x % 16 := by unfold pk; rw [if_pos c]
  have e2 : pf x = x / 16 := by unfold pf; rw [if_pos c]
  rw [e1, e2, hw_yes _ _ c]
  exact ⟨c, by omega⟩
theorem parts_no (x : Int) (h : pc x ≠ 0) : pk x = 0 ∧ pf x = 0 := by
  have c : hc (x % 16) (x / 16) ≠ 0 := by
    intro c
    exact h (by unfold pc; rw [if_pos c])
  unfold pk pf
  rw [if_neg c, if_neg c]
  exact ⟨rfl, rfl⟩

end Go.Proofs.Ythlfgddhkffilaa.W
