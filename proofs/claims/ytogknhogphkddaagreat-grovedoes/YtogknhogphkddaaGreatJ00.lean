/- Joined: Math, Kp, Stl, Stl2, Vw1. -/
import Derived.Laws.BitsAllLaws
import Derived.Laws.BitsLemmas
/- Plain facts on numbers: what the bit operations of words come to, and what the words of values are; no condition but those named. -/
namespace Go.Proofs.YtogknhogphkddaaGreat.W
open Go

theorem ofInt_nat (w : Int) : (BitVec.ofInt 64 w).toNat = (w % 18446744073709551616).toNat := by
  rw [BitVec.toNat_ofInt]; rfl

theorem or4 (x t : Int) (h : x % 4 = 0) (h1 : -9223372036854775808 ≤ x) (h2 : x ≤ 9223372036854775804) (t0 : 0 ≤ t) (t1 : t < 4) : bits .or .i64 x t = x + t := by
  show IntKind.i64.wrap (((BitVec.ofInt 64 x) ||| (BitVec.ofInt 64 t)).toNat : Int) = x + t
  rw [BitVec.toNat_or, ofInt_nat, ofInt_nat, nat_join 2 _ _ (by omega) (by omega), IntKind.wrap_i64]
  omega

theorem or16 (x t : Int) (h : x % 16 = 0) (h1 : -9223372036854775808 ≤ x) (h2 : x ≤ 9223372036854775792) (t0 : 0 ≤ t) (t1 : t < 16) : bits .or .i64 x t = x + t := by
  show IntKind.i64.wrap (((BitVec.ofInt 64 x) ||| (BitVec.ofInt 64 t)).toNat : Int) = x + t
  rw [BitVec.toNat_or, ofInt_nat, ofInt_nat, nat_join 4 _ _ (by omega) (by omega), IntKind.wrap_i64]
  omega

def rc (n low : Int) : Int := if n < low then 1 else if 1152921504606846976 ≤ n then 1 else 0
def vc (k n : Int) : Int :=
  if k = 0 then (if n = 0 then 0 else 7) else if k = 2 then (if n = 0 then 0 else 7)
  else if k = 1 then rc n (-1152921504606846976) else if k = 3 then rc n 0 else 2
def tg (k : Int) : Int := if k = 1 then 0 else if k = 3 then 1 else if k = 0 then 2 else 3
def ko (t : Int) : Int := if t = 0 then 1 else if t = 1 then 3 else if t = 2 then 0 else 2
def ew (k n : Int) : Int := if vc k n = 0 then 4 * n + tg k else 0

theorem tg_bd (k : Int) : 0 ≤ tg k ∧ tg k < 4 := by unfold tg; repeat' split <;> omega
theorem vc_bd (k n : Int) (h : vc k n = 0) : -1152921504606846976 ≤ n ∧ n < 1152921504606846976 := by
  unfold vc rc at h; repeat' split at h <;> omega

theorem enc_or (k n : Int) (h1 : -1152921504606846976 ≤ n) (h2 : n < 1152921504606846976) : bits .or .i64 (n * 4) (tg k) = 4 * n + tg k := by
  have ht := tg_bd k
  rw [or4 (n * 4) (tg k) (by omega) (by omega) (by omega) ht.1 ht.2]; omega

def dc (w : Int) : Int := vc (ko (w % 4)) (w / 4)
def dk (w : Int) : Int := if dc w = 0 then ko (w % 4) else 0
def dn (w : Int) : Int := if dc w = 0 then w / 4 else 0

def hc (k f : Int) : Int :=
  if k = 1 then (if f = 2 then 0 else 1) else if k = 3 then (if f = 2 then 0 else 1) else if k = 4 then (if f = 2 then 0 else 1)
  else if k = 2 then (if f < 0 then 1 else if 12 < f then 1 else 0) else if k = 5 then (if f = 0 then 0 else 1) else 2
def hw (k f : Int) : Int := if hc k f = 0 then 16 * f + k else 0
def pc (h : Int) : Int := if hc (h % 16) (h / 16) = 0 then 0 else 7
def pk (h : Int) : Int := if hc (h % 16) (h / 16) = 0 then h % 16 else 0
theorem hc_bd (k f : Int) (h : hc k f = 0) : 1 ≤ k ∧ k ≤ 5 ∧ 0 ≤ f ∧ f ≤ 12 := by
  unfold hc at h; repeat' split at h <;> omega

theorem head_or (k f : Int) (h : hc k f = 0) : bits .or .i64 (f * 16) k = 16 * f + k := by
  have hb := hc_bd k f h
  rw [or16 (f * 16) k (by omega) (by omega) (by omega) (by omega) (by omega)]; omega

theorem hw_yes (k f : Int) (h : hc k f = 0) : hw k f = 16 * f + k := by unfold hw; rw [if_pos h]
theorem hw_no (k f : Int) (h : hc k f ≠ 0) : hw k f = 0 := by unfold hw; rw [if_neg h]
theorem ew_yes (k n : Int) (h : vc k n = 0) : ew k n = 4 * n + tg k := by unfold ew; rw [if_pos h]
theorem ew_no (k n : Int) (h : vc k n ≠ 0) : ew k n = 0 := by unfold ew; rw [if_neg h]

theorem hc_yes (k f : Int) (h : hc k f = 0) : (k = 1 ∧ f = 2) ∨ (k = 3 ∧ f = 2) ∨ (k = 4 ∧ f = 2) ∨ (k = 2 ∧ 0 ≤ f ∧ f ≤ 12) ∨ (k = 5 ∧ f = 0) := by
  unfold hc at h; repeat' split at h <;> omega
theorem hc_2 (k f : Int) (h1 : k ≠ 1) (h2 : k ≠ 2) (h3 : k ≠ 3) (h4 : k ≠ 4) (h5 : k ≠ 5) : hc k f = 2 := by
  unfold hc; rw [if_neg h1, if_neg h3, if_neg h4, if_neg h2, if_neg h5]
theorem hc_no (k f : Int) (h : hc k f ≠ 0) :
    ((k = 1 ∧ f < 2) ∨ (k = 1 ∧ 2 < f) ∨ (k = 3 ∧ f < 2) ∨ (k = 3 ∧ 2 < f) ∨ (k = 4 ∧ f < 2) ∨ (k = 4 ∧ 2 < f) ∨ (k = 2 ∧ f < 0) ∨ (k = 2 ∧ 12 < f) ∨ (k = 5 ∧ f < 0) ∨ (k = 5 ∧ 0 < f)) ∨ (k ≠ 1 ∧ k ≠ 2 ∧ k ≠ 3 ∧ k ≠ 4 ∧ k ≠ 5) := by
  unfold hc at h; repeat' split at h <;> omega
theorem hc_1 (k f : Int) (h : (k = 1 ∧ f < 2) ∨ (k = 1 ∧ 2 < f) ∨ (k = 3 ∧ f < 2) ∨ (k = 3 ∧ 2 < f) ∨ (k = 4 ∧ f < 2) ∨ (k = 4 ∧ 2 < f) ∨ (k = 2 ∧ f < 0) ∨ (k = 2 ∧ 12 < f) ∨ (k = 5 ∧ f < 0) ∨ (k = 5 ∧ 0 < f)) : hc k f = 1 := by
  rcases h with ⟨rfl, h⟩ | ⟨rfl, h⟩ | ⟨rfl, h⟩ | ⟨rfl, h⟩ | ⟨rfl, h⟩ | ⟨rfl, h⟩ | ⟨rfl, h⟩ | ⟨rfl, h⟩ | ⟨rfl, h⟩ | ⟨rfl, h⟩
  all_goals (simp [hc]; omega)

def fl (k : Int) : Int := if k = 1 then 2 else if k = 3 then 2 else if k = 4 then 2 else 0
def fm (k : Int) : Int := if k = 1 then 2 else if k = 3 then 2 else if k = 4 then 2 else if k = 2 then 12 else 0
def fk (k : Int) : Bool := k == 1 || k == 3 || k == 4 || k == 2 || k == 5

theorem vc_k (k n : Int) (h : vc k n = 0) : k = 0 ∨ k = 1 ∨ k = 2 ∨ k = 3 := by
  unfold vc at h; repeat' split at h <;> omega
theorem ko_tg (k : Int) (h : k = 0 ∨ k = 1 ∨ k = 2 ∨ k = 3) : ko (tg k) = k := by
  rcases h with rfl | rfl | rfl | rfl <;> rfl
theorem dec_enc (k n : Int) (h : vc k n = 0) : dc (ew k n) = 0 ∧ dk (ew k n) = k ∧ dn (ew k n) = n := by
  have ht := tg_bd k
  have e : ew k n = 4 * n + tg k := ew_yes k n h
  have e1 : ew k n % 4 = tg k := by omega
  have e2 : ew k n / 4 = n := by omega
  have e3 : ko (tg k) = k := ko_tg k (vc_k k n h)
  have hd : dc (ew k n) = 0 := by unfold dc; rw [e1, e2, e3, h]
  exact ⟨hd, by unfold dk; rw [if_pos hd, e1, e3], by unfold dn; rw [if_pos hd, e2]⟩
theorem vc3_in (n : Int) (h1 : 0 ≤ n) (h2 : n < 1152921504606846976) : vc 3 n = 0 := by
  simp [vc, rc]; omega
end Go.Proofs.YtogknhogphkddaaGreat.W

/- What is kept alive: of words that are alive, a word, and pairs of words (from, to), the least that holds all of them, and what a new one leads to; by looking deep first, and by a list of what is still to be done. Lists and numbers alone. -/
namespace Go.Proofs.YtogknhogphkddaaGreat.Kp

abbrev Pairs := List (Int × Int)

/-! ### deep first -/
/-! ### by a list of what is to be done -/
end Go.Proofs.YtogknhogphkddaaGreat.Kp

/- What becomes of what is registered and what waits: from the front, again and again, till nothing more comes; of whatever tells what is alive, and keeps it; two that tell the same come to the same; nothing comes twice. Lists and numbers alone. -/
namespace Go.Proofs.YtogknhogphkddaaGreat.Stl
open Kp

abbrev En := Int × Int

section
variable {σ τ : Type}

def pass (is : σ → Int → Bool) (kp : σ → Int → σ) : List En → σ → List En → List En → σ × List En × List En
  | [], s, C, D => (s, C, D)
  | e :: r, s, C, D => if is s e.1 then pass is kp r (kp s e.2) (C ++ [e]) D else pass is kp r s C (D ++ [e])

def turns (is : σ → Int → Bool) (kp : σ → Int → σ) : Nat → List En → σ → List En → σ × List En × List En
  | 0, D, s, C => (s, C, D)
  | n + 1, D, s, C => if (pass is kp D s C []).2.1.length = C.length then pass is kp D s C [] else turns is kp n (pass is kp D s C []).2.2 (pass is kp D s C []).1 (pass is kp D s C []).2.1

variable {is : σ → Int → Bool} {kp : σ → Int → σ}

theorem pass_len : ∀ (l : List En) (s : σ) (C D : List En), (pass is kp l s C D).2.1.length + (pass is kp l s C D).2.2.length = C.length + D.length + l.length ∧ C.length ≤ (pass is kp l s C D).2.1.length
  | [], s, C, D => by simp [pass]
  | e :: r, s, C, D => by
    unfold pass
    split
    · have := pass_len r (kp s e.2) (C ++ [e]) D
      simp at this ⊢
      omega
    · have := pass_len r s C (D ++ [e])
      simp at this ⊢
      omega

theorem turns_go {n : Nat} {D : List En} {s : σ} {C : List En} (h : (pass is kp D s C []).2.1.length ≠ C.length) : turns is kp (n + 1) D s C = turns is kp n (pass is kp D s C []).2.2 (pass is kp D s C []).1 (pass is kp D s C []).2.1 := by
  rw [turns, if_neg h]
theorem turns_stop {n : Nat} {D : List En} {s : σ} {C : List En} (h : (pass is kp D s C []).2.1.length = C.length) : turns is kp (n + 1) D s C = pass is kp D s C [] := by
  rw [turns, if_pos h]

theorem pass_count (x : En) : ∀ (l : List En) (s : σ) (C D : List En), (pass is kp l s C D).2.1.count x + (pass is kp l s C D).2.2.count x = C.count x + D.count x + l.count x
  | [], s, C, D => by simp [pass]
  | e :: r, s, C, D => by
    unfold pass
    split
    · rw [pass_count x r (kp s e.2) (C ++ [e]) D, List.count_append, List.count_cons, List.count_cons, List.count_nil]
      omega
    · rw [pass_count x r s C (D ++ [e]), List.count_append, List.count_cons, List.count_cons, List.count_nil]
      omega

theorem turns_count (x : En) : ∀ (n : Nat) (D : List En) (s : σ) (C : List En), (turns is kp n D s C).2.1.count x + (turns is kp n D s C).2.2.count x = C.count x + D.count x
  | 0, D, s, C => by simp [turns]
  | n + 1, D, s, C => by
    have h := pass_count (is := is) (kp := kp) x D s C []
    unfold turns
    split
    · rw [h]; simp
    · rw [turns_count x n, h]; simp

theorem turns_len : ∀ (n : Nat) (D : List En) (s : σ) (C : List En), (turns is kp n D s C).2.1.length + (turns is kp n D s C).2.2.length = C.length + D.length
  | 0, D, s, C => by simp [turns]
  | n + 1, D, s, C => by
    have h := (pass_len (is := is) (kp := kp) D s C []).1
    unfold turns
    split
    · rw [h]; simp
    · rw [turns_len n, h]; simp

end

end Go.Proofs.YtogknhogphkddaaGreat.Stl

/- The same by flags: which are dead, which have come; once from the front, entry by entry. Lists alone. -/
namespace Go.Proofs.YtogknhogphkddaaGreat.Stl

def rem : List En → List Bool → List Bool → List En
  | e :: r, d :: D, m :: M => if d && !m then e :: rem r D M else rem r D M
  | _, _, _ => []

theorem rem_nil (D M : List Bool) : rem [] D M = [] := by cases D <;> cases M <;> rfl

theorem rem_append : ∀ (a b : List En) (c d e f : List Bool), a.length = c.length → a.length = e.length → rem (a ++ b) (c ++ d) (e ++ f) = rem a c e ++ rem b d f
  | [], b, [], d, [], f, _, _ => by simp [rem]
  | x :: a, b, y :: c, d, z :: e, f, h1, h2 => by
    have ih := rem_append a b c d e f (by simpa using h1) (by simpa using h2)
    simp only [List.cons_append, rem]
    split
    · rw [ih]; rfl
    · exact ih
  | [], _, _ :: _, _, _, _, h, _ => by simp at h
  | [], _, [], _, _ :: _, _, _, h => by simp at h
  | _ :: _, _, [], _, _, _, h, _ => by simp at h
  | _ :: _, _, _ :: _, _, [], _, _, h => by simp at h

theorem rem_len : ∀ (r : List En) (D M : List Bool), (rem r D M).length ≤ r.length
  | [], D, M => by rw [rem_nil]; simp
  | e :: r, [], M => by simp [rem]
  | e :: r, d :: D, [] => by simp [rem]
  | e :: r, d :: D, m :: M => by
    have := rem_len r D M
    simp only [rem]
    split <;> simp <;> omega

theorem drop_cons {α : Type} (l : List α) (i : Nat) (h : i < l.length) (z : α) : l.drop i = l.getD i z :: l.drop (i + 1) := by
  rw [List.drop_eq_getElem_cons h]
  simp [List.getElem?_eq_getElem h]
theorem take_snoc {α : Type} (l : List α) (i : Nat) (h : i < l.length) (z : α) : l.take (i + 1) = l.take i ++ [l.getD i z] := by
  rw [List.take_add_one, List.getElem?_eq_getElem h]
  simp [List.getElem?_eq_getElem h]

theorem rem_drop (r : List En) (D M : List Bool) (i : Nat) (h : i < r.length) (h1 : D.length = r.length) (h2 : M.length = r.length) :
    rem (r.drop i) (D.drop i) (M.drop i) = if D.getD i false && !M.getD i false then r.getD i (0, 0) :: rem (r.drop (i + 1)) (D.drop (i + 1)) (M.drop (i + 1)) else rem (r.drop (i + 1)) (D.drop (i + 1)) (M.drop (i + 1)) := by
  rw [drop_cons r i h (0, 0), drop_cons D i (by omega) false, drop_cons M i (by omega) false, rem]
theorem rem_take (r : List En) (D M : List Bool) (i : Nat) (h : i < r.length) (h1 : D.length = r.length) (h2 : M.length = r.length) :
    rem (r.take (i + 1)) (D.take (i + 1)) (M.take (i + 1)) = rem (r.take i) (D.take i) (M.take i) ++ if D.getD i false && !M.getD i false then [r.getD i (0, 0)] else [] := by
  rw [take_snoc r i h (0, 0), take_snoc D i (by omega) false, take_snoc M i (by omega) false, rem_append _ _ _ _ _ _ (by simp; omega) (by simp; omega)]
  congr 1
theorem rem_first (p : En → Bool) : ∀ r : List En, rem r (r.map (fun e => !p e)) (List.replicate r.length false) = r.filter (fun e => !p e)
  | [] => rfl
  | e :: r => by
    have ih := rem_first p r
    simp only [List.map_cons, List.length_cons, List.replicate_succ, rem, ih, List.filter_cons]
    cases p e <;> rfl

section
variable {σ : Type} {is : σ → Int → Bool} {kp : σ → Int → σ}

structure Far (is : σ → Int → Bool) (kp : σ → Int → σ) (r : List En) (D : List Bool) (P : σ × List En × List En) (i : Nat) (A : σ) (C : List En) (M : List Bool) : Prop where
  hD : D.length = r.length
  hM : M.length = r.length
  eq : pass is kp (rem (r.drop i) (D.drop i) (M.drop i)) A C (rem (r.take i) (D.take i) (M.take i)) = P

variable {r : List En} {D M : List Bool} {P : σ × List En × List En} {i : Nat} {A : σ} {C : List En}

theorem Far.start (h1 : D.length = r.length) (h2 : M.length = r.length) : Far is kp r D (pass is kp (rem r D M) A C []) 0 A C M := ⟨h1, h2, by simp [rem_nil]⟩
theorem Far.skip (h : Far is kp r D P i A C M) (hi : i < r.length) (hf : (D.getD i false && !M.getD i false) = false) : Far is kp r D P (i + 1) A C M := by
  refine ⟨h.hD, h.hM, ?_⟩
  have e := h.eq
  rw [rem_drop r D M i hi h.hD h.hM, hf] at e
  rw [rem_take r D M i hi h.hD h.hM, hf]
  simpa using e
theorem Far.left (h : Far is kp r D P i A C M) (hi : i < r.length) (hf : (D.getD i false && !M.getD i false) = true) (hn : is A (r.getD i (0, 0)).1 = false) : Far is kp r D P (i + 1) A C M := by
  refine ⟨h.hD, h.hM, ?_⟩
  have e := h.eq
  rw [rem_drop r D M i hi h.hD h.hM, hf, if_pos rfl, pass, hn] at e
  rw [rem_take r D M i hi h.hD h.hM, hf]
  simpa using e
theorem Far.come (h : Far is kp r D P i A C M) (hi : i < r.length) (hf : (D.getD i false && !M.getD i false) = true) (hn : is A (r.getD i (0, 0)).1 = true) : Far is kp r D P (i + 1) (kp A (r.getD i (0, 0)).2) (C ++ [r.getD i (0, 0)]) (M.set i true) := by
  have hM' : (M.set i true).length = r.length := by simpa using h.hM
  refine ⟨h.hD, hM', ?_⟩
  have e := h.eq
  rw [rem_drop r D M i hi h.hD h.hM, hf, if_pos rfl, pass, hn, if_pos rfl] at e
  have e1 : (M.set i true).drop (i + 1) = M.drop (i + 1) := by rw [List.drop_set_of_lt (by omega)]
  have e2 : (M.set i true).take i = M.take i := by rw [List.take_set_of_le (by omega)]
  have e3 : (M.set i true).getD i false = true := by simp [h.hM, hi]
  rw [rem_take r D (M.set i true) i hi h.hD hM', e1, e2, e3]
  simpa using e
theorem Far.stop (h : Far is kp r D P r.length A C M) : (A, C, rem r D M) = P := by
  have e := h.eq
  rw [List.drop_length, rem_nil, List.take_length, ← h.hD, List.take_length, h.hD, ← h.hM, List.take_length] at e
  exact e

end

end Go.Proofs.YtogknhogphkddaaGreat.Stl

/- What roots lead to, by a walk: lists alone. -/
namespace Go.Proofs.YtogknhogphkddaaGreat
open W

abbrev Vst := List Int × List (Int × List (Int × Int))

def vst (M : Vst → Int → Vst) (T : List Int) (s : Vst) (x : Int) : (Int × Int) × Vst :=
  if dk x = 3 then (if T.contains (dn x) = true then (if s.1.contains (dn x) = true then ((3, (s.1.idxOf (dn x) : Int)), s) else ((3, (s.1.length : Int)), M s (dn x))) else ((0, 0), s))
  else ((dk x, dn x), s)
def vls (M : Vst → Int → Vst) (T : List Int) (s : Vst) (l : List Int) : List (Int × Int) × Vst := l.foldl (fun r x => (r.1 ++ [(vst M T r.2 x).1], (vst M T r.2 x).2)) ([], s)
theorem vls_nil (M : Vst → Int → Vst) (T : List Int) (s : Vst) : vls M T s [] = ([], s) := rfl
theorem vls_snoc (M : Vst → Int → Vst) (T : List Int) (s : Vst) (l : List Int) (x : Int) : vls M T s (l ++ [x]) = ((vls M T s l).1 ++ [(vst M T (vls M T s l).2 x).1], (vst M T (vls M T s l).2 x).2) := by simp [vls, List.foldl_append]
theorem vls_len (M : Vst → Int → Vst) (T : List Int) (s : Vst) (l : List Int) : (vls M T s l).1.length = l.length := by
  have key : ∀ (l : List Int) (r : List (Int × Int) × Vst), (l.foldl (fun r x => (r.1 ++ [(vst M T r.2 x).1], (vst M T r.2 x).2)) r).1.length = r.1.length + l.length := by
    intro l
    induction l with
    | nil => intro r; simp
    | cons x l ih =>
      intro r
      rw [List.foldl_cons, ih]
      simp
      omega
  simpa [vls] using key l ([], s)

def met (T : List Int) (kd : Int → Int) (sh : Int → List Int) : Nat → Vst → Int → Vst
  | 0, s, _ => s
  | n + 1, s, a => ((vls (met T kd sh n) T (s.1 ++ [a], s.2 ++ [(kd a, [])]) (sh a)).2.1, (vls (met T kd sh n) T (s.1 ++ [a], s.2 ++ [(kd a, [])]) (sh a)).2.2.set s.1.length (kd a, (vls (met T kd sh n) T (s.1 ++ [a], s.2 ++ [(kd a, [])]) (sh a)).1))

structure VOk (T : List Int) (s : Vst) : Prop where
  nd : s.1.Nodup
  sub : ∀ a ∈ s.1, a ∈ T
  len : s.2.length = s.1.length
theorem VOk.le {T : List Int} {s : Vst} (h : VOk T s) : s.1.length ≤ T.length := h.nd.length_le_of_subset h.sub
theorem VOk.start (T : List Int) : VOk T ([], []) := ⟨List.nodup_nil, by simp, rfl⟩
theorem VOk.lt {T : List Int} {s : Vst} (h : VOk T s) {a : Int} (ha : a ∈ T) (hn : a ∉ s.1) : s.1.length < T.length := by
  have h2 : VOk T (s.1 ++ [a], s.2 ++ [(0, [])]) := ⟨by
    rw [List.nodup_append]
    exact ⟨h.nd, by simp, fun x hx y hy e => hn (by simp at hy; rw [← hy, ← e]; exact hx)⟩, fun x hx => by
    rcases List.mem_append.1 hx with hx | hx
    · exact h.sub x hx
    · simp at hx; rw [hx]; exact ha, by simp [h.len]⟩
  have := h2.le
  simp at this
  omega
theorem VOk.more {T : List Int} {s : Vst} (h : VOk T s) {a : Int} (ha : a ∈ T) (hn : a ∉ s.1) (nd : Int × List (Int × Int)) : VOk T (s.1 ++ [a], s.2 ++ [nd]) :=
  ⟨by
    rw [List.nodup_append]
    exact ⟨h.nd, by simp, fun x hx y hy e => hn (by simp at hy; rw [← hy, ← e]; exact hx)⟩, fun x hx => by
    rcases List.mem_append.1 hx with hx | hx
    · exact h.sub x hx
    · simp at hx; rw [hx]; exact ha, by simp [h.len]⟩

def Vto (n : Nat) (v : Int × Int) : Prop := v.1 = 3 → 0 ≤ v.2 ∧ v.2 < n
theorem Vto.mono {n m : Nat} {v : Int × Int} (h : Vto n v) (hm : n ≤ m) : Vto m v := fun e => ⟨(h e).1, by have := (h e).2; omega⟩

structure Vgo (T : List Int) (kd : Int → Int) (sh : Int → List Int) (s s' : Vst) (vs : List (Int × Int)) : Prop where
  ok : VOk T s'
  pre : s.1 <+: s'.1
  old : ∀ i, i < s.1.length → s'.2[i]? = s.2[i]?
  to : ∀ v ∈ vs, Vto s'.1.length v
  nw : ∀ i, s.1.length ≤ i → i < s'.1.length → ∃ nd : Int × List (Int × Int), s'.2[i]? = some nd ∧ nd.1 = kd (s'.1.getD i 0) ∧ nd.2.length = (sh (s'.1.getD i 0)).length ∧ (∀ v ∈ nd.2, Vto s'.1.length v) ∧
    ((3, (i : Int)) ∈ vs ∨ ∃ j, s.1.length ≤ j ∧ j < i ∧ ∃ nj : Int × List (Int × Int), s'.2[j]? = some nj ∧ (3, (i : Int)) ∈ nj.2)

section
variable {T : List Int} {kd : Int → Int} {sh : Int → List Int}

theorem Vgo.refl {s : Vst} (h : VOk T s) {vs : List (Int × Int)} (ht : ∀ v ∈ vs, Vto s.1.length v) : Vgo T kd sh s s vs :=
  ⟨h, List.prefix_refl _, fun _ _ => rfl, ht, fun i h1 h2 => by omega⟩
theorem Vgo.le {s s' : Vst} {vs : List (Int × Int)} (h : Vgo T kd sh s s' vs) : s.1.length ≤ s'.1.length := h.pre.length_le
theorem pre_getD {l l' : List Int} (h : l <+: l') {i : Nat} (hi : i < l.length) : l'.getD i 0 = l.getD i 0 := by
  obtain ⟨t, rfl⟩ := h
  simp [List.getElem?_append_left hi]
theorem Vgo.trans {s s' s'' : Vst} {vs us : List (Int × Int)} (h : Vgo T kd sh s s' vs) (k : Vgo T kd sh s' s'' us) : Vgo T kd sh s s'' (vs ++ us) := by
  have l1 := h.le
  have l2 := k.le
  refine ⟨k.ok, h.pre.trans k.pre, fun i hi => (k.old i (by omega)).trans (h.old i hi), fun v hv => ?_, fun i h1 h2 => ?_⟩
  · rcases List.mem_append.1 hv with hv | hv
    · exact (h.to v hv).mono l2
    · exact k.to v hv
  · by_cases hi : i < s'.1.length
    · obtain ⟨nd, e1, e2, e3, e4, e5⟩ := h.nw i h1 hi
      refine ⟨nd, (k.old i hi).trans e1, by rw [pre_getD k.pre hi]; exact e2, by rw [pre_getD k.pre hi]; exact e3, fun v hv => (e4 v hv).mono l2, ?_⟩
      rcases e5 with e5 | ⟨j, j1, j2, nj, j3, j4⟩
      · exact Or.inl (List.mem_append_left _ e5)
      · exact Or.inr ⟨j, j1, j2, nj, (k.old j (by omega)).trans j3, j4⟩
    · obtain ⟨nd, e1, e2, e3, e4, e5⟩ := k.nw i (by omega) h2
      refine ⟨nd, e1, e2, e3, e4, ?_⟩
      rcases e5 with e5 | ⟨j, j1, j2, nj, j3, j4⟩
      · exact Or.inl (List.mem_append_right _ e5)
      · exact Or.inr ⟨j, by omega, j2, nj, j3, j4⟩

def Vmet (T : List Int) (kd : Int → Int) (sh : Int → List Int) (n : Nat) (M : Vst → Int → Vst) : Prop :=
  ∀ s a, VOk T s → a ∈ T → a ∉ s.1 → T.length ≤ s.1.length + n → Vgo T kd sh s (M s a) [(3, (s.1.length : Int))]

theorem vst_go {n : Nat} {M : Vst → Int → Vst} (hM : Vmet T kd sh n M) {s : Vst} (h : VOk T s) (hn : T.length ≤ s.1.length + n) (x : Int) : Vgo T kd sh s (vst M T s x).2 [(vst M T s x).1] := by
  unfold vst
  by_cases h3 : dk x = 3
  · rw [if_pos h3]
    by_cases hT : T.contains (dn x) = true
    · rw [if_pos hT]
      by_cases hs : s.1.contains (dn x) = true
      · rw [if_pos hs]
        refine Vgo.refl h (fun v hv => ?_)
        simp at hv
        subst hv
        intro _
        have := List.idxOf_lt_length_of_mem (List.contains_iff_mem.1 hs)
        exact ⟨by omega, by simpa using this⟩
      · rw [if_neg hs]
        exact hM s (dn x) h (List.contains_iff_mem.1 hT) (fun c => hs (List.contains_iff_mem.2 c)) hn
    · rw [if_neg hT]
      refine Vgo.refl h (fun v hv => ?_)
      simp at hv
      subst hv
      intro e
      simp at e
  · rw [if_neg h3]
    refine Vgo.refl h (fun v hv => ?_)
    simp at hv
    subst hv
    intro e
    exact absurd e h3

theorem vls_go {n : Nat} {M : Vst → Int → Vst} (hM : Vmet T kd sh n M) {s : Vst} (h : VOk T s) (hn : T.length ≤ s.1.length + n) (l : List Int) : Vgo T kd sh s (vls M T s l).2 (vls M T s l).1 := by
  have key : ∀ k, k ≤ l.length → Vgo T kd sh s (vls M T s (l.take k)).2 (vls M T s (l.take k)).1 := by
    intro k
    induction k with
    | zero => intro _; exact Vgo.refl h (by simp [vls_nil])
    | succ k ih =>
      intro hk
      have ih := ih (by omega)
      rw [List.take_succ_eq_append_getElem (by omega), vls_snoc]
      have hl := ih.le
      exact ih.trans (vst_go hM ih.ok (by omega) _)
  have := key l.length (Nat.le_refl _)
  rwa [List.take_length] at this

theorem met_go : ∀ n, Vmet T kd sh n (met T kd sh n)
  | 0 => fun s a h ha hn hl => by
    have := h.lt ha hn
    omega
  | n + 1 => fun s a h ha hn hl => by
    have h1 := h.more ha hn (kd a, [])
    have g := vls_go (met_go n) h1 (by simp; omega) (sh a)
    have hlen := vls_len (met T kd sh n) T (s.1 ++ [a], s.2 ++ [(kd a, [])]) (sh a)
    show Vgo T kd sh s ((vls (met T kd sh n) T (s.1 ++ [a], s.2 ++ [(kd a, [])]) (sh a)).2.1, (vls (met T kd sh n) T (s.1 ++ [a], s.2 ++ [(kd a, [])]) (sh a)).2.2.set s.1.length (kd a, (vls (met T kd sh n) T (s.1 ++ [a], s.2 ++ [(kd a, [])]) (sh a)).1)) _
    generalize vls (met T kd sh n) T (s.1 ++ [a], s.2 ++ [(kd a, [])]) (sh a) = r at g hlen ⊢
    obtain ⟨vs, s'⟩ := r
    dsimp only at g hlen ⊢
    have hle := g.le
    have h2 := g.ok
    have hp := g.pre
    have ho := g.old
    have ht := g.to
    have hw := g.nw
    simp only [List.length_append, List.length_cons, List.length_nil] at hle ho hw hlen hp ⊢
    have hat : s'.1.getD s.1.length 0 = a := by
      rw [pre_getD hp (by simp)]
      simp
    refine ⟨⟨h2.nd, h2.sub, by simp [h2.len]⟩, (List.prefix_append _ _).trans hp, fun i hi => ?_, fun v hv => ?_, fun i i1 i2 => ?_⟩
    · rw [List.getElem?_set_ne (by omega), ho i (by omega), List.getElem?_append_left (by rw [h.len]; exact hi)]
    · simp at hv
      subst hv
      exact fun _ => ⟨by omega, by show ((s.1.length : Nat) : Int) < ((s'.1.length : Nat) : Int); omega⟩
    · have i2 : i < s'.1.length := i2
      by_cases e : i = s.1.length
      · subst e
        exact ⟨(kd a, vs), by rw [List.getElem?_set_self (by rw [h2.len]; omega)], by show kd a = kd (s'.1.getD s.1.length 0); rw [hat], by show vs.length = (sh (s'.1.getD s.1.length 0)).length; rw [hat]; exact hlen, ht, Or.inl (by simp)⟩
      · obtain ⟨nd, e1, e2, e3, e4, e5⟩ := hw i (by omega) i2
        refine ⟨nd, by rw [List.getElem?_set_ne (by omega)]; exact e1, e2, e3, e4, Or.inr ?_⟩
        rcases e5 with e5 | ⟨j, j1, j2, nj, j3, j4⟩
        · exact ⟨s.1.length, Nat.le_refl _, by omega, (kd a, vs), by rw [List.getElem?_set_self (by rw [h2.len]; omega)], e5⟩
        · exact ⟨j, by omega, j2, nj, by rw [List.getElem?_set_ne (by omega)]; exact j3, j4⟩
end

end Go.Proofs.YtogknhogphkddaaGreat
