/- Joined: Gr1, Gp3, Gp4, Gr5, Bxp, Vw6, Vw7, Sd2. -/
import Derived.Test.YtogknhogphkddaaGreatJ02
import Derived.Test.YtogknhogphkddaaGreatJ00
import Derived.Test.YtogknhogphkddaaGreatJ03
import Derived.Test.YtogknhogphkddaaGreatJ04
import Derived.Deep.AppendLies
/- The document's world: what is kept alive is a least set: lists alone. -/
namespace Go.Proofs.YtogknhogphkddaaGreat
open Go.RowKit W Kp Stl

def inS (L : List Bool) (v : Int × Int) : Bool := !(v.1 == 3) || L.getD v.2.toNat false
def adS (L : List Bool) (v : Int × Int) : List Bool := if inS L v = true then L else L.set v.2.toNat true
def t0 : Tw1 := (0, [], false, false)
def Kps (T : List Tw1) (wt : List En) (X : Nat → Prop) (i : Nat) (v : Int × Int) : Prop :=
  (((T.getD i t0).1 = 1 ∨ (T.getD i t0).1 = 2) ∧ v ∈ (T.getD i t0).2.1) ∨ ((T.getD i t0).1 = 3 ∧ v = (T.getD i t0).2.1.getD 1 (0, 0)) ∨
  ((T.getD i t0).1 = 4 ∧ (((T.getD i t0).2.1.getD 0 (0, 0)).1 = 3 → X ((T.getD i t0).2.1.getD 0 (0, 0)).2.toNat) ∧ v = (T.getD i t0).2.1.getD 1 (0, 0)) ∨
  ((T.getD i t0).1 = 5 ∧ ∃ e ∈ wt, e.1 = i ∧ v = (3, e.2))
theorem Kps.mono {T : List Tw1} {wt : List En} {X Y : Nat → Prop} (hXY : ∀ i, X i → Y i) {i : Nat} {v : Int × Int} (h : Kps T wt X i v) : Kps T wt Y i v := by
  rcases h with h | h | ⟨h1, h2, h3⟩ | h
  · exact Or.inl h
  · exact Or.inr (Or.inl h)
  · exact Or.inr (Or.inr (Or.inl ⟨h1, fun c => hXY _ (h2 c), h3⟩))
  · exact Or.inr (Or.inr (Or.inr h))
def Cls (T : List Tw1) (wt : List En) (X : Nat → Prop) : Prop := ∀ i, i < T.length → X i → ∀ v, Kps T wt X i v → v.1 = 3 → X v.2.toNat
def Ls_ (L : List Bool) : Nat → Prop := fun i => L.getD i false = true
structure Grn (T : List Tw1) (wt : List En) (is out : List Bool) : Prop where
  len : out.length = is.length
  up : ∀ i, Ls_ is i → Ls_ out i
  cl : Cls T wt (Ls_ out)
  lt : ∀ X, Cls T wt X → (∀ i, Ls_ is i → X i) → ∀ i, Ls_ out i → X i

theorem adS_len (L : List Bool) (v : Int × Int) : (adS L v).length = L.length := by
  unfold adS
  split
  · rfl
  · rw [List.length_set]
theorem inS_no {L : List Bool} {v : Int × Int} (h : inS L v = false) : v.1 = 3 ∧ L.getD v.2.toNat false = false := by
  unfold inS at h
  rw [Bool.or_eq_false_iff] at h
  exact ⟨by simpa using h.1, h.2⟩
theorem inS_yes {L : List Bool} {v : Int × Int} (h : inS L v = true) : v.1 = 3 → Ls_ L v.2.toNat := fun h3 => by
  unfold inS at h
  rw [h3] at h
  unfold Ls_
  simpa using h
theorem getD_setB (L : List Bool) (i j : Nat) (h : i < L.length) : (L.set i true).getD j false = if i = j then true else L.getD j false := by
  rw [List.getD_eq_getElem?_getD, List.getD_eq_getElem?_getD, List.getElem?_set]
  split
  · rename_i e
    subst e
    rfl
  · rfl
theorem Ls_.lt {L : List Bool} {i : Nat} (h : Ls_ L i) : i < L.length := by
  unfold Ls_ at h
  by_cases c : i < L.length
  · exact c
  · rw [List.getD_eq_getElem?_getD, List.getElem?_eq_none (by omega)] at h
    cases h
def cnt (L : List Bool) : Nat := (L.filter (fun b => !b)).length
theorem cnt_set : ∀ (L : List Bool) (i : Nat), L.getD i true = false → cnt (L.set i true) + 1 = cnt L
  | [], i, h => by simp at h
  | b :: L, 0, h => by
    have h : b = false := by simpa using h
    subst h
    simp [cnt]
  | b :: L, i + 1, h => by
    have h : L.getD i true = false := by simpa using h
    have ih := cnt_set L i h
    unfold cnt at ih ⊢
    rw [List.set_cons_succ]
    cases b
    · simp only [Bool.not_false, List.filter_cons_of_pos, List.length_cons]
      omega
    · rw [List.filter_cons_of_neg (by simp), List.filter_cons_of_neg (by simp)]
      exact ih
theorem adS_up (L : List Bool) (v : Int × Int) (i : Nat) (h : Ls_ L i) : Ls_ (adS L v) i := by
  unfold adS
  split
  · exact h
  · unfold Ls_ at h ⊢
    by_cases c : v.2.toNat < L.length
    · rw [getD_setB _ _ _ c]
      split
      · rfl
      · exact h
    · rw [List.set_eq_of_length_le (by omega)]
      exact h
theorem adS_in {L : List Bool} {v : Int × Int} (hv : v.1 = 3 → v.2.toNat < L.length) : v.1 = 3 → Ls_ (adS L v) v.2.toNat := fun h3 => by
  cases h : inS L v
  · unfold adS
    rw [if_neg (by rw [h]; simp)]
    unfold Ls_
    rw [getD_setB _ _ _ (hv h3), if_pos rfl]
  · unfold adS
    rw [if_pos h]
    exact inS_yes h h3
theorem adS_of {L : List Bool} {v : Int × Int} {X : Nat → Prop} (h : ∀ i, Ls_ L i → X i) (hv : v.1 = 3 → X v.2.toNat) : ∀ i, Ls_ (adS L v) i → X i := fun i hi => by
  cases hs : inS L v
  · have h3 := (inS_no hs).1
    unfold adS at hi
    rw [if_neg (by rw [hs]; simp)] at hi
    unfold Ls_ at hi
    by_cases c : v.2.toNat < L.length
    · rw [getD_setB _ _ _ c] at hi
      split at hi
      · rename_i e
        rw [← e]
        exact hv h3
      · exact h i hi
    · rw [List.set_eq_of_length_le (by omega)] at hi
      exact h i hi
  · unfold adS at hi
    rw [if_pos hs] at hi
    exact h i hi
theorem adS_cnt {L : List Bool} {v : Int × Int} (hv : v.1 = 3 → v.2.toNat < L.length) (h : inS L v = false) : cnt (adS L v) < cnt L := by
  obtain ⟨h3, h2⟩ := inS_no h
  unfold adS
  rw [if_neg (by rw [h]; simp)]
  have c := hv h3
  have e : L.getD v.2.toNat true = false := by
    rw [List.getD_eq_getElem?_getD, List.getElem?_eq_getElem c] at h2 ⊢
    simpa using h2
  have := cnt_set L v.2.toNat e
  omega

structure Pas (T : List Tw1) (wt : List En) (is P0 L : List Bool) (more : Bool) (i : Nat) : Prop where
  len : L.length = is.length
  up : ∀ k, Ls_ is k → Ls_ L k
  lt : ∀ X, Cls T wt X → (∀ k, Ls_ is k → X k) → ∀ k, Ls_ L k → X k
  no : more = false → L = P0 ∧ ∀ k, k < i → k < T.length → Ls_ L k → ∀ v, Kps T wt (Ls_ L) k v → v.1 = 3 → Ls_ L v.2.toNat
  yes : more = true → cnt L < cnt P0
theorem Pas.add {T : List Tw1} {wt : List En} {is P0 L : List Bool} {more : Bool} {i : Nat} (h : Pas T wt is P0 L more i) (hi : i < T.length) (hL : Ls_ L i) {v : Int × Int} (hk : Kps T wt (Ls_ L) i v) (hv : v.1 = 3 → v.2.toNat < L.length) : Pas T wt is P0 (adS L v) (!inS L v || more) i := by
  refine ⟨(adS_len L v).trans h.len, fun k hk => adS_up L v k (h.up k hk), fun X hX hi' k hk' => adS_of (h.lt X hX hi') (fun h3 => hX i hi (h.lt X hX hi' i hL) v (hk.mono (h.lt X hX hi')) h3) k hk', fun hm => ?_, fun hm => ?_⟩
  · rw [Bool.or_eq_false_iff] at hm
    obtain ⟨m1, m2⟩ := hm
    have m1 : inS L v = true := by simpa using m1
    have e : adS L v = L := by unfold adS; rw [if_pos m1]
    rw [e]
    exact h.no m2
  · cases hs : inS L v
    · have h1 := adS_cnt hv hs
      have h2 : cnt L ≤ cnt P0 := by
        cases more
        · rw [(h.no rfl).1]
          exact Nat.le_refl _
        · exact Nat.le_of_lt (h.yes rfl)
      omega
    · have e : adS L v = L := by unfold adS; rw [if_pos hs]
      rw [e]
      rw [hs] at hm
      exact h.yes (by simpa using hm)
theorem Pas.next {T : List Tw1} {wt : List En} {is P0 L : List Bool} {more : Bool} {i : Nat} (h : Pas T wt is P0 L more i) (hn : more = false → i < T.length → Ls_ L i → ∀ v, Kps T wt (Ls_ L) i v → v.1 = 3 → Ls_ L v.2.toNat) : Pas T wt is P0 L more (i + 1) :=
  ⟨h.len, h.up, h.lt, fun hm => ⟨(h.no hm).1, fun k hk hT hLk v hv h3 => by
    by_cases c : k < i
    · exact (h.no hm).2 k c hT hLk v hv h3
    · obtain rfl : k = i := by omega
      exact hn hm hT hLk v hv h3⟩, h.yes⟩
theorem Pas.start {T : List Tw1} {wt : List En} {is P0 : List Bool} (h1 : P0.length = is.length) (h2 : ∀ k, Ls_ is k → Ls_ P0 k) (h3 : ∀ X, Cls T wt X → (∀ k, Ls_ is k → X k) → ∀ k, Ls_ P0 k → X k) : Pas T wt is P0 P0 false 0 :=
  ⟨h1, h2, h3, fun _ => ⟨rfl, fun k hk => absurd hk (by omega)⟩, fun h => by cases h⟩
theorem Pas.done {T : List Tw1} {wt : List En} {is P0 L : List Bool} (h : Pas T wt is P0 L false T.length) : Grn T wt is L :=
  ⟨h.len, h.up, fun i hi hL v hv h3 => (h.no rfl).2 i hi hi hL v hv h3, h.lt⟩

end Go.Proofs.YtogknhogphkddaaGreat

/- What is not dead. -/
namespace Go.Proofs.YtogknhogphkddaaGreat
open Go.RowKit W Kp Stl

def Alv (T : List Tw1) (i : Nat) : Prop := i < T.length ∧ (T.getD i t0).2.2.2 = false
structure Wiv (T : List Tw1) (wt : List En) : Prop where
  fl : ∀ i, Alv T i → (T.getD i t0).1 = 3 ∨ (T.getD i t0).1 = 4 → (T.getD i t0).2.1.length = 2
  fv : ∀ i, Alv T i → ∀ v ∈ (T.getD i t0).2.1, v.1 = 3 → 0 ≤ v.2 ∧ Alv T v.2.toNat
  wv : ∀ e ∈ wt, 0 ≤ e.2 ∧ Alv T e.2.toNat
  tl : ∀ i, (T.getD i t0).2.1.length ≤ 12
theorem getD_in {α : Type} {l : List α} {i : Nat} {x : α} (h : i < l.length) : l.getD i x ∈ l := by
  rw [List.getD_eq_getElem?_getD, List.getElem?_eq_getElem h]
  exact List.getElem_mem h
theorem Wiv.kps {T : List Tw1} {wt : List En} (h : Wiv T wt) {X : Nat → Prop} {i : Nat} (hi : Alv T i) {v : Int × Int} (hv : Kps T wt X i v) (h3 : v.1 = 3) : 0 ≤ v.2 ∧ Alv T v.2.toNat := by
  rcases hv with ⟨_, hm⟩ | ⟨hk, e⟩ | ⟨hk, _, e⟩ | ⟨_, e0, he, _, e⟩
  · exact h.fv i hi v hm h3
  · exact h.fv i hi v (by rw [e]; exact getD_in (by rw [h.fl i hi (Or.inl hk)]; decide)) h3
  · exact h.fv i hi v (by rw [e]; exact getD_in (by rw [h.fl i hi (Or.inr hk)]; decide)) h3
  · rw [e]
    exact h.wv e0 he
theorem Wiv.cls {T : List Tw1} {wt : List En} (h : Wiv T wt) : Cls T wt (Alv T) := fun _ _ hX _ hv h3 => (h.kps hX hv h3).2
theorem Pas.alv {T : List Tw1} {wt : List En} {is P0 L : List Bool} {more : Bool} {i : Nat} (h : Pas T wt is P0 L more i) (hW : Wiv T wt) (hi : ∀ k, Ls_ is k → Alv T k) {k : Nat} (hk : Ls_ L k) : Alv T k := h.lt _ hW.cls hi k hk
theorem Pas.bd {T : List Tw1} {wt : List En} {is P0 L : List Bool} {more : Bool} {i : Nat} (h : Pas T wt is P0 L more i) (hW : Wiv T wt) (hi : ∀ k, Ls_ is k → Alv T k) (hl : is.length = T.length) (hL : Ls_ L i) {X : Nat → Prop} {v : Int × Int} (hv : Kps T wt X i v) : v.1 = 3 → 0 ≤ v.2 ∧ v.2 < L.length := fun h3 => by
  obtain ⟨h1, h2⟩ := hW.kps (h.alv hW hi hL) hv h3
  have := h2.1
  have := h.len
  exact ⟨h1, by omega⟩

end Go.Proofs.YtogknhogphkddaaGreat

/- What is alive of itself. -/
namespace Go.Proofs.YtogknhogphkddaaGreat
open Go.RowKit W Kp Stl

def fr0 (mj : Bool) (t : Tw1) : Bool := t.2.2.1 && !t.2.2.2 && !mj
def frR (L : List Bool) (v : Int × Int) : List Bool := if v.1 = 3 then L.set v.2.toNat true else L
def frs (T : List Tw1) (rs : List (Int × Int)) (mj : Bool) : List Bool := rs.foldl frR (T.map (fr0 mj))
theorem frR_len (L : List Bool) (v : Int × Int) : (frR L v).length = L.length := by
  unfold frR
  split
  · rw [List.length_set]
  · rfl
theorem frs_len (T : List Tw1) (rs : List (Int × Int)) (mj : Bool) : (frs T rs mj).length = T.length := by
  have key : ∀ (rs : List (Int × Int)) (L : List Bool), (rs.foldl frR L).length = L.length := fun rs => by
    induction rs with
    | nil => intro L; rfl
    | cons v rs ih => intro L; rw [List.foldl_cons, ih, frR_len]
  unfold frs
  rw [key, List.length_map]
theorem frR_in {L : List Bool} {v : Int × Int} {i : Nat} : Ls_ (frR L v) i ↔ Ls_ L i ∨ (v.1 = 3 ∧ v.2.toNat = i ∧ i < L.length) := by
  unfold frR
  by_cases h3 : v.1 = 3
  · rw [if_pos h3]
    unfold Ls_
    by_cases hl : v.2.toNat < L.length
    · rw [getD_setB _ _ _ hl]
      constructor
      · intro h
        split at h
        · rename_i e
          exact Or.inr ⟨h3, e, by omega⟩
        · exact Or.inl h
      · rintro (h | ⟨_, e, _⟩)
        · split
          · rfl
          · exact h
        · rw [if_pos e]
    · rw [List.set_eq_of_length_le (by omega)]
      exact ⟨Or.inl, fun h => h.elim id (fun ⟨_, e, hl'⟩ => absurd hl' (by omega))⟩
  · rw [if_neg h3]
    exact ⟨Or.inl, fun h => h.elim id (fun ⟨e, _⟩ => absurd e h3)⟩
theorem fold_in : ∀ (rs : List (Int × Int)) (L : List Bool) (i : Nat), Ls_ (rs.foldl frR L) i ↔ Ls_ L i ∨ (i < L.length ∧ ∃ v ∈ rs, v.1 = 3 ∧ v.2.toNat = i)
  | [], L, i => by simp
  | v :: rs, L, i => by
    rw [List.foldl_cons, fold_in rs, frR_in, frR_len]
    constructor
    · rintro ((h | ⟨h1, h2, h3⟩) | ⟨h1, u, hu, h2⟩)
      · exact Or.inl h
      · exact Or.inr ⟨h3, v, by simp, h1, h2⟩
      · exact Or.inr ⟨h1, u, List.mem_cons_of_mem _ hu, h2⟩
    · rintro (h | ⟨h1, u, hu, h2, h3⟩)
      · exact Or.inl (Or.inl h)
      · rcases List.mem_cons.1 hu with e | e
        · rw [e] at h2 h3
          exact Or.inl (Or.inr ⟨h2, h3, h1⟩)
        · exact Or.inr ⟨h1, u, e, h2, h3⟩
theorem map_in (mj : Bool) (T : List Tw1) (i : Nat) : Ls_ (T.map (fr0 mj)) i ↔ i < T.length ∧ (T.getD i t0).2.2.1 = true ∧ (T.getD i t0).2.2.2 = false ∧ mj = false := by
  unfold Ls_
  by_cases h : i < T.length
  · rw [List.getD_eq_getElem?_getD, List.getElem?_map, List.getElem?_eq_getElem h, List.getD_eq_getElem?_getD, List.getElem?_eq_getElem h]
    simp [fr0, h, and_assoc]
  · rw [List.getD_eq_getElem?_getD, List.getElem?_eq_none (by rw [List.length_map]; omega)]
    simp [h]
theorem frs_in (T : List Tw1) (rs : List (Int × Int)) (mj : Bool) (i : Nat) : Ls_ (frs T rs mj) i ↔ i < T.length ∧ (((T.getD i t0).2.2.1 = true ∧ (T.getD i t0).2.2.2 = false ∧ mj = false) ∨ ∃ v ∈ rs, v.1 = 3 ∧ v.2.toNat = i) := by
  unfold frs
  rw [fold_in, map_in, List.length_map]
  constructor
  · rintro (⟨h1, h2⟩ | ⟨h1, h2⟩)
    · exact ⟨h1, Or.inl h2⟩
    · exact ⟨h1, Or.inr h2⟩
  · rintro ⟨h1, h2 | h2⟩
    · exact Or.inl ⟨h1, h2⟩
    · exact Or.inr ⟨h1, h2⟩

end Go.Proofs.YtogknhogphkddaaGreat

/- The document's world: what a cut comes to: lists alone. g: what Grown answers, whatever it is that is the least set. -/
namespace Go.Proofs.YtogknhogphkddaaGreat
open Go.RowKit W Kp Stl

section
variable {T : List Tw1} {wt : List En}

theorem Cls.less {C : List En} {X : Nat → Prop} (h : Cls T (wt ++ C) X) : Cls T wt X := fun i hi hX v hv h3 => h i hi hX v (by
  rcases hv with h | h | h | ⟨h1, e, he, h2⟩
  · exact Or.inl h
  · exact Or.inr (Or.inl h)
  · exact Or.inr (Or.inr (Or.inl h))
  · exact Or.inr (Or.inr (Or.inr ⟨h1, e, List.mem_append_left _ he, h2⟩))) h3
theorem Cls.more {C : List En} {X : Nat → Prop} (h : Cls T wt X) (hC : ∀ e ∈ C, X e.2.toNat) : Cls T (wt ++ C) X := fun i hi hX v hv h3 => by
  rcases hv with h1 | h1 | h1 | ⟨h1, e, he, h2, h4⟩
  · exact h i hi hX v (Or.inl h1) h3
  · exact h i hi hX v (Or.inr (Or.inl h1)) h3
  · exact h i hi hX v (Or.inr (Or.inr (Or.inl h1))) h3
  · rcases List.mem_append.1 he with d | d
    · exact h i hi hX v (Or.inr (Or.inr (Or.inr ⟨h1, e, d, h2, h4⟩))) h3
    · rw [h4]
      exact hC e d
theorem Grn.less {C : List En} {is out : List Bool} (h : Grn T (wt ++ C) is out) (hC : ∀ e ∈ C, Ls_ is e.2.toNat) : Grn T wt is out :=
  ⟨h.len, h.up, h.cl.less, fun X hX hi => h.lt X (hX.more (fun e he => hi _ (hC e he))) hi⟩
theorem Grn.uniq {is a b : List Bool} (h : Grn T wt is a) (h' : Grn T wt is b) : a = b := by
  refine List.ext_getElem (h.len.trans h'.len.symm) (fun i h1 h2 => ?_)
  have key : Ls_ a i ↔ Ls_ b i := ⟨fun q => h.lt _ h'.cl h'.up i q, fun q => h'.lt _ h.cl h.up i q⟩
  unfold Ls_ at key
  rw [List.getD_eq_getElem?_getD, List.getElem?_eq_getElem h1, List.getD_eq_getElem?_getD, List.getElem?_eq_getElem h2] at key
  have key : a[i] = true ↔ b[i] = true := key
  cases ha : a[i] <;> cases hb : b[i] <;> simp_all
end

def isd (L : List Bool) (x : Int) : Bool := L.getD x.toNat false
def kpg (g : List Bool → List Bool) (L : List Bool) (x : Int) : List Bool := g (L.set x.toNat true)
def cwn (T : List Tw1) (L : List Bool) : Nat → Int
  | 0 => 0
  | i + 1 => if L.getD i false = true then cwn T L i + (1 + (T.getD i t0).2.1.length) else cwn T L i
def cuT (L : List Bool) (i : Nat) (t : Tw1) : Tw1 :=
  if L.getD i false = true then
    (t.1, (if t.1 = 4 ∧ inS L (t.2.1.getD 0 (0, 0)) = false then [(2, 0), (2, 0)] else if t.1 = 3 ∧ inS L (t.2.1.getD 0 (0, 0)) = false then [(2, 0), t.2.1.getD 1 (0, 0)] else t.2.1), true, t.2.2.2)
  else (t.1, [], t.2.2.1, true)
def cuL (L : List Bool) (T : List Tw1) : Nat → List Tw1
  | 0 => T
  | i + 1 => (cuL L T i).set i (cuT L i (T.getD i t0))
def Wrs.c0 (g : List Bool → List Bool) (s : Wrs) (mj : Bool) : List Bool := g (frs s.T s.rs mj)
def Wrs.cR (g : List Bool → List Bool) (s : Wrs) (mj : Bool) : List Bool × List En × List En :=
  turns isd (kpg g) (s.rg.length + 1) (s.rg.filter (fun e => !isd (s.c0 g mj) e.2)) (s.c0 g mj) []
def Wrs.cF (g : List Bool → List Bool) (s : Wrs) (grow : Int) (mj : Bool) : Bool :=
  (!mj && decide (grow - (usd s.T).2 < (usd s.T).1)) || decide (grow < cwn s.T (s.cR g mj).1 s.T.length)
def Wrs.cut (g : List Bool → List Bool) (s : Wrs) (grow : Int) (mj : Bool) : Wrs :=
  if s.cF g grow mj = true then s else
    { T := cuL (s.cR g mj).1 s.T s.T.length, rs := s.rs, rg := s.rg.filter (fun e => isd (s.c0 g mj) e.2 && isd (s.cR g mj).1 e.1), wt := (s.wt ++ (s.cR g mj).2.1).filter (fun e => isd (s.cR g mj).1 e.1) }
def Wrs.ccd (g : List Bool → List Bool) (s : Wrs) (grow : Int) (mj : Bool) : Int := if s.cF g grow mj = true then 3 else 0

def Gok (T : List Tw1) (wt : List En) (g : List Bool → List Bool) : Prop := ∀ is : List Bool, is.length = T.length → (∀ k, Ls_ is k → Alv T k) → Grn T wt is (g is)

theorem cuL_len (L : List Bool) (T : List Tw1) : ∀ i, (cuL L T i).length = T.length
  | 0 => rfl
  | i + 1 => by
    rw [cuL, List.length_set]
    exact cuL_len L T i
theorem cuL_get (L : List Bool) (T : List Tw1) : ∀ (i j : Nat), i ≤ T.length → j < T.length → (cuL L T i).getD j t0 = if j < i then cuT L j (T.getD j t0) else T.getD j t0
  | 0, j, _, _ => by rw [if_neg (by omega)]; rfl
  | i + 1, j, hi, hj => by
    have ih := cuL_get L T i j (by omega) hj
    rw [cuL, List.getD_eq_getElem?_getD, List.getElem?_set]
    by_cases e : i = j
    · subst e
      rw [if_pos rfl, if_pos (by rw [cuL_len]; exact hj), if_pos (by omega)]
      rfl
    · rw [if_neg e, ← List.getD_eq_getElem?_getD, ih]
      by_cases c : j < i
      · rw [if_pos c, if_pos (by omega)]
      · rw [if_neg c, if_neg (by omega)]
theorem cwn_bd (T : List Tw1) (L : List Bool) (h : ∀ i, (T.getD i t0).2.1.length ≤ 12) : ∀ i, 0 ≤ cwn T L i ∧ cwn T L i ≤ 13 * i
  | 0 => by simp [cwn]
  | i + 1 => by
    have ih := cwn_bd T L h i
    have := h i
    unfold cwn
    split
    · omega
    · omega

section
variable {T : List Tw1} {wt : List En} {g : List Bool → List Bool}

structure Sok_ (T : List Tw1) (L : List Bool) : Prop where
  len : L.length = T.length
  al : ∀ k, Ls_ L k → Alv T k
theorem Gok.ok (hg : Gok T wt g) (hW : Wiv T wt) {L : List Bool} (h : Sok_ T L) : Sok_ T (g L) ∧ ∀ k, Ls_ L k → Ls_ (g L) k := by
  have hG := hg L h.len h.al
  exact ⟨⟨hG.len.trans h.len, fun k hk => hG.lt _ hW.cls h.al k hk⟩, hG.up⟩
theorem Sok_.put {L : List Bool} (h : Sok_ T L) {x : Nat} (hx : Alv T x) : Sok_ T (L.set x true) ∧ Ls_ (L.set x true) x ∧ ∀ k, Ls_ L k → Ls_ (L.set x true) k := by
  have hl : x < L.length := by rw [h.len]; exact hx.1
  refine ⟨⟨by rw [List.length_set]; exact h.len, fun k hk => ?_⟩, ?_, fun k hk => ?_⟩
  · unfold Ls_ at hk
    rw [getD_setB _ _ _ hl] at hk
    split at hk
    · rename_i e
      rw [← e]
      exact hx
    · exact h.al k hk
  · unfold Ls_
    rw [getD_setB _ _ _ hl, if_pos rfl]
  · unfold Ls_ at hk ⊢
    rw [getD_setB _ _ _ hl]
    split
    · rfl
    · exact hk
theorem Sok_.kpg (hg : Gok T wt g) (hW : Wiv T wt) {L : List Bool} (h : Sok_ T L) {x : Int} (hx : Alv T x.toNat) : Sok_ T (kpg g L x) ∧ Ls_ (kpg g L x) x.toNat ∧ ∀ k, Ls_ L k → Ls_ (kpg g L x) k := by
  obtain ⟨p1, p2, p3⟩ := h.put hx
  obtain ⟨q1, q2⟩ := hg.ok hW p1
  exact ⟨q1, q2 _ p2, fun k hk => q2 _ (p3 k hk)⟩
end

end Go.Proofs.YtogknhogphkddaaGreat

/- A list of bools in memory, and in a box. -/
namespace Go.Proofs.YtogknhogphkddaaGreat
open Go.RowKit W Kp Stl

def Lb (w : World) (ad : Option Addr) (L : List Bool) : Prop := 0 < L.length → ∃ b, ad = some ⟨b, 0, none⟩ ∧ b < w.heap.size ∧ ∀ i, i < L.length → w.cell? ⟨b, i, none⟩ = some (.bool (L.getD i false))
theorem Lb.below {w w' : World} {ad : Option Addr} {L : List Bool} (h : Lb w ad L) (hb : Below w.heap.size w w') : Lb w' ad L := fun hp => by
  obtain ⟨b, e, h1, h2⟩ := h hp
  exact ⟨b, e, Nat.lt_of_lt_of_le h1 hb.size, fun i hi => (hb.cell (p := ⟨b, i, none⟩) h1).trans (h2 i hi)⟩
theorem row_bools {w : World} {base : Nat} {e : TypeId} {ad : Option Addr} {cap : Nat} {L : List Bool} (h : w.ownsRow base e 1 (.slice ad L.length cap) L.length (L.map Value.bool)) : Lb w ad L := fun hp => by
  obtain ⟨b, c, e1⟩ := row_shape h hp
  cases e1
  refine ⟨b, rfl, (row_lt h b rfl).2, fun i hi => ?_⟩
  have h1 : (L.map Value.bool)[i]? = some (.bool (L.getD i false)) := by
    rw [List.getElem?_map, List.getElem?_eq_getElem hi, List.getD_eq_getElem?_getD, List.getElem?_eq_getElem hi]
    rfl
  exact (row_cell h h1).1

structure Bbx (w : World) (ob : Nat) (ad : Option Addr) (c base : Nat) (L : List Bool) : Prop where
  blk : w.heap[ob]? = some (.cells #[.slice ad L.length c] 107 (0, 0))
  row : w.ownsRow base 4 1 (.slice ad L.length c) L.length (L.map Value.bool)
theorem Bbx.keep {w w' : World} {ob : Nat} {ad : Option Addr} {c base : Nat} {L : List Bool} (h : Bbx w ob ad c base L) (h1 : w'.heap[ob]? = w.heap[ob]?) (h2 : ∀ k, some k = (Value.slice ad L.length c).ownBlock → w'.heap[k]? = w.heap[k]?) : Bbx w' ob ad c base L := ⟨h1.trans h.blk, row_keep h.row h2⟩
theorem Bbx.below {w w' : World} {ob : Nat} {ad : Option Addr} {c base : Nat} {L : List Bool} (h : Bbx w ob ad c base L) (hb : Below w.heap.size w w') : Bbx w' ob ad c base L := h.keep (hb.block ob (lt_of_some h.blk)) (fun k e => hb.block k (row_lt h.row k e).2)
theorem Bbx.ne {w : World} {ob : Nat} {ad : Option Addr} {c base : Nat} {L : List Bool} (h : Bbx w ob ad c base L) : ∀ k, some k = (Value.slice ad L.length c).ownBlock → k ≠ ob := fun k e e' => by
  obtain ⟨cur, hc⟩ := row_type h.row k e
  rw [e', h.blk] at hc
  simp at hc
theorem infoB : (Tryz.prog.info? 4).map (fun i => (i.zero, i.size, i.bytes)) = some (some (.bool false), 1, 1) := by kernel_rfl
theorem made_rowB {w : World} {b k n : Nat} (h : w.ownsRow b 4 1 (.slice (some ⟨k, 0, none⟩) n n) n (madeCells (Value.bool false).cells (n * 1)).toList) :
    w.ownsRow b 4 1 (.slice (some ⟨k, 0, none⟩) n n) n ((List.replicate n false).map Value.bool) := by
  have e : (madeCells (Value.bool false).cells (n * 1)).toList = (List.replicate n false).map Value.bool := by
    show (madeCells #[Value.bool false] (n * 1)).toList = _
    rw [toList_madeCells_one]
    simp
  rwa [e] at h

end Go.Proofs.YtogknhogphkddaaGreat

/- A walk: values over whatever meets: a contract. -/
namespace Go.Proofs.YtogknhogphkddaaGreat
open Go.RowKit W Kp Stl

section
variable {w0 w : World} {kb mq pw n : Nat} {T : List Int} {kd : Int → Int} {sh : Int → List Int} {M : Vst → Int → Vst} {s : Vst} {vn : Value} {m : List Vnd}

end

end Go.Proofs.YtogknhogphkddaaGreat

/- A walk: a thing is met: a contract. -/
namespace Go.Proofs.YtogknhogphkddaaGreat
open Go.RowKit W Kp Stl

theorem infoNode : (Tryz.prog.info? 80).map (fun i => (i.zero, i.size, i.bytes)) = some (some (.agg #[.int .i64 0, .slice none 0 0]), 2, 32) := by kernel_rfl

section
variable {w0 w w' w'' : World} {kb mq pw n : Nat} {T : List Int} {s : Vst} {vn : Value} {m : List Vnd}

end

section
variable {w0 : World} {kb mq pw p q N O y g : Nat} {ws : List Int} {sd : Nat} {v0 : Value} {a1 : Option Addr} {k1 : Nat} {Q : List En} {T : List Int}

end

end Go.Proofs.YtogknhogphkddaaGreat

/- told: a contract, over whatever tells. -/
namespace Go.Proofs.YtogknhogphkddaaGreat
open Go.RowKit W Kp Stl

def Tells {τ : Type} (o : Ob τ) (D : Int → Prop) (f : Nat) (b c : Array Value) (nw : τ → Int → Int) : Prop :=
  ∀ F t w (x : Int), D x → o.J F t w → Calls Tryz.prog f (b.push (.int .i64 x) ++ c) w fun r w' => r = .returned (.int .i64 (nw t x)) ∧ Below w.heap.size w w'
def Alives {τ : Type} (o : Ob τ) (D : Int → Prop) (f : Nat) (b c : Array Value) (is : τ → Int → Bool) : Prop :=
  ∀ F t w (x : Int), D x → o.J F t w → Calls Tryz.prog f (b.push (.int .i64 x) ++ c) w fun r w' => r = .returned (.bool (is t x)) ∧ Below w.heap.size w w'
def Keeps {τ : Type} (o : Ob τ) (D : Int → Prop) (f : Nat) (b c : Array Value) (kp : τ → Int → Int × τ) : Prop :=
  ∀ F t w (x : Int), D x → o.J F t w → Calls Tryz.prog f (b.push (.int .i64 x) ++ c) w fun r w' => ∃ F', r = .returned (.int .i64 (kp t x).1) ∧ o.J F' (kp t x).2 w' ∧ Fr F w w' ∧ ∀ k, F' k → F k ∨ w.heap.size ≤ k

set_option maxRecDepth 100000 in
set_option maxHeartbeats 1000000 in
theorem told_any {τ : Type} (o : Ob τ) (D : Int → Prop) (f : Nat) (b c : Array Value) (nw : τ → Int → Int) (hf : Ent f) (ht : Tells o D f b c nw) (l : List En) (ad : Option Addr) (cap : Nat) (F : Nat → Prop) (t : τ) (w : World)
    (hD : ∀ e ∈ l, D e.1 ∧ D e.2) (hm : l.length ≤ 100000) (hJ : o.J F t w) (hp : Lp w ad l) :
    Calls Tryz.prog 105 #[.slice ad l.length cap, .func (.func f) b c] w fun r w' => ∃ a1 c1, r = .returned (.slice a1 l.length c1) ∧ w'.ownsRow w.heap.size 100 2 (.slice a1 l.length c1) l.length (ev (l.map fun e => (nw t e.1, nw t e.2))) ∧ Below w.heap.size w w' := by
  obtain ⟨i0, hi, hz0, hz1, hz2⟩ := info_parts infoEn
  have HT : Hid (Tells o D f b c nw) := ht
  have HP : Hid (Lp w ad l) := hp
  have HJ : Hid (o.J F t w) := hJ
  clear hp ht hJ
  have hcf : ∀ (args : Array Value) (w : World), (callFunc f args).run Tryz.prog w = .ok (.enter f args) w := hf
  clear hf
  go_enter Tryz.func105, Tryz.ntmps105
  go_wp2_with fail
  go_loopw [5, 10] (fun vt iv wr => ∃ (j : Nat) (T : List En) (at1 : Option Addr) (ct : Nat), j ≤ l.length ∧ iv = .int .i64 j ∧ Hid (T = (l.take j).map fun e => (nw t e.1, nw t e.2)) ∧ vt = .slice at1 T.length ct ∧
      wr.ownsRow w.heap.size 100 2 (.slice at1 T.length ct) T.length (ev T) ∧ Below w.heap.size w wr) (fun _ iv _ => l.length - (intOf iv).toNat)
  case atStart => exact ⟨0, [], none, 0, Nat.zero_le _, rfl, rfl, rfl, World.ownsRow_nil _ _ _ _, Below.refl _ _⟩
  case round =>
    obtain ⟨j, T, at1, ct, hj, rfl, HE, rfl, hT, hb⟩ := hrel
    have hTl : T.length ≤ 100000 := by rw [HE.out]; simp; omega
    by_cases hlt : j < l.length
    · obtain ⟨b0, o0, e0, hb0, hc⟩ := HP.out.below hb (by omega)
      obtain ⟨x1, x2⟩ := hc j hlt
      clear hc
      obtain ⟨hdg, hdz⟩ := hD (l.getD j (0, 0)) (by rw [List.getD_eq_getElem?_getD, List.getElem?_eq_getElem hlt]; exact List.getElem_mem hlt)
      have HS : Hid (T ++ [(nw t (l.getD j (0, 0)).1, nw t (l.getD j (0, 0)).2)] = (l.take (j + 1)).map fun e => (nw t e.1, nw t e.2)) := by
        show _ = _
        rw [take_snoc l j hlt (0, 0), List.map_append, HE.out]
        rfl
      generalize (l.getD j (0, 0)).1 = g at x1 HS hdg
      generalize (l.getD j (0, 0)).2 = z at x2 HS hdz
      subst e0
      have hsz := hb.size
      have hB0 : Below w.heap.size w (wr.alloc (.cells #[.int .i64 g, .int .i64 z] 100)) := hb.alloc hsz _
      have hT0 := row_alloc hT (.cells #[.int .i64 g, .int .i64 z] 100)
      go_wp2_with fail
      go_region_held3 (fun w' => w'.cell? ⟨wr.heap.size, 0, none⟩ = some (.int .i64 g) ∧ w'.cell? ⟨wr.heap.size, 1, none⟩ = some (.int .i64 z)) (go_keep)
        (first | (refine (HT.out F t _ g hdg (o.below HJ.out hB0.drew)).mono ?_; rintro e w3 ⟨rfl, hb3⟩; have hB3 : Below w.heap.size w w3 := hB0.drew.trans (hb3.mono (by simp; omega)); have hT3 := row_keep hT0 (fun k e => hb3.block k (row_lt hT0 k e).2); have hs3 := hb3.size; simp at hs3; have y1 : w3.cell? ⟨wr.heap.size, 0, none⟩ = some (.int .i64 g) := (hb3.cell (by simp)).trans (by simp); have y2 : w3.cell? ⟨wr.heap.size, 1, none⟩ = some (.int .i64 z) := (hb3.cell (by simp)).trans (by simp); have hl3 : wr.heap.size < w3.heap.size := (by omega))
                 | (refine (HT.out F t _ z hdz (o.below HJ.out hB3)).mono ?_; rintro e w5 ⟨rfl, hb5⟩; have hB5 : Below w.heap.size w w5 := hB3.trans (hb5.mono (by omega)); have hT5 := row_keep hT3 (fun k e => hb5.block k (row_lt hT3 k e).2); have hs5 := hb5.size; have y3 : w5.cell? ⟨wr.heap.size, 0, none⟩ = some (.int .i64 g) := (hb5.cell hl3).trans y1; have y4 : w5.cell? ⟨wr.heap.size, 1, none⟩ = some (.int .i64 z) := (hb5.cell hl3).trans y2; have hl5 : wr.heap.size < w5.heap.size := (by omega))
                 | (refine step_append_lies _ rfl (.tmp 14) (.tmp 24) 49 rfl w.heap.size 100 i0 (.agg #[.int .i64 0, .int .i64 0]) 2 16 Tryz.underlying49 hi hz0 hz1 hz2 rfl (by decide) (.slice at1 T.length ct) T.length (ev T) (by simp [Act.eval]) (row_alloc hT5 _) ⟨w5.heap.size, 0, none⟩ 1 1 [.int .i64 (nw t g), .int .i64 (nw t z)] (by simp [Act.eval]) rfl ?_ ?_ (by decide) (by unfold maxLen; omega) (by omega) (by simp; omega) _ rfl ?_; (intro j u hj; match j, hj with | 0, hj => (simp at hj; subst hj; simp [Addr.add]) | 1, hj => (simp at hj; subst hj; simp [Addr.add])); (intro u hu; simp at hu; rcases hu with hu | hu <;> (subst hu; rfl)); intro b6 cap6 w6 hown6 hgrow6 hat6 hlt6; have y5 : w6.cell? ⟨wr.heap.size, 0, none⟩ = some (.int .i64 g) := hgrow6.cell ((((Below.refl w5.heap.size w5).alloc (Nat.le_refl _) _).cell hl5).trans y3) (fun e => absurd (row_lt hT _ e).2 (Nat.lt_irrefl _)); have y6 : w6.cell? ⟨wr.heap.size, 1, none⟩ = some (.int .i64 z) := hgrow6.cell ((((Below.refl w5.heap.size w5).alloc (Nat.le_refl _) _).cell hl5).trans y4) (fun e => absurd (row_lt hT _ e).2 (Nat.lt_irrefl _))))
      have hT6 : w6.ownsRow w.heap.size 100 2 (.slice (some ⟨b6, 0, none⟩) (T ++ [(nw t g, nw t z)]).length cap6) (T ++ [(nw t g, nw t z)]).length (ev (T ++ [(nw t g, nw t z)])) := by
        rw [ev_append]
        simpa [ev] using hown6
      have hB6 := (hB5.alloc hB5.size _).grown hgrow6 (by simp; omega) (fun k e => (row_lt hT k e.symm).1)
      clear hown6 hgrow6 hat6 hlt6 hT0 hT3 hT5 hB0 hB3 hB5 hT hb hb3 hb5 y1 y2 y3 y4 y5 y6 x1 x2
      go_wp2_with fail
      go_roundw
      case rel => exact ⟨j + 1, T ++ [(nw t g, nw t z)], some ⟨b6, 0, none⟩, cap6, by omega, by go_num, HS, by simp, hT6, hB6⟩
      case measure => simp [intOf]; omega
    · obtain rfl : j = l.length := by omega
      rw [List.take_length] at HE
      have hl : T.length = l.length := by rw [HE.out, List.length_map]
      rw [hl] at hT
      have hT : wr.ownsRow w.heap.size 100 2 (.slice at1 l.length ct) l.length (ev (l.map fun e => (nw t e.1, nw t e.2))) := by rw [← HE.out]; exact hT
      clear hTl
      go_wp2_with fail
      go_ret
      exact ⟨at1, ct, by rw [hl]; rfl, hT, hb⟩

end Go.Proofs.YtogknhogphkddaaGreat
