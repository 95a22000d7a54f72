/- Joined: Gx1, Gx2, Gv3, Gx3. -/
import Derived.Test.YtogknhogphkddaaGreatJ14
import Derived.Test.YtogknhogphkddaaGreatJ04
import Derived.Test.YtogknhogphkddaaGreatJ17
/- A grove's cut, of lists: marking. -/
namespace Go.Proofs.YtogknhogphkddaaGreat
open Go.RowKit W Kp Stl

structure Cst where
  A : List Bool
  td : List Int
  hd : Int → List (Int × Int)
  m : Nat
def mk1 (s : Cst) (v : Int × Int) : Cst := if inS s.A v = true then s else { s with A := s.A.set v.2.toNat true, td := s.td ++ [v.2] }
def mks (s : Cst) (l : List (Int × Int)) : Cst := l.foldl mk1 s
def lke (s : Cst) (k v : Int × Int) : Cst := if inS s.A k = true then mk1 s v else { s with hd := fun x => if x = k.2 then s.hd x ++ [v] else s.hd x, m := s.m + 1 }
def lkb (T : List Tw1) (wt : List En) (s : Cst) (i : Int) : Cst :=
  if (T.getD i.toNat t0).1 = 1 ∨ (T.getD i.toNat t0).1 = 2 then mks s (T.getD i.toNat t0).2.1
  else if (T.getD i.toNat t0).1 = 3 then mk1 s ((T.getD i.toNat t0).2.1.getD 1 (0, 0))
  else if (T.getD i.toNat t0).1 = 4 then lke s ((T.getD i.toNat t0).2.1.getD 0 (0, 0)) ((T.getD i.toNat t0).2.1.getD 1 (0, 0))
  else if (T.getD i.toNat t0).1 = 5 then mks s ((atL wt i).map fun x => (3, x)) else s
def lkC (T : List Tw1) (wt : List En) (s : Cst) (i : Int) : Cst := mks (lkb T wt s i) ((lkb T wt s i).hd i)

theorem mks_snoc (s : Cst) (l : List (Int × Int)) (v : Int × Int) : mks s (l ++ [v]) = mk1 (mks s l) v := by simp [mks, List.foldl_append]

def Dn_ (T : List Tw1) (wt : List En) (s : Cst) (P : Int → Prop) (i : Nat) : Prop :=
  ((T.getD i t0).1 ≠ 4 → ∀ v, Kps T wt (fun _ => True) i v → v.1 = 3 → Ls_ s.A v.2.toNat) ∧
  ((T.getD i t0).1 = 4 → (((T.getD i t0).2.1.getD 0 (0, 0)).1 = 3 ∧ (¬ Ls_ s.A ((T.getD i t0).2.1.getD 0 (0, 0)).2.toNat ∨ P ((T.getD i t0).2.1.getD 0 (0, 0)).2) ∧ (T.getD i t0).2.1.getD 1 (0, 0) ∈ s.hd ((T.getD i t0).2.1.getD 0 (0, 0)).2) ∨
    (((T.getD i t0).2.1.getD 1 (0, 0)).1 = 3 → Ls_ s.A ((T.getD i t0).2.1.getD 1 (0, 0)).2.toNat))

structure Mi (T : List Tw1) (wt : List En) (is : List Bool) (s : Cst) (E : List Int) : Prop where
  len : s.A.length = T.length
  al : ∀ k, Ls_ s.A k → Alv T k
  lt : ∀ X, Cls T wt X → (∀ k, Ls_ is k → X k) → ∀ k, Ls_ s.A k → X k
  td : ∀ x, x ∈ E ∨ x ∈ s.td → 0 ≤ x ∧ Ls_ s.A x.toNat
  hd : ∀ x v, v ∈ s.hd x → ∃ i, Ls_ s.A i ∧ (T.getD i t0).1 = 4 ∧ (T.getD i t0).2.1.getD 0 (0, 0) = (3, x) ∧ v = (T.getD i t0).2.1.getD 1 (0, 0)
  dn : ∀ i : Nat, Ls_ s.A i → ¬ ((i : Int) ∈ E ∨ (i : Int) ∈ s.td) → Dn_ T wt s (fun x => x ∈ E ∨ x ∈ s.td) i

section
variable {T : List Tw1} {wt : List En} {is : List Bool} {s : Cst} {E : List Int}

theorem set_in {L : List Bool} {i k : Nat} (h : Ls_ L k) : Ls_ (L.set i true) k := by
  by_cases hi : i < L.length
  · unfold Ls_
    rw [getD_setB _ _ _ hi]
    split
    · rfl
    · exact h
  · rw [List.set_eq_of_length_le (by omega)]
    exact h
theorem mk1_up (s : Cst) (v : Int × Int) {k : Nat} (h : Ls_ s.A k) : Ls_ (mk1 s v).A k := by
  unfold mk1
  split
  · exact h
  · exact set_in h
theorem mk1_in (s : Cst) (v : Int × Int) (h3 : v.1 = 3) (hl : v.2.toNat < s.A.length) : Ls_ (mk1 s v).A v.2.toNat := by
  unfold mk1
  split
  · exact inS_yes ‹_› h3
  · unfold Ls_
    rw [getD_setB _ _ _ hl, if_pos rfl]
theorem mk1_len (s : Cst) (v : Int × Int) : (mk1 s v).A.length = s.A.length := by
  unfold mk1
  split
  · rfl
  · simp
theorem mk1_hd (s : Cst) (v : Int × Int) : (mk1 s v).hd = s.hd ∧ (mk1 s v).m = s.m := by
  unfold mk1
  split <;> exact ⟨rfl, rfl⟩
theorem mk1_td (s : Cst) (v : Int × Int) {x : Int} (h : x ∈ s.td) : x ∈ (mk1 s v).td := by
  unfold mk1
  split
  · exact h
  · exact List.mem_append_left _ h
theorem mk1_new (s : Cst) (v : Int × Int) (hv : v.1 = 3 → 0 ≤ v.2) {k : Nat} (h : Ls_ (mk1 s v).A k) : Ls_ s.A k ∨ (k : Int) ∈ (mk1 s v).td := by
  unfold mk1 at h ⊢
  split at h
  · exact Or.inl h
  · rename_i hn
    have hn : inS s.A v = false := by simpa using hn
    obtain ⟨h3, h4⟩ := inS_no hn
    rw [if_neg (by rw [hn]; decide)]
    unfold Ls_ at h
    dsimp only at h
    by_cases hl : v.2.toNat < s.A.length
    · rw [getD_setB _ _ _ hl] at h
      split at h
      · rename_i e
        refine Or.inr (List.mem_append_right _ ?_)
        have := hv h3
        simp
        omega
      · exact Or.inl h
    · rw [List.set_eq_of_length_le (by omega)] at h
      exact Or.inl h
theorem mks_hd (s : Cst) (l : List (Int × Int)) : (mks s l).hd = s.hd ∧ (mks s l).m = s.m ∧ (mks s l).A.length = s.A.length := by
  induction l generalizing s with
  | nil => exact ⟨rfl, rfl, rfl⟩
  | cons v l ih =>
    have h := ih (mk1 s v)
    exact ⟨h.1.trans (mk1_hd s v).1, h.2.1.trans (mk1_hd s v).2, h.2.2.trans (mk1_len s v)⟩
theorem mks_up (s : Cst) (l : List (Int × Int)) {k : Nat} (h : Ls_ s.A k) : Ls_ (mks s l).A k := by
  induction l generalizing s with
  | nil => exact h
  | cons v l ih => exact ih (mk1 s v) (mk1_up s v h)
theorem mks_tdm (s : Cst) (l : List (Int × Int)) {x : Int} (h : x ∈ s.td) : x ∈ (mks s l).td := by
  induction l generalizing s with
  | nil => exact h
  | cons v l ih => exact ih (mk1 s v) (mk1_td s v h)
theorem mks_in (s : Cst) (l : List (Int × Int)) (hl : ∀ v ∈ l, v.1 = 3 → v.2.toNat < s.A.length) : ∀ v ∈ l, v.1 = 3 → Ls_ (mks s l).A v.2.toNat := by
  induction l generalizing s with
  | nil => intro v hv; cases hv
  | cons u l ih =>
    intro v hv h3
    rcases List.mem_cons.1 hv with e | hv
    · exact mks_up (mk1 s u) l (by rw [e] at h3 ⊢; exact mk1_in s u h3 (hl u (by simp) h3))
    · exact ih (mk1 s u) (fun v hv h3 => by rw [mk1_len]; exact hl v (List.mem_cons_of_mem _ hv) h3) v hv h3
theorem mks_new (s : Cst) (l : List (Int × Int)) (hl : ∀ v ∈ l, v.1 = 3 → 0 ≤ v.2) {k : Nat} (h : Ls_ (mks s l).A k) : Ls_ s.A k ∨ (k : Int) ∈ (mks s l).td := by
  induction l generalizing s with
  | nil => exact Or.inl h
  | cons v l ih =>
    rcases ih (mk1 s v) (fun v hv h3 => hl v (List.mem_cons_of_mem _ hv) h3) h with c | c
    · rcases mk1_new s v (hl v (by simp)) c with c | c
      · exact Or.inl c
      · exact Or.inr (mks_tdm (mk1 s v) l c)
    · exact Or.inr c

theorem Dn_.mono {s s' : Cst} {P P' : Int → Prop} {i : Nat} (h : Dn_ T wt s P i) (h1 : ∀ k, Ls_ s.A k → Ls_ s'.A k) (h2 : ∀ x : Int, 0 ≤ x → Ls_ s'.A x.toNat → ¬ Ls_ s.A x.toNat → P' x) (h3 : ∀ x, P x → P' x) (h4 : ∀ x v, v ∈ s.hd x → v ∈ s'.hd x) (h0 : (T.getD i t0).1 = 4 → ((T.getD i t0).2.1.getD 0 (0, 0)).1 = 3 → 0 ≤ ((T.getD i t0).2.1.getD 0 (0, 0)).2) : Dn_ T wt s' P' i := by
  refine ⟨fun hk v hv h3' => h1 _ (h.1 hk v hv h3'), fun hk => ?_⟩
  rcases h.2 hk with ⟨a, b, c⟩ | a
  · refine Or.inl ⟨a, ?_, h4 _ _ c⟩
    by_cases hA : Ls_ s'.A ((T.getD i t0).2.1.getD 0 (0, 0)).2.toNat
    · right
      rcases b with b | b
      · exact h2 _ (h0 hk a) hA b
      · exact h3 _ b
    · exact Or.inl hA
  · exact Or.inr (fun e => h1 _ (a e))
theorem key_ok (hW : Wiv T wt) {i : Nat} (hi : Alv T i) (hk : (T.getD i t0).1 = 4) (j : Nat) (hj : j < 2) : ((T.getD i t0).2.1.getD j (0, 0)).1 = 3 → 0 ≤ ((T.getD i t0).2.1.getD j (0, 0)).2 ∧ Alv T ((T.getD i t0).2.1.getD j (0, 0)).2.toNat := fun h3 =>
  hW.fv i hi _ (getD_in (by rw [hW.fl i hi (Or.inr hk)]; exact hj)) h3
theorem mk1_no {s : Cst} {v : Int × Int} (h : inS s.A v = true) : mk1 s v = s := by
  unfold mk1
  rw [if_pos h]
theorem mk1_yes {s : Cst} {v : Int × Int} (h : inS s.A v = false) : mk1 s v = { s with A := s.A.set v.2.toNat true, td := s.td ++ [v.2] } := by
  unfold mk1
  rw [h]
  rfl
theorem Mi.mark (h : Mi T wt is s E) (hW : Wiv T wt) (v : Int × Int) (hv : v.1 = 3 → 0 ≤ v.2 ∧ Alv T v.2.toNat) (hJ : v.1 = 3 → ∀ X, Cls T wt X → (∀ k, Ls_ is k → X k) → X v.2.toNat) : Mi T wt is (mk1 s v) E := by
  cases hi : inS s.A v
  · obtain ⟨h3, h4⟩ := inS_no hi
    obtain ⟨v0, va⟩ := hv h3
    have hl : v.2.toNat < s.A.length := by rw [h.len]; exact va.1
    have hin : ∀ k, Ls_ (mk1 s v).A k ↔ v.2.toNat = k ∨ Ls_ s.A k := fun k => by
      rw [mk1_yes hi]
      unfold Ls_
      dsimp only
      rw [getD_setB _ _ _ hl]
      split
      · rename_i e
        exact ⟨fun _ => Or.inl e, fun _ => rfl⟩
      · rename_i e
        exact ⟨Or.inr, fun c => c.resolve_left e⟩
    have htd : ∀ x, x ∈ (mk1 s v).td ↔ x ∈ s.td ∨ x = v.2 := fun x => by rw [mk1_yes hi]; simp
    refine ⟨(mk1_len s v).trans h.len, fun k hk => ?_, fun X hX hb k hk => ?_, fun x hx => ?_, fun x u hu => ?_, fun i hi2 hn => ?_⟩
    · rcases (hin k).1 hk with e | hk
      · rw [← e]
        exact va
      · exact h.al k hk
    · rcases (hin k).1 hk with e | hk
      · rw [← e]
        exact hJ h3 X hX hb
      · exact h.lt X hX hb k hk
    · rcases hx with hx | hx
      · exact ⟨(h.td x (Or.inl hx)).1, mk1_up s v (h.td x (Or.inl hx)).2⟩
      · rcases (htd x).1 hx with hx | hx
        · exact ⟨(h.td x (Or.inr hx)).1, mk1_up s v (h.td x (Or.inr hx)).2⟩
        · rw [hx]
          exact ⟨v0, (hin _).2 (Or.inl rfl)⟩
    · rw [(mk1_hd s v).1] at hu
      obtain ⟨i, a, b⟩ := h.hd x u hu
      exact ⟨i, mk1_up s v a, b⟩
    · have hi3 : Ls_ s.A i := by
        rcases (hin i).1 hi2 with e | c
        · exact absurd (Or.inr ((htd _).2 (Or.inr (by omega)))) hn
        · exact c
      refine (h.dn i hi3 (fun c => hn (c.imp id (fun c => (htd _).2 (Or.inl c))))).mono (fun k hk => mk1_up s v hk) (fun x x0 ha hb => ?_) (fun x hx => hx.imp id (fun c => (htd _).2 (Or.inl c))) (fun x u hu => by rw [(mk1_hd s v).1]; exact hu) (fun hk h3 => (key_ok hW (h.al i hi3) hk 0 (by decide) h3).1)
      rcases (hin _).1 ha with e | c
      · exact Or.inr ((htd _).2 (Or.inr (by omega)))
      · exact absurd c hb
  · rw [mk1_no hi]
    exact h
theorem Mi.marks (h : Mi T wt is s E) (hW : Wiv T wt) (l : List (Int × Int)) (hv : ∀ v ∈ l, v.1 = 3 → 0 ≤ v.2 ∧ Alv T v.2.toNat) (hJ : ∀ v ∈ l, v.1 = 3 → ∀ X, Cls T wt X → (∀ k, Ls_ is k → X k) → X v.2.toNat) : Mi T wt is (mks s l) E := by
  induction l generalizing s with
  | nil => exact h
  | cons v l ih => exact ih (h.mark hW v (hv v (by simp)) (hJ v (by simp))) (fun u hu => hv u (List.mem_cons_of_mem _ hu)) (fun u hu => hJ u (List.mem_cons_of_mem _ hu))
theorem mk1_mm (s : Cst) (v : Int × Int) (hv : v.1 = 3 → v.2.toNat < s.A.length) : (mk1 s v).td.length + cnt (mk1 s v).A = s.td.length + cnt s.A := by
  cases hi : inS s.A v
  · obtain ⟨h3, h4⟩ := inS_no hi
    have hl := hv h3
    have h2 := cnt_set s.A v.2.toNat (by
      rw [List.getD_eq_getElem?_getD, List.getElem?_eq_getElem hl] at h4 ⊢
      exact h4)
    rw [mk1_yes hi]
    simp only [List.length_append, List.length_singleton]
    omega
  · rw [mk1_no hi]
theorem mks_mm (s : Cst) (l : List (Int × Int)) (hl : ∀ v ∈ l, v.1 = 3 → v.2.toNat < s.A.length) : (mks s l).td.length + cnt (mks s l).A = s.td.length + cnt s.A := by
  induction l generalizing s with
  | nil => rfl
  | cons v l ih => exact (ih (mk1 s v) (fun u hu h3 => by rw [mk1_len]; exact hl u (List.mem_cons_of_mem _ hu) h3)).trans (mk1_mm s v (hl v (by simp)))
theorem Mi.pop {t : List Int} {x : Int} (h : Mi T wt is s []) (hW : Wiv T wt) (e : s.td = t ++ [x]) : Mi T wt is { s with td := t } [x] := by
  have hm : ∀ y, (y ∈ [x] ∨ y ∈ t) ↔ (y ∈ ([] : List Int) ∨ y ∈ s.td) := fun y => by rw [e]; simp [or_comm]
  exact ⟨h.len, h.al, h.lt, fun y hy => h.td y ((hm y).1 hy), h.hd, fun i hi hn => (h.dn i hi (fun c => hn ((hm _).2 c))).mono (fun _ c => c) (fun _ _ a b => absurd a b) (fun y hy => (hm y).2 hy) (fun _ _ c => c) (fun hk h3 => (key_ok hW (h.al i hi) hk 0 (by decide) h3).1)⟩
theorem Mi.hold {i n : Nat} {x : Int} {u : Int × Int} (h : Mi T wt is s E) (hW : Wiv T wt) (hi : Ls_ s.A i) (hk : (T.getD i t0).1 = 4) (h0 : (T.getD i t0).2.1.getD 0 (0, 0) = (3, x)) (h1 : (T.getD i t0).2.1.getD 1 (0, 0) = u) :
    Mi T wt is { s with hd := fun y => if y = x then s.hd y ++ [u] else s.hd y, m := n } E := by
  refine ⟨h.len, h.al, h.lt, h.td, fun y v hv => ?_, fun j hj hn => (h.dn j hj hn).mono (fun _ c => c) (fun _ _ a b => absurd a b) (fun _ c => c) (fun y v hv => ?_) (fun hk h3 => (key_ok hW (h.al j hj) hk 0 (by decide) h3).1)⟩
  · dsimp only at hv
    split at hv
    · rename_i e
      rcases List.mem_append.1 hv with hv | hv
      · exact h.hd y v hv
      · simp at hv
        exact ⟨i, hi, hk, by rw [h0, e], by rw [hv, h1]⟩
    · exact h.hd y v hv
  · dsimp only
    split
    · exact List.mem_append_left _ hv
    · exact hv
theorem Mi.drop {i : Nat} (h : Mi T wt is s [(i : Int)]) (h7 : ¬ (i : Int) ∈ s.td → Dn_ T wt s (fun x => x ∈ s.td) i) (h8 : ∀ v ∈ s.hd i, v.1 = 3 → Ls_ s.A v.2.toNat) : Mi T wt is s [] := by
  refine ⟨h.len, h.al, h.lt, fun x hx => h.td x (hx.imp (fun c => by simp at c) id), h.hd, fun j hj hn => ?_⟩
  have hn : ¬ (j : Int) ∈ s.td := fun c => hn (Or.inr c)
  by_cases e : j = i
  · subst e
    have := h7 hn
    exact ⟨this.1, fun hk => (this.2 hk).imp (fun ⟨a, b, c⟩ => ⟨a, b.imp id Or.inr, c⟩) id⟩
  · have := h.dn j hj (fun c => c.elim (fun c => by simp at c; omega) hn)
    refine ⟨this.1, fun hk => ?_⟩
    rcases this.2 hk with ⟨a, b, c⟩ | a
    · rcases b with b | b | b
      · exact Or.inl ⟨a, Or.inl b, c⟩
      · refine Or.inr (h8 _ ?_)
        simp at b
        rw [← b]
        simpa using c
      · exact Or.inl ⟨a, Or.inr (Or.inr b), c⟩
    · exact Or.inr a
theorem atL_mem {i x : Int} : x ∈ atL wt i ↔ (∃ e ∈ wt, e.1 = i ∧ x = e.2) := by
  unfold atL
  simp only [List.mem_map, List.mem_filter, beq_iff_eq]
  constructor
  · rintro ⟨e, ⟨h1, h2⟩, rfl⟩
    exact ⟨e, h1, h2, rfl⟩
  · rintro ⟨e, h1, h2, rfl⟩
    exact ⟨e, ⟨h1, h2⟩, rfl⟩
theorem Mi.list {i : Nat} (h : Mi T wt is s [(i : Int)]) (hW : Wiv T wt) (hi : Ls_ s.A i) (l : List (Int × Int)) (hl : ∀ v ∈ l, Kps T wt (Ls_ s.A) i v) : Mi T wt is (mks s l) [(i : Int)] ∧ ∀ v ∈ l, v.1 = 3 → Ls_ (mks s l).A v.2.toNat :=
  ⟨h.marks hW l (fun v hv h3 => hW.kps (h.al i hi) (hl v hv) h3) (fun v hv h3 X hX hb => hX i (h.al i hi).1 (h.lt X hX hb i hi) v ((hl v hv).mono (fun k hk => h.lt X hX hb k hk)) h3),
    mks_in s l (fun v hv h3 => by rw [h.len]; exact (hW.kps (h.al i hi) (hl v hv) h3).2.1)⟩
theorem Mi.free {i : Nat} (h : Mi T wt is s [(i : Int)]) (hW : Wiv T wt) (hi : Ls_ s.A i) : Mi T wt is (mks s (s.hd i)) [(i : Int)] ∧ (∀ v ∈ s.hd i, v.1 = 3 → Ls_ (mks s (s.hd i)).A v.2.toNat) ∧ (∀ v ∈ s.hd i, v.1 = 3 → 0 ≤ v.2 ∧ v.2.toNat < s.A.length) := by
  have ho : ∀ v ∈ s.hd i, v.1 = 3 → 0 ≤ v.2 ∧ Alv T v.2.toNat := fun v hv h3 => by
    obtain ⟨j, a, b, c, e⟩ := h.hd _ _ hv
    rw [e] at h3 ⊢
    exact key_ok hW (h.al j a) b 1 (by decide) h3
  refine ⟨h.marks hW _ ho (fun v hv h3 X hX hb => ?_), mks_in s _ (fun v hv h3 => by rw [h.len]; exact (ho v hv h3).2.1), fun v hv h3 => ⟨(ho v hv h3).1, by rw [h.len]; exact (ho v hv h3).2.1⟩⟩
  obtain ⟨j, a, b, c, e⟩ := h.hd _ _ hv
  refine hX j (h.al j a).1 (h.lt X hX hb j a) v (Or.inr (Or.inr (Or.inl ⟨b, fun _ => ?_, e⟩))) h3
  rw [c]
  exact h.lt X hX hb _ (by simpa using hi)
end

end Go.Proofs.YtogknhogphkddaaGreat

/- A grove's cut, of lists: what was looked at, and all. -/
namespace Go.Proofs.YtogknhogphkddaaGreat
open Go.RowKit W Kp Stl

section
variable {T : List Tw1} {wt : List En} {is : List Bool} {s : Cst} {E : List Int}

structure Lkd (T : List Tw1) (wt : List En) (is : List Bool) (s s' : Cst) : Prop where
  mi : Mi T wt is s' []
  mm : s'.m ≤ s.m + 1
  td : s'.td.length + cnt s'.A = s.td.length + cnt s.A
  up : ∀ k, Ls_ s.A k → Ls_ s'.A k

theorem look_list {i : Nat} (h : Mi T wt is s [(i : Int)]) (hW : Wiv T wt) (hi : Ls_ s.A i) (hk : (T.getD i t0).1 ≠ 4) (l : List (Int × Int)) (h1 : ∀ v ∈ l, Kps T wt (Ls_ s.A) i v) (h2 : ∀ v, Kps T wt (fun _ => True) i v → v ∈ l) :
    Lkd T wt is s (mks (mks s l) ((mks s l).hd i)) := by
  obtain ⟨a1, a2⟩ := h.list hW hi l h1
  obtain ⟨b1, b2, b3⟩ := a1.free hW (mks_up s l hi)
  refine ⟨b1.drop (fun _ => ⟨fun _ v hv h3 => mks_up _ _ (a2 v (h2 v hv) h3), fun c => absurd c hk⟩) (fun v hv => ?_), ?_, ?_, fun k hk => mks_up _ _ (mks_up _ _ hk)⟩
  · rw [(mks_hd _ _).1] at hv
    exact b2 v hv
  · rw [(mks_hd _ _).2.1, (mks_hd _ _).2.1]
    omega
  · rw [mks_mm _ _ (fun v hv h3 => (b3 v hv h3).2), mks_mm _ _ (fun v hv h3 => by rw [h.len]; exact (hW.kps (h.al i hi) (h1 v hv) h3).2.1)]
theorem Mi.look {i : Nat} (h : Mi T wt is s [(i : Int)]) (hW : Wiv T wt) (hi : Ls_ s.A i) : Lkd T wt is s (lkC T wt s i) := by
  have hal := h.al i hi
  unfold lkC lkb
  rw [Int.toNat_natCast]
  by_cases k1 : (T.getD i t0).1 = 1 ∨ (T.getD i t0).1 = 2
  · rw [if_pos k1]
    refine look_list h hW hi (by omega) _ (fun v hv => Or.inl ⟨k1, hv⟩) (fun v hv => ?_)
    rcases hv with c | c | c | c
    · exact c.2
    · exact absurd c.1 (by omega)
    · exact absurd c.1 (by omega)
    · exact absurd c.1 (by omega)
  rw [if_neg k1]
  by_cases k3 : (T.getD i t0).1 = 3
  · rw [if_pos k3]
    refine look_list h hW hi (by omega) [_] (fun v hv => Or.inr (Or.inl ⟨k3, by simpa using hv⟩)) (fun v hv => ?_)
    rcases hv with c | c | c | c
    · exact absurd c.1 (by omega)
    · rw [c.2]
      simp
    · exact absurd c.1 (by omega)
    · exact absurd c.1 (by omega)
  rw [if_neg k3]
  by_cases k4 : (T.getD i t0).1 = 4
  · rw [if_pos k4]
    unfold lke
    cases hk : inS s.A ((T.getD i t0).2.1.getD 0 (0, 0))
    · obtain ⟨q3, q4⟩ := inS_no hk
      rw [if_neg (by decide)]
      have e0 : (T.getD i t0).2.1.getD 0 (0, 0) = (3, ((T.getD i t0).2.1.getD 0 (0, 0)).2) := by rw [← q3]
      obtain ⟨b1, b2, b3⟩ := (h.hold (n := s.m + 1) hW hi k4 e0 rfl).free hW hi
      refine ⟨b1.drop (fun _ => ⟨fun c => absurd k4 c, fun _ => Or.inl ⟨q3, ?_, ?_⟩⟩) (fun v hv => ?_), ?_, ?_, fun k hk => mks_up _ _ hk⟩
      · by_cases c : Ls_ (mks { s with hd := fun y => if y = ((T.getD i t0).2.1.getD 0 (0, 0)).2 then s.hd y ++ [(T.getD i t0).2.1.getD 1 (0, 0)] else s.hd y, m := s.m + 1 } ((fun y => if y = ((T.getD i t0).2.1.getD 0 (0, 0)).2 then s.hd y ++ [(T.getD i t0).2.1.getD 1 (0, 0)] else s.hd y) (i : Int))).A ((T.getD i t0).2.1.getD 0 (0, 0)).2.toNat
        · right
          rcases mks_new _ _ (fun v hv h3 => (b3 v hv h3).1) c with c | c
          · exact absurd c (by unfold Ls_; rw [q4]; decide)
          · have := (key_ok hW hal k4 0 (by decide) q3).1
            rwa [Int.toNat_of_nonneg this] at c
        · exact Or.inl c
      · rw [(mks_hd _ _).1]
        dsimp only
        rw [if_pos rfl]
        exact List.mem_append_right _ (by simp)
      · rw [(mks_hd _ _).1] at hv
        exact b2 v hv
      · rw [(mks_hd _ _).2.1]
        exact Nat.le_refl _
      · rw [mks_mm _ _ (fun v hv h3 => (b3 v hv h3).2)]
    · rw [if_pos rfl]
      have hK : ∀ v ∈ [(T.getD i t0).2.1.getD 1 (0, 0)], Kps T wt (Ls_ s.A) i v := fun v hv => Or.inr (Or.inr (Or.inl ⟨k4, fun c => inS_yes hk c, by simpa using hv⟩))
      obtain ⟨a1, a2⟩ := h.list hW hi _ hK
      obtain ⟨b1, b2, b3⟩ := a1.free hW (mks_up s _ hi)
      refine ⟨b1.drop (fun _ => ⟨fun c => absurd k4 c, fun _ => Or.inr (fun c => mks_up _ _ (a2 _ (by simp) c))⟩) (fun v hv => ?_), ?_, ?_, fun k hk => mks_up _ _ (mks_up s [_] hk)⟩
      · rw [(mks_hd _ _).1] at hv
        exact b2 v hv
      · show (mks (mks s [_]) _).m ≤ _
        rw [(mks_hd _ _).2.1, (mks_hd _ _).2.1]
        omega
      · rw [show mk1 s ((T.getD i t0).2.1.getD 1 (0, 0)) = mks s [(T.getD i t0).2.1.getD 1 (0, 0)] from rfl]
        rw [mks_mm _ _ (fun v hv h3 => (b3 v hv h3).2), mks_mm _ _ (fun v hv h3 => by rw [h.len]; exact (hW.kps hal (hK v hv) h3).2.1)]
  rw [if_neg k4]
  by_cases k5 : (T.getD i t0).1 = 5
  · rw [if_pos k5]
    refine look_list h hW hi k4 _ (fun v hv => ?_) (fun v hv => ?_)
    · obtain ⟨x, hx, rfl⟩ := List.mem_map.1 hv
      obtain ⟨e, h1, h2, rfl⟩ := atL_mem.1 hx
      exact Or.inr (Or.inr (Or.inr ⟨k5, e, h1, h2, rfl⟩))
    · rcases hv with c | c | c | c
      · exact absurd c.1 (by omega)
      · exact absurd c.1 (by omega)
      · exact absurd c.1 (by omega)
      · obtain ⟨_, e, h1, h2, rfl⟩ := c
        exact List.mem_map.2 ⟨e.2, atL_mem.2 ⟨e, h1, h2, rfl⟩, rfl⟩
  · rw [if_neg k5]
    refine look_list h hW hi k4 [] (fun v hv => by cases hv) (fun v hv => ?_)
    rcases hv with c | c | c | c
    · exact absurd c.1 k1
    · exact absurd c.1 k3
    · exact absurd c.1 k4
    · exact absurd c.1 k5
theorem Mi.done (h : Mi T wt is s []) (e : s.td = []) (hl : is.length = T.length) (hu : ∀ k, Ls_ is k → Ls_ s.A k) : Grn T wt is s.A := by
  refine ⟨h.len.trans hl.symm, hu, fun i _ hX v hv h3 => ?_, h.lt⟩
  have hd := h.dn i hX (by rw [e]; simp)
  by_cases k4 : (T.getD i t0).1 = 4
  · rcases hv with c | c | c | c
    · exact absurd c.1 (by omega)
    · exact absurd c.1 (by omega)
    · rcases hd.2 k4 with ⟨a, b, _⟩ | a
      · rcases b with b | b
        · exact absurd (c.2.1 a) b
        · rw [e] at b
          simp at b
      · rw [c.2.2] at h3 ⊢
        exact a h3
    · exact absurd c.1 (by omega)
  · exact hd.1 k4 v (hv.mono (fun _ _ => trivial)) h3
theorem Mi.base (h : Mi T wt is s []) {is' : List Bool} (hu : ∀ k, Ls_ s.A k → Ls_ is' k) : Mi T wt is' s [] := ⟨h.len, h.al, fun _ _ hb k hk => hb k (hu k hk), h.td, h.hd, h.dn⟩
theorem Mi.start (T : List Tw1) (wt : List En) (is : List Bool) : Mi T wt is ⟨List.replicate T.length false, [], fun _ => [], 0⟩ [] := by
  have hn : ∀ k, ¬ Ls_ (List.replicate T.length false) k := fun k hk => by
    unfold Ls_ at hk
    rw [List.getD_eq_getElem?_getD, List.getElem?_replicate] at hk
    split at hk <;> cases hk
  exact ⟨by simp, fun k hk => absurd hk (hn k), fun _ _ _ k hk => absurd hk (hn k), fun x hx => absurd hx (by simp), fun x v hv => absurd hv (by simp), fun i hi => absurd hi (hn i)⟩
end

end Go.Proofs.YtogknhogphkddaaGreat

/- A grove in memory: what turns; length, same, set, register, pop: contracts. -/
namespace Go.Proofs.YtogknhogphkddaaGreat
open Go.RowKit W Kp Stl

section
variable {gp : Nat} {most grow : Int} {l : Gl} {F : Nat → Prop} {s : Wrs} {w w' : World} {T T' : List Tw1}

theorem gvF_congr {fm : Fm} (h1 : ∀ i, Alv T' i ↔ Alv T i) (h2 : ∀ i, (T'.getD i t0).1 = (T.getD i t0).1 ∧ (T'.getD i t0).2.1.length = (T.getD i t0).2.1.length) : gvF T' fm = gvF T fm := by
  funext x
  by_cases h : 0 ≤ x ∧ Alv T x.toNat
  · rw [gvF_yes h, gvF_yes ⟨h.1, (h1 _).2 h.2⟩]
    dsimp only [thV, fsV]
    rw [(h2 _).1, (h2 _).2]
  · rw [gvF_no h, gvF_no (fun c => h ⟨c.1, (h1 _).1 c.2⟩)]
theorem stf_get (T : List Tw1) (j i : Nat) (y : Int × Int) (k : Nat) : (stf T j i y).getD k t0 = if j = k ∧ j < T.length then ((T.getD j t0).1, (T.getD j t0).2.1.set i y, (T.getD j t0).2.2) else T.getD k t0 := by
  simp only [List.getD_eq_getElem?_getD, List.getElem?_set]
  by_cases h1 : j = k
  · subst h1
    by_cases h2 : j < T.length
    · simp [h2]
    · simp [h2]
  · simp [h1]
theorem stf_alv (T : List Tw1) (j i : Nat) (y : Int × Int) (k : Nat) : Alv (stf T j i y) k ↔ Alv T k := by
  unfold Alv
  rw [List.length_set, stf_get]
  split
  · rename_i h
    rw [← h.1]
  · exact Iff.rfl
theorem Gvy.field (h : Gvy gp most grow l s w) {j i : Nat} (hj : Alv s.T j) (hi : i < (s.T.getD j t0).2.1.length) (y : Int × Int) : ∃ b cp, fsV s.T l.fm j = .slice (some ⟨b, 0, none⟩) (s.T.getD j t0).2.1.length cp ∧
    w.cell? ⟨b, i * 2, none⟩ = some (.int .i64 ((s.T.getD j t0).2.1.getD i (0, 0)).1) ∧ w.cell? ⟨b, i * 2 + 1, none⟩ = some (.int .i64 ((s.T.getD j t0).2.1.getD i (0, 0)).2) ∧ (∀ o, w.frozen? ⟨b, o, none⟩ = false) ∧ b < w.heap.size ∧ l.own b = 10 + j ∧
    ∀ w' W : World, (∀ k, l.own k ≠ 0 → k ≠ b → w'.heap[k]? = w.heap[k]?) → w.heap.size ≤ w'.heap.size → W.heap[b]? = w.heap[b]? → w'.heap[b]? = ((W.setCell ⟨b, i * 2, none⟩ (.int .i64 y.1)).setCell ⟨b, i * 2 + 1, none⟩ (.int .i64 y.2)).heap[b]? → Gvy gp most grow l { s with T := stf s.T j i y } w' := by
  have hr := h.g2.fl j hj
  obtain ⟨b, cp, e⟩ := row_shape hr (by omega)
  have ho : l.own b = 10 + j := h.g2.fo j hj b (by rw [e]; rfl)
  obtain ⟨cs, hcs⟩ := row_type hr b (by rw [e]; rfl)
  have hlp := row_pairs hr
  obtain ⟨b', o, ead, lb, hcl⟩ := hlp (by omega)
  have eb : (l.fm j).1 = some ⟨b, 0, none⟩ := by
    dsimp only [fsV] at e
    injection e
  rw [eb] at ead
  cases ead
  have hc := hcl i hi
  rw [Nat.zero_add] at hc
  refine ⟨b, cp, e, hc.1, hc.2, fun o => by simp [World.frozen?, hcs], lt_of_some hcs, ho, fun w' W hk hs hW hb => ?_⟩
  have hlen : ((stf s.T j i y).getD j t0) = ((s.T.getD j t0).1, (s.T.getD j t0).2.1.set i y, (s.T.getD j t0).2.2) := by
    rw [stf_get, if_pos ⟨rfl, hj.1⟩]
  have hlk : ∀ k, ((stf s.T j i y).getD k t0).1 = (s.T.getD k t0).1 ∧ ((stf s.T j i y).getD k t0).2.1.length = (s.T.getD k t0).2.1.length ∧ ((stf s.T j i y).getD k t0).2.2 = (s.T.getD k t0).2.2 := fun k => by
    rw [stf_get]
    split
    · rename_i hh
      rw [← hh.1]
      exact ⟨rfl, by simp, rfl⟩
    · exact ⟨rfl, rfl, rfl⟩
  refine { blk := ?_, bo := h.bo, g2 := ?_, g3 := h.g3.keep (fun k hk' => hk k (by omega) (fun c => by rw [c] at hk'; omega)), g4 := h.g4.keep (fun k hk' => hk k (by omega) (fun c => by rw [c] at hk'; omega)), lt := fun k hk' => Nat.lt_of_lt_of_le (h.lt k hk') hs }
  · rw [hk gp (by rw [h.bo]; decide) (fun c => by have := h.bo; rw [c] at this; omega), h.blk]
    dsimp only
    rw [List.length_set]
  · refine { mp := ?_, mn := by dsimp only; rw [List.length_set]; exact h.g2.mn, mo := h.g2.mo, fl := fun k hk' => ?_, fo := fun k hk' => ?_, ag := fun k hk' => ?_, al := by dsimp only; rw [List.length_set]; exact h.g2.al }
    · rw [gvF_congr (fun k => stf_alv _ _ _ _ k) (fun k => ⟨(hlk k).1, (hlk k).2.1⟩)]
      exact h.g2.mp.same (hk _ (by rw [h.g2.mo]; decide) (fun c => by have := h.g2.mo; rw [c] at this; omega))
    · have hk2 := (stf_alv _ _ _ _ k).1 hk'
      by_cases ek : k = j
      · rw [ek, hlen]
        dsimp only [fsV] at hr e ⊢
        rw [hlen]
        dsimp only
        rw [List.length_set, ev_root]
        have h1 := row_put (row_put (row_keep (e ▸ hr) (fun k' e' => by cases e'; exact hW)) (i * 2) (.int .i64 y.1)) (i * 2 + 1) (.int .i64 y.2)
        rw [e]
        exact row_keep h1 (fun k' e' => by cases e'; exact hb)
      · have ee : (stf s.T j i y).getD k t0 = s.T.getD k t0 := by
          rw [stf_get, if_neg (fun c => ek c.1.symm)]
        dsimp only [fsV]
        rw [ee]
        exact row_keep (h.g2.fl k hk2) (fun k' e' => hk k' (by rw [h.g2.fo k hk2 k' e']; omega) (fun c => by
          have h1 := h.g2.fo k hk2 k' e'
          rw [c, ho] at h1
          omega))
    · intro k' e'
      refine h.g2.fo k ((stf_alv _ _ _ _ k).1 hk') k' ?_
      dsimp only [fsV] at e' ⊢
      rw [(hlk k).2.1] at e'
      exact e'
    · rw [(hlk k).2.2]
      exact h.g2.ag k ((stf_alv _ _ _ _ k).1 hk')
end

end Go.Proofs.YtogknhogphkddaaGreat

/- A grove's cut in memory, by labels. -/
namespace Go.Proofs.YtogknhogphkddaaGreat
open Go.RowKit W Kp Stl

structure Cp where
  w0 : World
  gp : Nat
  most : Int
  grow : Int
  l : Gl
  s : Wrs
  cp : Nat
  ab : Nat
  hb : Nat
def alF (T : List Tw1) (fm : Fm) (A : List Bool) (x : Int) : Option Value := if 0 ≤ x ∧ A.getD x.toNat false = true then some (thV T fm x.toNat) else none
def hdF (hd : Int → List (Int × Int)) (hm : Int → Option Addr × Nat) (x : Int) : Option Value := if (hd x).isEmpty = true then none else some (.slice (hm x).1 (hd x).length (hm x).2)
structure Cm (c : Cp) (own : Nat → Nat) (vt : Value) (n1 n2 : Nat) (hm : Int → Option Addr × Nat) (st : Cst) (w : World) : Prop where
  ol : ∀ k, k < c.w0.heap.size → w.heap[k]? = c.w0.heap[k]?
  sz : c.w0.heap.size ≤ w.heap.size
  cb : w.heap[c.cp]? = some (.cells #[.pointer (some ⟨c.gp, 0, none⟩), .map (some c.ab), vt, .map (some c.hb)] 138 (0, 0))
  co : own c.cp = 1
  am : Mh w c.ab n1 (alF c.s.T c.l.fm st.A)
  ao : own c.ab = 2
  an : n1 + cnt st.A ≤ c.s.T.length
  tr : w.ownsRow 0 2 1 vt st.td.length (st.td.map (Value.int .i64))
  tw : ∀ k, some k = vt.ownBlock → own k = 3
  tn : st.td.length + cnt st.A ≤ c.s.T.length
  hq : Mh w c.hb n2 (hdF st.hd hm)
  ho : own c.hb = 4
  hn : n2 ≤ st.m
  hr : ∀ x, st.hd x ≠ [] → 0 ≤ x ∧ w.ownsRow 0 54 2 (.slice (hm x).1 (st.hd x).length (hm x).2) (st.hd x).length (ev (st.hd x))
  hro : ∀ x, st.hd x ≠ [] → ∀ k, some k = (Value.slice (hm x).1 (st.hd x).length (hm x).2).ownBlock → own k = 10 + x.toNat
  lt : ∀ b, own b ≠ 0 → c.w0.heap.size ≤ b ∧ b < w.heap.size

section
variable {c : Cp} {own : Nat → Nat} {vt : Value} {n1 n2 : Nat} {hm : Int → Option Addr × Nat} {st : Cst} {w w' : World}
theorem Cm.keep (h : Cm c own vt n1 n2 hm st w) (hs : w.heap.size ≤ w'.heap.size) (hk : ∀ b, b < c.w0.heap.size ∨ own b ≠ 0 → w'.heap[b]? = w.heap[b]?) : Cm c own vt n1 n2 hm st w' :=
  { h with
    ol := fun k hk' => (hk k (Or.inl hk')).trans (h.ol k hk')
    sz := Nat.le_trans h.sz hs
    cb := (hk _ (Or.inr (by rw [h.co]; decide))).trans h.cb
    am := h.am.same (hk _ (Or.inr (by rw [h.ao]; decide)))
    tr := row_keep h.tr (fun k e => hk k (Or.inr (by rw [h.tw k e]; decide)))
    hq := h.hq.same (hk _ (Or.inr (by rw [h.ho]; decide)))
    hr := fun x hx => ⟨(h.hr x hx).1, row_keep (h.hr x hx).2 (fun k e => hk k (Or.inr (by rw [h.hro x hx k e]; omega)))⟩
    lt := fun b hb => ⟨(h.lt b hb).1, Nat.lt_of_lt_of_le (h.lt b hb).2 hs⟩ }
theorem Cm.below (h : Cm c own vt n1 n2 hm st w) (hb : Below w.heap.size w w') : Cm c own vt n1 n2 hm st w' := h.keep hb.size (fun b ho => hb.block b (ho.elim (fun c => Nat.lt_of_lt_of_le c h.sz) (fun c => (h.lt b c).2)))
end

def ctO (c : Cp) : Ob Cst where
  J F st w := ∃ own vt n1 n2 hm, Cm c own vt n1 n2 hm st w ∧ ∀ b, F b ↔ b < c.w0.heap.size ∨ own b ≠ 0
  lt := by
    rintro F st w ⟨own, vt, n1, n2, hm, h, hF⟩ b hb
    rcases (hF b).1 hb with e | e
    · exact Nat.lt_of_lt_of_le e h.sz
    · exact (h.lt b e).2
  keep := by
    rintro F st w w' ⟨own, vt, n1, n2, hm, h, hF⟩ hs hk
    exact ⟨own, vt, n1, n2, hm, h.keep hs (fun b hb => hk b ((hF b).2 hb)), hF⟩

structure Tm (own : Nat → Nat) (w : World) (own' : Nat → Nat) (w' : World) : Prop where
  fr : Fr (fun b => own b = 1 ∨ own b = 2 ∨ own b = 3) w w'
  old : ∀ b, b < w.heap.size → own' b = own b
  nw : ∀ b, w.heap.size ≤ b → own' b ≠ 0 → own' b = 3

section
variable {c : Cp} {own own' own'' : Nat → Nat} {vt : Value} {n1 n2 : Nat} {hm : Int → Option Addr × Nat} {st : Cst} {w w' w'' : World}
theorem Tm.of (h : Below w.heap.size w w') (hl : ∀ b, own b ≠ 0 → b < w.heap.size) : Tm own w own w' := ⟨Fr.of h, fun _ _ => rfl, fun b hb ho => by have := hl b ho; omega⟩
theorem Tm.trans (h : Tm own w own' w') (k : Tm own' w' own'' w'') : Tm own w own'' w'' := by
  refine ⟨h.fr.trans k.fr (fun i hi => ?_), fun b hb => (k.old b (Nat.lt_of_lt_of_le hb h.fr.size)).trans (h.old b hb), fun b hb ho => ?_⟩
  · by_cases hi2 : i < w.heap.size
    · rw [h.old i hi2] at hi
      exact Or.inl hi
    · exact Or.inr (by omega)
  · by_cases hb2 : b < w'.heap.size
    · rw [k.old b hb2] at ho ⊢
      exact h.nw b hb ho
    · exact k.nw b (by omega) ho
theorem Cm.cells (h : Cm c own vt n1 n2 hm st w) : w.cell? ⟨c.cp, 0, none⟩ = some (.pointer (some ⟨c.gp, 0, none⟩)) ∧ w.cell? ⟨c.cp, 1, none⟩ = some (.map (some c.ab)) ∧ w.cell? ⟨c.cp, 2, none⟩ = some vt ∧ w.cell? ⟨c.cp, 3, none⟩ = some (.map (some c.hb)) ∧ (∀ o, w.frozen? ⟨c.cp, o, none⟩ = false) ∧ c.cp < w.heap.size := by
  have h1 := h.cb
  refine ⟨?_, ?_, ?_, ?_, fun o => by simp [World.frozen?, h1], lt_of_some h1⟩ <;> simp [World.cell?, h1]
theorem Cm.gv (h : Cm c own vt n1 n2 hm st w) (hg : Gvy c.gp c.most c.grow c.l c.s c.w0) : Gvy c.gp c.most c.grow c.l c.s w := hg.keep h.sz (fun b hb => h.ol b (hg.lt b hb))
theorem alF_set (T : List Tw1) (fm : Fm) (A : List Bool) {x : Int} (h0 : 0 ≤ x) (hl : x.toNat < A.length) : upm (alF T fm A) x (thV T fm x.toNat) = alF T fm (A.set x.toNat true) := by
  funext y
  unfold upm alF
  by_cases e : y = x
  · subst e
    rw [if_pos rfl, if_pos ⟨h0, by rw [getD_setB _ _ _ hl, if_pos rfl]⟩]
  · rw [if_neg e]
    by_cases y0 : 0 ≤ y
    · rw [getD_setB _ _ _ hl, if_neg (show ¬ x.toNat = y.toNat by omega)]
    · rw [if_neg (fun c => y0 c.1), if_neg (fun c => y0 c.1)]
theorem alF_some {T : List Tw1} {fm : Fm} {A : List Bool} {x : Int} (h0 : 0 ≤ x) : (alF T fm A x).isSome = isd A x := by
  unfold alF isd
  cases h : A.getD x.toNat false
  · rw [if_neg (by simp)]
    rfl
  · rw [if_pos ⟨h0, rfl⟩]
    rfl
theorem Cm.mrk {vt' : Value} {v : Int × Int} (h : Cm c own vt n1 n2 hm st w) (hi : inS st.A v = false) (h0 : 0 ≤ v.2) (hl : v.2.toNat < st.A.length) (fr : Fr (fun b => own b = 1 ∨ own b = 2 ∨ own b = 3) w w')
    (hM : Mh w' c.ab (n1 + 1) (upm (alF c.s.T c.l.fm st.A) v.2 (thV c.s.T c.l.fm v.2.toNat)))
    (hR : w'.ownsRow 0 2 1 vt' (st.td.length + 1) ((st.td ++ [v.2]).map (Value.int .i64))) (hb : w'.heap[c.cp]? = some (.cells #[.pointer (some ⟨c.gp, 0, none⟩), .map (some c.ab), vt', .map (some c.hb)] 138 (0, 0)))
    (ht : ∀ k, some k = vt'.ownBlock → own k = 3 ∨ w.heap.size ≤ k) : ∃ own', Cm c own' vt' (n1 + 1) n2 hm (mk1 st v) w' ∧ Tm own w own' w' := by
  obtain ⟨h3, h4⟩ := inS_no hi
  have hc := cnt_set st.A v.2.toNat (by
    rw [List.getD_eq_getElem?_getD, List.getElem?_eq_getElem hl] at h4 ⊢
    exact h4)
  have he : ∀ b, own b ≠ 0 → (if w.heap.size ≤ b then (if some b = vt'.ownBlock then 3 else 0) else own b) = own b := fun b hb => if_neg (by have := (h.lt b hb).2; omega)
  have hk : ∀ b, own b = 4 ∨ 10 ≤ own b → w'.heap[b]? = w.heap[b]? := fun b hb => fr.block b (h.lt b (by omega)).2 (by omega)
  have hs := h.sz
  refine ⟨fun b => if w.heap.size ≤ b then (if some b = vt'.ownBlock then 3 else 0) else own b, ?_, fr, fun b hb => if_neg (by omega), fun b hb ho => ?_⟩
  · rw [mk1_yes hi]
    refine { ol := fun k hk' => (fr.block k (by omega) (fun cc => ?_)).trans (h.ol k hk'), sz := Nat.le_trans h.sz fr.size, cb := hb, co := (he _ (by rw [h.co]; decide)).trans h.co, am := ?_, ao := (he _ (by rw [h.ao]; decide)).trans h.ao, an := ?_, tr := by simpa using hR, tw := fun k e => ?_, tn := ?_
             hq := h.hq.same (hk _ (Or.inl h.ho)), ho := (he _ (by rw [h.ho]; decide)).trans h.ho, hn := h.hn, hr := fun x hx => ⟨(h.hr x hx).1, row_keep (h.hr x hx).2 (fun k e => hk k (Or.inr (by rw [h.hro x hx k e]; omega)))⟩, hro := fun x hx k e => (he k (by rw [h.hro x hx k e]; omega)).trans (h.hro x hx k e), lt := fun b hb => ?_ }
    · have := (h.lt k (by omega)).1
      omega
    · dsimp only
      rw [← alF_set _ _ _ h0 hl]
      exact hM
    · have := h.an
      dsimp only
      omega
    · rcases ht k e with cc | cc
      · exact (he k (by rw [cc]; decide)).trans cc
      · show (if _ then _ else _) = _
        rw [if_pos cc, if_pos e]
    · have := h.tn
      simp only [List.length_append, List.length_singleton]
      omega
    · split at hb
      · rename_i hw
        split at hb
        · rename_i e
          exact ⟨by omega, (row_lt hR b e).2⟩
        · exact absurd rfl hb
      · exact ⟨(h.lt b hb).1, Nat.lt_of_lt_of_le (h.lt b hb).2 fr.size⟩
  · rw [if_pos hb] at ho ⊢
    split at ho
    · rename_i e
      rw [if_pos e]
    · exact absurd rfl ho
end

end Go.Proofs.YtogknhogphkddaaGreat
