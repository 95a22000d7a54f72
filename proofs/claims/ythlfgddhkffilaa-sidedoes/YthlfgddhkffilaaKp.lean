/- What is kept alive: of words that are alive, a word, and pairs of words (from, to), the least that holds all of them, and what a new one leads to; by looking deep first, and by a list of what is still to be done. Lists and numbers alone. -/
import Derived.Test.YthlfgddhkffilaaMath
namespace Go.Proofs.Ythlfgddhkffilaa.Kp

abbrev Pairs := List (Int × Int)

/-- Whatever of it is new has all that it leads to in it. -/
def Closed (L : Pairs) (A T : List Int) : Prop := ∀ y ∈ T, y ∉ A → ∀ e ∈ L, e.1 = y → e.2 ∈ T
/-- What is kept: the least that holds what was alive, and the word, and is closed. -/
structure Kept (L : Pairs) (A : List Int) (x : Int) (R : List Int) : Prop where
  old : ∀ y ∈ A, y ∈ R
  has : x ∈ R
  closed : Closed L A R
  least : ∀ T, (∀ y ∈ A, y ∈ T) → x ∈ T → Closed L A T → ∀ y ∈ R, y ∈ T

/-- It hangs on what is alive as a set alone, and there is one. -/
theorem Kept.same {L : Pairs} {A B : List Int} {x : Int} {R Q : List Int} (h : Kept L A x R) (k : Kept L B x Q) (e : ∀ y, y ∈ A ↔ y ∈ B) (y : Int) : y ∈ R ↔ y ∈ Q := by
  constructor
  · exact h.least Q (fun y hy => k.old y ((e y).1 hy)) k.has (fun y hy hn => k.closed y hy (fun hb => hn ((e y).2 hb))) y
  · exact k.least R (fun y hy => h.old y ((e y).2 hy)) h.has (fun y hy hn => h.closed y hy (fun hb => hn ((e y).1 hb))) y

/-- How many pairs lead from what is not alive. -/
def mu (L : Pairs) (A : List Int) : Nat := (L.filter (fun e => !A.contains e.1)).length

theorem mu_mono (L : Pairs) {A B : List Int} (h : ∀ y ∈ A, y ∈ B) : mu L B ≤ mu L A := by
  unfold mu
  induction L with
  | nil => simp
  | cons e r ih =>
    by_cases c : e.1 ∈ B
    · have c1 : (!B.contains e.1) = false := by simpa using c
      rw [List.filter_cons, c1]
      refine Nat.le_trans ih ?_
      rw [List.filter_cons]
      split <;> simp
    · have c1 : (!B.contains e.1) = true := by simpa using c
      have c2 : (!A.contains e.1) = true := by
        have : e.1 ∉ A := fun h' => c (h _ h')
        simpa using this
      simp only [List.filter_cons, c1, c2, if_true, List.length_cons]
      omega

theorem mu_add (L : Pairs) {A : List Int} {x : Int} (hx : x ∉ A) : mu L (A ++ [x]) + (L.filter (fun e => e.1 == x)).length = mu L A := by
  unfold mu
  induction L with
  | nil => simp
  | cons e r ih =>
    by_cases c : e.1 = x
    · have c1 : (!(A ++ [x]).contains e.1) = false := by simp [c]
      have c2 : (!A.contains e.1) = true := by rw [c]; simpa using hx
      have c3 : (e.1 == x) = true := by simpa using c
      simp only [List.filter_cons, c1, c2, c3, if_true, List.length_cons, Bool.false_eq_true, if_false]
      omega
    · have c3 : (e.1 == x) = false := by simpa using c
      have c1 : (!(A ++ [x]).contains e.1) = (!A.contains e.1) := by simp [c]
      simp only [List.filter_cons, c1, c3, Bool.false_eq_true, if_false]
      cases (!A.contains e.1)
      · simpa using ih
      · simp only [if_true, List.length_cons]
        omega

/-! ### deep first -/
def dfs (L : Pairs) : Nat → List Int → Int → List Int
  | 0, A, _ => A
  | n + 1, A, x => if A.contains x then A else L.foldl (fun B e => if e.1 = x then dfs L n B e.2 else B) (A ++ [x])

/-- What is found of a word's pairs, one behind the other: P were looked at. -/
structure Part (L : Pairs) (A : List Int) (x : Int) (P : Pairs) (R : List Int) : Prop where
  old : ∀ y ∈ A, y ∈ R
  has : x ∈ R
  closed : ∀ y ∈ R, y ∉ A → y ≠ x → ∀ e ∈ L, e.1 = y → e.2 ∈ R
  led : ∀ e ∈ P, e.1 = x → e.2 ∈ R
  least : ∀ T, (∀ y ∈ A, y ∈ T) → x ∈ T → Closed L A T → ∀ y ∈ R, y ∈ T

theorem part_start {L : Pairs} {A : List Int} {x : Int} : Part L A x [] (A ++ [x]) :=
  ⟨fun y hy => by simp [hy], by simp, fun y hy hn hx => by simp at hy; exact absurd hy (by simp [hn, hx]), fun e he => by simp at he, fun T t1 t2 _ y hy => by
    rcases List.mem_append.1 hy with hy | hy
    · exact t1 y hy
    · simp at hy; subst hy; exact t2⟩

theorem part_mu {L : Pairs} {A : List Int} {x : Int} {P : Pairs} {R : List Int} {n : Nat} {q : Int × Int} (h : mu L A < n + 1) (c : x ∉ A) (hR : Part L A x P R) (hq : q ∈ L) (cq : q.1 = x) : mu L R < n := by
  have h1 : mu L R ≤ mu L (A ++ [x]) := mu_mono L (fun y hy => by
    rcases List.mem_append.1 hy with hy | hy
    · exact hR.old y hy
    · simp at hy; subst hy; exact hR.has)
  have h2 := mu_add L c
  have h3 : 0 < (L.filter (fun e => e.1 == x)).length := List.length_pos_of_mem (a := q) (List.mem_filter.2 ⟨hq, by simpa using cq⟩)
  omega

theorem part_step {L : Pairs} {A : List Int} {x : Int} {P : Pairs} {R : List Int} {n : Nat} {q : Int × Int} (ih : ∀ B y, mu L B < n → Kept L B y (dfs L n B y)) (h : mu L A < n + 1) (c : x ∉ A) (hR : Part L A x P R) (hq : q ∈ L) :
    Part L A x (P ++ [q]) (if q.1 = x then dfs L n R q.2 else R) := by
  by_cases cq : q.1 = x
  · rw [if_pos cq]
    have k := ih R q.2 (part_mu h c hR hq cq)
    refine ⟨fun y hy => k.old y (hR.old y hy), k.old x hR.has, fun y hy hn hx e he1 he2 => ?_, fun e he hx => ?_, fun T t1 t2 t3 y hy => ?_⟩
    · by_cases cy : y ∈ R
      · exact k.old _ (hR.closed y cy hn hx e he1 he2)
      · exact k.closed y hy cy e he1 he2
    · rcases List.mem_append.1 he with he | he
      · exact k.old _ (hR.led e he hx)
      · simp at he; subst he; exact k.has
    · exact k.least T (hR.least T t1 t2 t3) (t3 x t2 c q hq cq) (fun z hz hzn => t3 z hz (fun ha => hzn (hR.old z ha))) y hy
  · rw [if_neg cq]
    refine ⟨hR.old, hR.has, hR.closed, fun e he hx => ?_, hR.least⟩
    rcases List.mem_append.1 he with he | he
    · exact hR.led e he hx
    · simp at he; subst he; exact absurd hx cq

/-- What is alive behind so many of a word's pairs. -/
def upto (L : Pairs) (n : Nat) (A : List Int) (x : Int) (j : Nat) : List Int := (L.take j).foldl (fun B e => if e.1 = x then dfs L n B e.2 else B) (A ++ [x])
theorem upto_zero (L : Pairs) (n : Nat) (A : List Int) (x : Int) : upto L n A x 0 = A ++ [x] := by simp [upto]
theorem upto_succ (L : Pairs) (n : Nat) (A : List Int) (x : Int) (j : Nat) (h : j < L.length) : upto L n A x (j + 1) = if (L.getD j (0, 0)).1 = x then dfs L n (upto L n A x j) (L.getD j (0, 0)).2 else upto L n A x j := by
  unfold upto
  rw [List.take_add_one, List.getElem?_eq_getElem h, List.foldl_append]
  simp [List.getElem?_eq_getElem h]
theorem upto_all (L : Pairs) (n : Nat) (A : List Int) (x : Int) (c : x ∉ A) : dfs L (n + 1) A x = upto L n A x L.length := by
  unfold dfs upto
  rw [if_neg (by simpa using c), List.take_length]
theorem dfs_in (L : Pairs) (n : Nat) (A : List Int) (x : Int) (c : x ∈ A) : dfs L (n + 1) A x = A := by
  unfold dfs
  rw [if_pos (by simpa using c)]

theorem upto_part {L : Pairs} {A : List Int} {x : Int} {n : Nat} (ih : ∀ B y, mu L B < n → Kept L B y (dfs L n B y)) (h : mu L A < n + 1) (c : x ∉ A) : ∀ j, j ≤ L.length → Part L A x (L.take j) (upto L n A x j)
  | 0, _ => by rw [upto_zero, List.take_zero]; exact part_start
  | j + 1, hj => by
    have hj' : j < L.length := by omega
    have hd : L.getD j (0, 0) = L[j] := by simp [List.getElem?_eq_getElem hj']
    rw [upto_succ _ _ _ _ _ hj', List.take_add_one, List.getElem?_eq_getElem hj', hd]
    exact part_step ih h c (upto_part ih h c j (by omega)) (List.getElem_mem hj')

theorem dfs_kept (L : Pairs) : ∀ (n : Nat) (A : List Int) (x : Int), mu L A < n → Kept L A x (dfs L n A x)
  | 0, _, _, h => by omega
  | n + 1, A, x, h => by
    by_cases c : x ∈ A
    · rw [dfs_in _ _ _ _ c]
      exact ⟨fun _ h => h, c, fun y hy hn => absurd hy hn, fun T h1 _ _ y hy => h1 y hy⟩
    · rw [upto_all _ _ _ _ c]
      have k := upto_part (dfs_kept L n) h c L.length (Nat.le_refl _)
      rw [List.take_length] at k
      exact ⟨k.old, k.has, fun y hy hn e he hx => by
        by_cases cy : y = x
        · exact k.led e he (hx.trans cy)
        · exact k.closed y hy hn cy e he hx, k.least⟩

/-- How long it comes to be. -/
theorem dfs_len (L : Pairs) : ∀ (n : Nat) (A : List Int) (x : Int), mu L A < n → (dfs L n A x).length + mu L (dfs L n A x) ≤ A.length + mu L A + 1
  | 0, _, _, h => by omega
  | n + 1, A, x, h => by
    by_cases c : x ∈ A
    · rw [dfs_in _ _ _ _ c]; omega
    · rw [upto_all _ _ _ _ c]
      have hm := mu_add L c
      have key : ∀ j, j ≤ L.length → (upto L n A x j).length + mu L (upto L n A x j) + (L.filter (fun e => e.1 == x)).length ≤ A.length + mu L A + 1 + ((L.take j).filter (fun e => e.1 == x)).length := by
        intro j
        induction j with
        | zero => intro _; rw [upto_zero]; simp; omega
        | succ j ihj =>
          intro hj
          have hj' : j < L.length := by omega
          have hd : L.getD j (0, 0) = L[j] := by simp [List.getElem?_eq_getElem hj']
          have hp := upto_part (dfs_kept L n) h c j (by omega)
          have h1 := ihj (by omega)
          rw [upto_succ _ _ _ _ _ hj', List.take_add_one, List.getElem?_eq_getElem hj', hd, List.filter_append, List.length_append]
          by_cases cq : L[j].1 = x
          · rw [if_pos cq]
            have h2 := dfs_len L n (upto L n A x j) L[j].2 (part_mu h c hp (List.getElem_mem hj') cq)
            have e1 : ((some L[j]).toList.filter (fun e => e.1 == x)).length = 1 := by simp [cq]
            omega
          · rw [if_neg cq]
            omega
      have k := key L.length (Nat.le_refl _)
      rw [List.take_length] at k
      omega
theorem upto_len {L : Pairs} {n : Nat} {A : List Int} {x : Int} (h : mu L A < n + 1) (c : x ∉ A) (j : Nat) (hj : j ≤ L.length) : (upto L n A x j).length + mu L (upto L n A x j) ≤ A.length + mu L A + 1 := by
  have hm := mu_add L c
  have key : ∀ j, j ≤ L.length → (upto L n A x j).length + mu L (upto L n A x j) + (L.filter (fun e => e.1 == x)).length ≤ A.length + mu L A + 1 + ((L.take j).filter (fun e => e.1 == x)).length := by
    intro j
    induction j with
    | zero => intro _; rw [upto_zero]; simp; omega
    | succ j ihj =>
      intro hj
      have hj' : j < L.length := by omega
      have hd : L.getD j (0, 0) = L[j] := by simp [List.getElem?_eq_getElem hj']
      have hp := upto_part (dfs_kept L n) h c j (by omega)
      have h1 := ihj (by omega)
      rw [upto_succ _ _ _ _ _ hj', List.take_add_one, List.getElem?_eq_getElem hj', hd, List.filter_append, List.length_append]
      by_cases cq : L[j].1 = x
      · rw [if_pos cq]
        have h2 := dfs_len L n (upto L n A x j) L[j].2 (part_mu h c hp (List.getElem_mem hj') cq)
        have e1 : ((some L[j]).toList.filter (fun e => e.1 == x)).length = 1 := by simp [cq]
        omega
      · rw [if_neg cq]
        omega
  have k := key j hj
  have k2 : ((L.take j).filter (fun e => e.1 == x)).length ≤ (L.filter (fun e => e.1 == x)).length := ((List.take_sublist j L).filter _).length_le
  omega

/-! ### by a list of what is to be done -/
def bfs (L : Pairs) : Nat → List Int → List Int → List Int
  | 0, A, _ => A
  | _ + 1, A, [] => A
  | n + 1, A, x :: t => if A.contains x then bfs L n A t else bfs L n (A ++ [x]) (t ++ (L.filter (fun e => e.1 == x)).map (·.2))

theorem bfs_part (L : Pairs) (A : List Int) (w : Int) : ∀ (n : Nat) (R t : List Int), t.length + mu L R < n → (∀ y ∈ A, y ∈ R) → (w ∈ R ∨ w ∈ t) → (∀ y ∈ R, y ∉ A → ∀ e ∈ L, e.1 = y → e.2 ∈ R ∨ e.2 ∈ t) →
    (∀ T, (∀ y ∈ A, y ∈ T) → w ∈ T → Closed L A T → (∀ y ∈ R, y ∈ T) ∧ ∀ y ∈ t, y ∈ T) → Kept L A w (bfs L n R t)
  | 0, _, _, h, _, _, _, _ => by omega
  | n + 1, R, [], _, h1, h2, h3, h4 => by
    unfold bfs
    exact ⟨h1, h2.elim id (fun h => by simp at h), fun y hy hn e he hx => (h3 y hy hn e he hx).elim id (fun h => by simp at h), fun T t1 t2 t3 => (h4 T t1 t2 t3).1⟩
  | n + 1, R, x :: t, h, h1, h2, h3, h4 => by
    unfold bfs
    rw [List.length_cons] at h
    by_cases c : x ∈ R
    · rw [if_pos (by simpa using c)]
      refine bfs_part L A w n R t (by omega) h1 ?_ (fun y hy hn e he hx => ?_) (fun T t1 t2 t3 => ⟨(h4 T t1 t2 t3).1, fun y hy => (h4 T t1 t2 t3).2 y (by simp [hy])⟩)
      · rcases h2 with h2 | h2
        · exact Or.inl h2
        · rcases List.mem_cons.1 h2 with rfl | h2
          · exact Or.inl c
          · exact Or.inr h2
      · rcases h3 y hy hn e he hx with h5 | h5
        · exact Or.inl h5
        · rcases List.mem_cons.1 h5 with h5 | h5
          · exact Or.inl (by rw [h5]; exact c)
          · exact Or.inr h5
    · rw [if_neg (by simpa using c)]
      have hm := mu_add L c
      refine bfs_part L A w n _ _ (by simp; omega) (fun y hy => by simp [h1 y hy]) ?_ (fun y hy hn e he hx => ?_) (fun T t1 t2 t3 => ?_)
      · rcases h2 with h2 | h2
        · exact Or.inl (by simp [h2])
        · rcases List.mem_cons.1 h2 with rfl | h2
          · exact Or.inl (by simp)
          · exact Or.inr (by simp [h2])
      · rcases List.mem_append.1 hy with hy | hy
        · rcases h3 y hy hn e he hx with h5 | h5
          · exact Or.inl (by simp [h5])
          · rcases List.mem_cons.1 h5 with h5 | h5
            · exact Or.inl (by simp [h5])
            · exact Or.inr (by simp [h5])
        · simp at hy
          subst hy
          exact Or.inr (List.mem_append.2 (Or.inr (List.mem_map.2 ⟨e, List.mem_filter.2 ⟨he, by simpa using hx⟩, rfl⟩)))
      · obtain ⟨k1, k2⟩ := h4 T t1 t2 t3
        have kx := k2 x (by simp)
        refine ⟨fun y hy => ?_, fun y hy => ?_⟩
        · rcases List.mem_append.1 hy with hy | hy
          · exact k1 y hy
          · simp at hy; subst hy; exact kx
        · rcases List.mem_append.1 hy with hy | hy
          · exact k2 y (by simp [hy])
          · obtain ⟨e, he, rfl⟩ := List.mem_map.1 hy
            obtain ⟨he1, he2⟩ := List.mem_filter.1 he
            exact t3 x kx (fun ha => c (h1 x ha)) e he1 (by simpa using he2)

theorem bfs_kept (L : Pairs) (n : Nat) (A : List Int) (w : Int) (h : 1 + mu L A < n) : Kept L A w (bfs L n A [w]) :=
  bfs_part L A w n A [w] (by simpa using h) (fun _ h => h) (Or.inr (by simp)) (fun y hy hn => absurd hy hn) (fun T t1 t2 _ => ⟨t1, fun y hy => by simp at hy; subst hy; exact t2⟩)

/-- How long it comes to be. -/
theorem bfs_len (L : Pairs) : ∀ (n : Nat) (R t : List Int), (bfs L n R t).length + mu L (bfs L n R t) ≤ R.length + mu L R + t.length
  | 0, R, t => by simp [bfs]
  | n + 1, R, [] => by simp [bfs]
  | n + 1, R, x :: t => by
    unfold bfs
    by_cases c : x ∈ R
    · rw [if_pos (by simpa using c)]
      have := bfs_len L n R t
      simp
      omega
    · rw [if_neg (by simpa using c)]
      have h1 := bfs_len L n (R ++ [x]) (t ++ (L.filter (fun e => e.1 == x)).map (·.2))
      have h2 := mu_add L c
      simp at h1 ⊢
      omega
theorem bfs_in (L : Pairs) (n : Nat) (R t : List Int) (x : Int) (c : x ∈ R) : bfs L (n + 1) R (x :: t) = bfs L n R t := by
  rw [bfs, if_pos (by simpa using c)]
theorem bfs_new (L : Pairs) (n : Nat) (R t : List Int) (x : Int) (c : x ∉ R) : bfs L (n + 1) R (x :: t) = bfs L n (R ++ [x]) (t ++ (L.filter (fun e => e.1 == x)).map (·.2)) := by
  rw [bfs, if_neg (by simpa using c)]
theorem bfs_end (L : Pairs) (n : Nat) (R : List Int) : bfs L n R [] = R := by
  cases n <;> rfl

/-- What a word leads to by the first pairs. -/
def ledBy (L : Pairs) (x : Int) (j : Nat) : List Int := ((L.take j).filter (fun e => e.1 == x)).map (·.2)
theorem ledBy_zero (L : Pairs) (x : Int) : ledBy L x 0 = [] := by simp [ledBy]
theorem ledBy_yes (L : Pairs) (x : Int) (j : Nat) (h : j < L.length) (e : (L.getD j (0, 0)).1 = x) : ledBy L x (j + 1) = ledBy L x j ++ [(L.getD j (0, 0)).2] := by
  have hd : L.getD j (0, 0) = L[j] := by simp [List.getElem?_eq_getElem h]
  rw [hd] at e ⊢
  unfold ledBy
  rw [List.take_add_one, List.getElem?_eq_getElem h, List.filter_append, List.map_append]
  simp [e]
theorem ledBy_no (L : Pairs) (x : Int) (j : Nat) (h : j < L.length) (e : ¬ (L.getD j (0, 0)).1 = x) : ledBy L x (j + 1) = ledBy L x j := by
  have hd : L.getD j (0, 0) = L[j] := by simp [List.getElem?_eq_getElem h]
  rw [hd] at e
  unfold ledBy
  rw [List.take_add_one, List.getElem?_eq_getElem h, List.filter_append, List.map_append]
  simp [e]
theorem ledBy_all (L : Pairs) (x : Int) : ledBy L x L.length = (L.filter (fun e => e.1 == x)).map (·.2) := by
  unfold ledBy; rw [List.take_length]
theorem ledBy_len (L : Pairs) (x : Int) (j : Nat) : (ledBy L x j).length ≤ L.length := by
  unfold ledBy
  rw [List.length_map]
  refine Nat.le_trans (List.length_filter_le _ _) ?_
  simp; omega

end Go.Proofs.Ythlfgddhkffilaa.Kp
