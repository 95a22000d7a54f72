/- Two walks that go side by side tell the same: lists alone. -/
import Derived.Test.YtakofbkmhmcnfabGreatJ00
namespace Go.Proofs.YtakofbkmhmcnfabGreat
open W

/-- Word by word. -/
def Wls (WR : Int → Int → Prop) : List Int → List Int → Prop
  | [], [] => True
  | x :: l, x' :: l' => WR x x' ∧ Wls WR l l'
  | _, _ => False

theorem Wls.of {WR : Int → Int → Prop} : ∀ {l l' : List Int}, l.length = l'.length → (∀ i, i < l.length → WR (l.getD i 0) (l'.getD i 0)) → Wls WR l l'
  | [], [], _, _ => trivial
  | [], x' :: l', h, _ => by simp at h
  | x :: l, [], h, _ => by simp at h
  | x :: l, x' :: l', h, hi => ⟨by simpa using hi 0 (by simp), Wls.of (by simpa using h) (fun i d => by
    have := hi (i + 1) (by simpa using d)
    simpa using this)⟩

/-- A word, and the word that leads to where that thing is now. -/
def Wmv (R : Int → Prop) (f : Int → Int) (x x' : Int) : Prop := (dk x = 3 ∧ dk x' = 3 ∧ R (dn x) ∧ dn x' = f (dn x)) ∨ (dk x ≠ 3 ∧ dk x' = dk x ∧ dn x' = dn x)

/-- Things, and where they are now. -/
structure Bi (R : Int → Prop) (f : Int → Int) (T : List Int) (kd : Int → Int) (sh : Int → List Int) (T' : List Int) (kd' : Int → Int) (sh' : Int → List Int) : Prop where
  rT : ∀ a, R a → a ∈ T
  rT' : ∀ a, R a → f a ∈ T'
  inj : ∀ a b, R a → R b → f a = f b → a = b
  kd : ∀ a, R a → kd' (f a) = kd a
  sh : ∀ a, R a → Wls (Wmv R f) (sh a) (sh' (f a))

/-- States of two walks. -/
structure Bs (R : Int → Prop) (f : Int → Int) (T T' : List Int) (s s' : Vst) : Prop where
  ok : VOk T s
  ok' : VOk T' s'
  ms : s'.1 = s.1.map f
  nd : s'.2 = s.2
  rs : ∀ a ∈ s.1, R a

section
variable {R : Int → Prop} {f : Int → Int} {T T' : List Int} {kd kd' : Int → Int} {sh sh' : Int → List Int}

theorem idx_map (inj : ∀ a b, R a → R b → f a = f b → a = b) {d : Int} (hd : R d) : ∀ l : List Int, (∀ a ∈ l, R a) → (l.map f).idxOf (f d) = l.idxOf d
  | [], _ => rfl
  | x :: l, h => by
    rw [List.map_cons, List.idxOf_cons, List.idxOf_cons, idx_map inj hd l (fun a ha => h a (List.mem_cons_of_mem _ ha))]
    by_cases e : x = d
    · rw [e, beq_self_eq_true, beq_self_eq_true]
    · have e2 : f x ≠ f d := fun c => e (inj x d (h x List.mem_cons_self) hd c)
      rw [beq_false_of_ne e, beq_false_of_ne e2]
theorem mem_mapf (inj : ∀ a b, R a → R b → f a = f b → a = b) {d : Int} (hd : R d) {l : List Int} (h : ∀ a ∈ l, R a) : f d ∈ l.map f ↔ d ∈ l := by
  refine ⟨fun c => ?_, fun c => List.mem_map_of_mem c⟩
  obtain ⟨x, h1, h2⟩ := List.mem_map.1 c
  rw [← inj x d (h x h1) hd h2]
  exact h1

/-- What two walks make of a thing that is met. -/
def Bmet (R : Int → Prop) (f : Int → Int) (T T' : List Int) (n n' : Nat) (M M' : Vst → Int → Vst) : Prop :=
  ∀ s s' a, Bs R f T T' s s' → R a → a ∉ s.1 → T.length ≤ s.1.length + n → T'.length ≤ s'.1.length + n' → Bs R f T T' (M s a) (M' s' (f a))

theorem vst_bi (B : Bi R f T kd sh T' kd' sh') {n n' : Nat} {M M' : Vst → Int → Vst} (hM : Bmet R f T T' n n' M M') {s s' : Vst} (h : Bs R f T T' s s') (hn : T.length ≤ s.1.length + n) (hn' : T'.length ≤ s'.1.length + n') {x x' : Int} (hx : Wmv R f x x') :
    (vst M T s x).1 = (vst M' T' s' x').1 ∧ Bs R f T T' (vst M T s x).2 (vst M' T' s' x').2 := by
  unfold vst
  rcases hx with ⟨d1, d2, d3, d4⟩ | ⟨d1, d2, d3⟩
  · rw [if_pos d1, if_pos d2, if_pos (List.contains_iff_mem.2 (B.rT _ d3)), d4, if_pos (List.contains_iff_mem.2 (B.rT' _ d3))]
    have hm := mem_mapf B.inj d3 h.rs
    rw [← h.ms] at hm
    by_cases c : dn x ∈ s.1
    · rw [if_pos (List.contains_iff_mem.2 c), if_pos (List.contains_iff_mem.2 (hm.2 c))]
      refine ⟨?_, h⟩
      dsimp only
      rw [h.ms, idx_map B.inj d3 s.1 h.rs]
    · rw [if_neg (fun e => c (List.contains_iff_mem.1 e)), if_neg (fun e => c (hm.1 (List.contains_iff_mem.1 e)))]
      refine ⟨?_, hM s s' (dn x) h d3 c hn hn'⟩
      dsimp only
      rw [h.ms, List.length_map]
  · rw [if_neg d1, if_neg (by rw [d2]; exact d1), d2, d3]
    exact ⟨rfl, h⟩
theorem vls_bi (B : Bi R f T kd sh T' kd' sh') {n n' : Nat} {M M' : Vst → Int → Vst} (hV : Vmet T kd sh n M) (hV' : Vmet T' kd' sh' n' M') (hM : Bmet R f T T' n n' M M') : ∀ (l l' : List Int) (r r' : List (Int × Int) × Vst), Wls (Wmv R f) l l' → r.1 = r'.1 → Bs R f T T' r.2 r'.2 → T.length ≤ r.2.1.length + n → T'.length ≤ r'.2.1.length + n' →
    (l.foldl (fun r x => (r.1 ++ [(vst M T r.2 x).1], (vst M T r.2 x).2)) r).1 = (l'.foldl (fun r x => (r.1 ++ [(vst M' T' r.2 x).1], (vst M' T' r.2 x).2)) r').1 ∧ Bs R f T T' (l.foldl (fun r x => (r.1 ++ [(vst M T r.2 x).1], (vst M T r.2 x).2)) r).2 (l'.foldl (fun r x => (r.1 ++ [(vst M' T' r.2 x).1], (vst M' T' r.2 x).2)) r').2
  | [], [], r, r', _, e, h, _, _ => ⟨e, h⟩
  | [], x' :: l', r, r', hw, _, _, _, _ => absurd hw (by simp [Wls])
  | x :: l, [], r, r', hw, _, _, _, _ => absurd hw (by simp [Wls])
  | x :: l, x' :: l', r, r', hw, e, h, hn, hn' => by
    obtain ⟨w1, w2⟩ := hw
    obtain ⟨e1, e2⟩ := vst_bi B hM h hn hn' w1
    have g1 := (vst_go hV h.ok hn x).le
    have g2 := (vst_go hV' h.ok' hn' x').le
    rw [List.foldl_cons, List.foldl_cons]
    exact vls_bi B hV hV' hM l l' _ _ w2 (by dsimp only; rw [e, e1]) e2 (by dsimp only; omega) (by dsimp only; omega)

theorem met_bi (B : Bi R f T kd sh T' kd' sh') : ∀ n n' : Nat, Bmet R f T T' n n' (met T kd sh n) (met T' kd' sh' n')
  | 0, _ => fun s s' a h ha hna hn _ => by
    have := h.ok.lt (B.rT a ha) hna
    omega
  | n + 1, 0 => fun s s' a h ha hna _ hn' => by
    have := h.ok'.lt (B.rT' a ha) (fun c => hna ((mem_mapf B.inj ha h.rs).1 (by rw [← h.ms]; exact c)))
    omega
  | n + 1, n' + 1 => fun s s' a h ha hna hn hn' => by
    have hna' : f a ∉ s'.1 := fun c => hna ((mem_mapf B.inj ha h.rs).1 (by rw [← h.ms]; exact c))
    have o1 := (met_go (kd := kd) (sh := sh) (n + 1) s a h.ok (B.rT a ha) hna hn).ok
    have o2 := (met_go (kd := kd') (sh := sh') (n' + 1) s' (f a) h.ok' (B.rT' a ha) hna' hn').ok
    have h1 : Bs R f T T' (s.1 ++ [a], s.2 ++ [(kd a, [])]) (s'.1 ++ [f a], s'.2 ++ [(kd' (f a), [])]) := ⟨h.ok.more (B.rT a ha) hna _, h.ok'.more (B.rT' a ha) hna' _, by dsimp only; rw [h.ms]; simp, by dsimp only; rw [h.nd, B.kd a ha], fun c hc => by
      rcases List.mem_append.1 hc with d | d
      · exact h.rs c d
      · rw [List.mem_singleton] at d
        rw [d]
        exact ha⟩
    obtain ⟨e1, e2⟩ := vls_bi B (met_go n) (met_go n') (met_bi B n n') (sh a) (sh' (f a)) ([], (s.1 ++ [a], s.2 ++ [(kd a, [])])) ([], (s'.1 ++ [f a], s'.2 ++ [(kd' (f a), [])])) (B.sh a ha) rfl h1 (by simp; omega) (by simp; omega)
    refine ⟨o1, o2, e2.ms, ?_, e2.rs⟩
    have e3 := e2.nd
    show (vls (met T' kd' sh' n') T' (s'.1 ++ [f a], s'.2 ++ [(kd' (f a), [])]) (sh' (f a))).2.2.set s'.1.length (kd' (f a), (vls (met T' kd' sh' n') T' (s'.1 ++ [f a], s'.2 ++ [(kd' (f a), [])]) (sh' (f a))).1) = (vls (met T kd sh n) T (s.1 ++ [a], s.2 ++ [(kd a, [])]) (sh a)).2.2.set s.1.length (kd a, (vls (met T kd sh n) T (s.1 ++ [a], s.2 ++ [(kd a, [])]) (sh a)).1)
    have e1 : (vls (met T kd sh n) T (s.1 ++ [a], s.2 ++ [(kd a, [])]) (sh a)).1 = (vls (met T' kd' sh' n') T' (s'.1 ++ [f a], s'.2 ++ [(kd' (f a), [])]) (sh' (f a))).1 := e1
    have e3 : (vls (met T' kd' sh' n') T' (s'.1 ++ [f a], s'.2 ++ [(kd' (f a), [])]) (sh' (f a))).2.2 = (vls (met T kd sh n) T (s.1 ++ [a], s.2 ++ [(kd a, [])]) (sh a)).2.2 := e3
    rw [e3, ← e1, B.kd a ha, h.ms, List.length_map]

/-- Two walks from roots that lead to the same. -/
theorem walk_bi (B : Bi R f T kd sh T' kd' sh') {l l' : List Int} (hl : Wls (Wmv R f) l l') {n n' : Nat} (hn : T.length ≤ n) (hn' : T'.length ≤ n') : (vls (met T kd sh n) T ([], []) l).1 = (vls (met T' kd' sh' n') T' ([], []) l').1 ∧ (vls (met T' kd' sh' n') T' ([], []) l').2.2 = (vls (met T kd sh n) T ([], []) l).2.2 ∧ (vls (met T' kd' sh' n') T' ([], []) l').2.1 = (vls (met T kd sh n) T ([], []) l).2.1.map f := by
  obtain ⟨e1, e2⟩ := vls_bi B (met_go n) (met_go n') (met_bi B n n') l l' ([], ([], [])) ([], ([], [])) hl rfl ⟨VOk.start T, VOk.start T', rfl, rfl, fun a ha => by cases ha⟩ (by simpa using hn) (by simpa using hn')
  exact ⟨e1, e2.nd, e2.ms⟩
end

end Go.Proofs.YtakofbkmhmcnfabGreat
