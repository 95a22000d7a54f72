/- Nothing comes twice: lists alone; the looks of SideOnce. -/
import Derived.Test.YthlfgddhkffilabSw1
namespace Go.Proofs.Ythlfgddhkffilab
open Go.RowKit W Kp Stl

/-- What comes of an entry of a dead thing, where what is kept has the word that it had. -/
def lkO (L : Pairs) (N : Nat) (s : List Int × List En) (e : En) : Bool × (List Int × List En) :=
  if s.1.contains e.1 then (true, (dfs L N s.1 e.2, s.2 ++ [e])) else (false, s)

theorem fold_passO (L : Pairs) (N : Nat) : ∀ (l : List En) (Y D : List En) (A : List Int) (Q : List En),
    l.foldl (pstep (lkO L N)) (Y, D, (A, Q)) = (Y ++ (pass isC (kpD L N) l A [] []).2.1, D ++ (pass isC (kpD L N) l A [] []).2.2, ((pass isC (kpD L N) l A [] []).1, Q ++ (pass isC (kpD L N) l A [] []).2.1))
  | [], Y, D, A, Q => by simp [pass]
  | e :: r, Y, D, A, Q => by
    rw [List.foldl_cons]
    unfold pass
    cases hc : isC A e.1
    · have e1 : pstep (lkO L N) (Y, D, (A, Q)) e = (Y, D ++ [e], (A, Q)) := by
        have : A.contains e.1 = false := hc
        simp only [pstep, lkO, this]
        rfl
      rw [e1, fold_passO L N r _ _ _ _, if_neg (by simp), pass_acc isC (kpD L N) r A [] ([] ++ [e])]
      simp
    · have e1 : pstep (lkO L N) (Y, D, (A, Q)) e = (Y ++ [e], D, (dfs L N A e.2, Q ++ [e])) := by
        have : A.contains e.1 = true := hc
        simp only [pstep, lkO, this]
        rfl
      rw [e1, fold_passO L N r _ _ _ _, if_pos rfl, pass_acc isC (kpD L N) r (kpD L N A e.2) ([] ++ [e]) []]
      simp [kpD]
theorem pts_passO (L : Pairs) (N : Nat) (l : List En) (A : List Int) (Q : List En) : pts (lkO L N) (A, Q) l = ((pass isC (kpD L N) l A [] []).2.1, (pass isC (kpD L N) l A [] []).2.2, ((pass isC (kpD L N) l A [] []).1, Q ++ (pass isC (kpD L N) l A [] []).2.1)) := by
  have := fold_passO L N l [] [] A Q
  simpa [pts] using this
theorem trn_turnsO (L : Pairs) (N : Nat) : ∀ (n : Nat) (d : List En) (A : List Int) (Q : List En), trn (lkO L N) n (A, Q) d = (((turns isC (kpD L N) n d A []).1, Q ++ (turns isC (kpD L N) n d A []).2.1), (turns isC (kpD L N) n d A []).2.2)
  | 0, d, A, Q => by simp [trn, turns]
  | n + 1, d, A, Q => by
    have hp := pts_passO L N d A Q
    by_cases hz : (pass isC (kpD L N) d A [] []).2.1.length = 0
    · rw [trn_stop _ _ _ _ (by rw [hp]; exact hz), turns_stop (by simpa using hz), hp]
    · rw [trn_go _ _ _ _ (by rw [hp]; exact hz), turns_go (by simpa using hz), hp]
      dsimp only
      rw [trn_turnsO L N n _ _ _, turns_acc isC (kpD L N) n _ _ ((pass isC (kpD L N) d A [] []).2.1)]
      simp

theorem map_same (l : List En) : l.map (fun e => (e.1, e.2)) = l := List.map_id'' (fun _ => rfl) l

section
variable {c bw p : Nat} {L : Pairs} {E : List Int} {vr : Value}

/-- The looks of SideOnce. -/
abbrev oIs (s : List Int × List En) (x : Int) : Bool := s.1.contains x
abbrev oKp (L : Pairs) (s : List Int × List En) (x : Int) : Int × (List Int × List En) := (x, (dfs L (L.length + 1) s.1 x, s.2))
abbrev oNw (_ : List Int × List En) (x : Int) : Int := x

theorem cm_lkO : cm (mkSd (wdOb c bw L E) p vr) oIs (oKp L) = lkO L (L.length + 1) := by
  funext s e
  unfold cm lkO
  split <;> rfl
theorem so_S {A : List Int} {q r : List En} : stS (mkSd (wdOb c bw L E) p vr) oIs (oKp L) (A, q) r = ((tD L (L.length + 1) A r).1, q ++ (tD L (L.length + 1) A r).2.1) := by
  unfold stS
  rw [cm_lkO, trn_turnsO L (L.length + 1) _ _ A q]
  rfl
theorem so_R {A : List Int} {q r : List En} : stR (mkSd (wdOb c bw L E) p vr) oIs (oKp L) oNw (A, q) r = r.filter (fun e => (tD L (L.length + 1) A r).1.contains e.1 && A.contains e.2) := by
  unfold stR
  rw [so_S, List.filter_filter]
  exact map_same _
theorem so_Q {A : List Int} {q r : List En} : stQ (mkSd (wdOb c bw L E) p vr) oIs (oKp L) oNw (A, q) r = (q ++ (tD L (L.length + 1) A r).2.1).filter (fun e => (tD L (L.length + 1) A r).1.contains e.1) := by
  unfold stQ
  rw [so_S]
  exact map_same _
end

/-- What was alive stays so. -/
theorem tD_old (L : Pairs) (A : List Int) (r : List En) : ∀ y ∈ A, y ∈ (tD L (L.length + 1) A r).1 := by
  unfold tD
  refine turns_inv (is := isC) (kp := kpD L (L.length + 1)) (fun B => ∀ y ∈ A, y ∈ B) (fun s x h y hy => ?_) _ _ A [] (fun _ h => h)
  have m1 := mu_len L s
  exact (dfs_kept L (L.length + 1) s x (by omega)).old y (h y hy)

theorem so_R_alive {L : Pairs} {A : List Int} {r : List En} {e : En} (h : e ∈ r.filter (fun e => (tD L (L.length + 1) A r).1.contains e.1 && A.contains e.2)) : (tD L (L.length + 1) A r).1.contains e.1 = true ∧ (tD L (L.length + 1) A r).1.contains e.2 = true := by
  have := (List.mem_filter.1 h).2
  rw [Bool.and_eq_true] at this
  exact ⟨this.1, List.contains_iff_mem.2 (tD_old L A r e.2 (List.contains_iff_mem.1 this.2))⟩
theorem so_R_count (p : En → Bool) (r : List En) (e : En) : (r.filter p).count e ≤ r.count e := (List.filter_sublist (p := p)).count_le e
theorem part_count (p : En → Bool) : ∀ (r : List En) (e : En), (r.filter p).count e + (r.filter (fun x => !p x)).count e = r.count e
  | [], e => by simp
  | x :: r, e => by
    have ih := part_count p r e
    cases h : p x
    · rw [List.filter_cons_of_neg (by simp [h]), List.filter_cons_of_pos (by simp [h]), List.count_cons, List.count_cons]
      omega
    · rw [List.filter_cons_of_pos (by simp [h]), List.filter_cons_of_neg (by simp [h]), List.count_cons, List.count_cons]
      omega
theorem so_Q_count (L : Pairs) (A : List Int) (r q : List En) (e : En) : ((q ++ (tD L (L.length + 1) A r).2.1).filter (fun e => (tD L (L.length + 1) A r).1.contains e.1)).count e + (r.filter (fun e => (tD L (L.length + 1) A r).1.contains e.1 && A.contains e.2)).count e ≤ r.count e + q.count e := by
  have h1 := so_R_count (fun e => (tD L (L.length + 1) A r).1.contains e.1) (q ++ (tD L (L.length + 1) A r).2.1) e
  rw [List.count_append] at h1
  have h2 := turns_count (is := isC) (kp := kpD L (L.length + 1)) e ((r.filter (fun e => !A.contains e.2)).length + 1) (r.filter (fun e => !A.contains e.2)) A []
  have h3 : (tD L (L.length + 1) A r).2.1.count e + (tD L (L.length + 1) A r).2.2.count e = ([] : List En).count e + (r.filter (fun e => !A.contains e.2)).count e := h2
  have h4 := part_count (fun e => A.contains e.2) r e
  have h5 := so_R_count (fun e => (tD L (L.length + 1) A r).1.contains e.1) (r.filter (fun e => A.contains e.2)) e
  rw [List.filter_filter] at h5
  rw [List.count_nil, Nat.zero_add] at h3
  omega
theorem so_len (L : Pairs) (A : List Int) (r q : List En) : (r.filter (fun e => (tD L (L.length + 1) A r).1.contains e.1 && A.contains e.2)).length + ((q ++ (tD L (L.length + 1) A r).2.1).filter (fun e => (tD L (L.length + 1) A r).1.contains e.1)).length ≤ r.length + q.length := by
  have h1 := List.length_filter_le (fun e : En => (tD L (L.length + 1) A r).1.contains e.1) (q ++ (tD L (L.length + 1) A r).2.1)
  rw [List.length_append] at h1
  have h2 := turns_len (is := isC) (kp := kpD L (L.length + 1)) ((r.filter (fun e => !A.contains e.2)).length + 1) (r.filter (fun e => !A.contains e.2)) A []
  have h3 : (tD L (L.length + 1) A r).2.1.length + (tD L (L.length + 1) A r).2.2.length = ([] : List En).length + (r.filter (fun e => !A.contains e.2)).length := h2
  have h5 := List.length_filter_le (fun e : En => (tD L (L.length + 1) A r).1.contains e.1) (r.filter (fun e => A.contains e.2))
  rw [List.filter_filter] at h5
  have h6 : ∀ l : List En, (l.filter (fun e => A.contains e.2)).length + (l.filter (fun e => !A.contains e.2)).length = l.length := by
    intro l
    induction l with
    | nil => rfl
    | cons x l ih =>
      cases h : A.contains x.2
      · simp only [List.filter_cons, h]
        simp at ih ⊢
        omega
      · simp only [List.filter_cons, h]
        simp at ih ⊢
        omega
  have h4 := h6 r
  rw [List.length_nil, Nat.zero_add] at h3
  omega

end Go.Proofs.Ythlfgddhkffilab
