/- Settle over a set of words comes to the document's answer: lists alone. -/
import Derived.Test.YtjleaikdinepbaaSw1
import Derived.Test.YtjleaikdinepbaaSm6
namespace Go.Proofs.Ytjleaikdinepbaa
open Go.RowKit W Kp Stl

/-- How many more: both words. -/
def up (e : En) : En := (e.1 + 1000, e.2 + 1000)

theorem same_contains {A B : List Int} (h : ∀ y, y ∈ A ↔ y ∈ B) (x : Int) : A.contains x = B.contains x := by
  cases hb : B.contains x
  · cases ha : A.contains x
    · rfl
    · rw [List.contains_iff_mem] at ha
      rw [List.contains_iff_mem.2 ((h x).1 ha)] at hb
      cases hb
  · rw [List.contains_iff_mem] at hb ⊢
    exact (h x).2 hb

/-- Deep first, or by a list: the same comes of entries. -/
theorem tD_tf (L : Pairs) (A : List Int) (r : List En) : (∀ y, y ∈ (tD L (L.length + 1) A r).1 ↔ y ∈ (tf L A r).1) ∧ (tD L (L.length + 1) A r).2 = (tf L A r).2 := by
  unfold tD tf
  rw [turns_more (r.length + 1) ((r.filter (fun e => !A.contains e.2)).length + 1) _ _ _ (by have := List.length_filter_le (fun e => !A.contains e.2) r; omega) (by omega)]
  refine turns_sim (is := isC) (kp := kpD L (L.length + 1)) (is' := isL) (kp' := kpL L) (fun A B => ∀ y, y ∈ A ↔ y ∈ B) (fun s t x h => same_contains h x) (fun s t x h y => ?_) _ _ A A [] (fun _ => Iff.rfl)
  have m1 := mu_len L s
  have m2 := mu_len L t
  exact (dfs_kept L (L.length + 1) s x (by omega)).same (bfs_kept L (L.length + 2) t x (by omega)) h y

section
variable {c bw p : Nat} {L : Pairs} {E : List Int} {vr : Value}

/-- The looks of SideSettles. -/
abbrev sIs (s : List Int × List En) (x : Int) : Bool := isW s.1 x
abbrev sKp (L : Pairs) (s : List Int × List En) (x : Int) : Int × (List Int × List En) := (w1k x, (dfs L (L.length + 1) s.1 x, s.2))
abbrev sNw (_ : List Int × List En) (x : Int) : Int := nwW x

theorem cm_lkW : cm (mkSd (wdOb c bw L E) p vr) sIs (sKp L) = lkW L (L.length + 1) := by
  funext s e
  unfold cm lkW
  split <;> rfl

theorem filt_in {A : List Int} {r : List En} (h : Smw r) : r.filter (fun e => !isW A e.2) = r.filter (fun e => !A.contains e.2) ∧ r.filter (fun e => isW A e.2) = r.filter (fun e => A.contains e.2) := by
  constructor
  · exact List.filter_congr (fun e he => by rw [isW_in (h e he).2.2.2])
  · exact List.filter_congr (fun e he => by rw [isW_in (h e he).2.2.2])

theorem st_S {A : List Int} {q r : List En} (hr : Smw r) : stS (mkSd (wdOb c bw L E) p vr) sIs (sKp L) (A, q) r = ((tD L (L.length + 1) A r).1, q ++ ((tD L (L.length + 1) A r).2.1).map kept) := by
  unfold stS
  rw [cm_lkW, show r.filter (fun e => !sIs (A, q) e.2) = r.filter (fun e => !A.contains e.2) from (filt_in hr).1, trn_turns L (L.length + 1) _ _ A q (fun e he => hr e (List.mem_filter.1 he).1)]
  rfl

theorem st_R {A : List Int} {q r : List En} (hr : Smw r) : stR (mkSd (wdOb c bw L E) p vr) sIs (sKp L) sNw (A, q) r = (r.filter (fun e => A.contains e.2 && (tf L A r).1.contains e.1)).map up := by
  unfold stR
  rw [st_S hr, show r.filter (fun e => sIs (A, q) e.2) = r.filter (fun e => A.contains e.2) from (filt_in hr).2, List.filter_filter]
  have e1 : r.filter (fun e => sIs ((tD L (L.length + 1) A r).1, q ++ ((tD L (L.length + 1) A r).2.1).map kept) e.1 && A.contains e.2) = r.filter (fun e => A.contains e.2 && (tf L A r).1.contains e.1) := by
    refine List.filter_congr (fun e he => ?_)
    show (isW (tD L (L.length + 1) A r).1 e.1 && A.contains e.2) = _
    rw [isW_in (hr e he).2.1, same_contains (tD_tf L A r).1, Bool.and_comm]
  rw [e1]
  refine List.map_congr_left (fun e he => ?_)
  have hs := hr e (List.mem_filter.1 he).1
  show (nwW e.1, nwW e.2) = up e
  rw [nwW_in hs.1 hs.2.1, nwW_in hs.2.2.1 hs.2.2.2]
  rfl

theorem tD_small {A : List Int} {r : List En} (hr : Smw r) : Smw (tD L (L.length + 1) A r).2.1 := fun e he =>
  hr e (List.mem_filter.1 (turns_sub isC (kpD L (L.length + 1)) _ _ A e (Or.inl he))).1

theorem st_Q {A : List Int} {q r : List En} (hr : Smw r) (hq : Smw q) : stQ (mkSd (wdOb c bw L E) p vr) sIs (sKp L) sNw (A, q) r = (q.filter (fun e => (tf L A r).1.contains e.1) ++ (tf L A r).2.1.filter (fun e => (tf L A r).1.contains e.1)).map up := by
  unfold stQ
  rw [st_S hr]
  have hC : (tf L A r).2.1 = (tD L (L.length + 1) A r).2.1 := by rw [(tD_tf L A r).2]
  have hCs := tD_small (L := L) (A := A) hr
  rw [hC]
  generalize hT : (tD L (L.length + 1) A r).2.1 = C at hCs
  show ((q ++ C.map kept).filter (fun e => isW (tD L (L.length + 1) A r).1 e.1)).map (fun e => (nwW e.1, nwW e.2)) = _
  rw [List.filter_append, List.map_append, List.map_append]
  congr 1
  · have e1 : q.filter (fun e => isW (tD L (L.length + 1) A r).1 e.1) = q.filter (fun e => (tf L A r).1.contains e.1) := List.filter_congr (fun e he => by rw [isW_in (hq e he).2.1, same_contains (tD_tf L A r).1])
    rw [e1]
    refine List.map_congr_left (fun e he => ?_)
    have hs := hq e (List.mem_filter.1 he).1
    rw [nwW_in hs.1 hs.2.1, nwW_in hs.2.2.1 hs.2.2.2]
    rfl
  · rw [List.filter_map, List.map_map]
    have e1 : C.filter ((fun e => isW (tD L (L.length + 1) A r).1 e.1) ∘ kept) = C.filter (fun e => (tf L A r).1.contains e.1) := List.filter_congr (fun e he => by
      show isW (tD L (L.length + 1) A r).1 e.1 = _
      rw [isW_in (hCs e he).2.1, same_contains (tD_tf L A r).1])
    rw [e1]
    refine List.map_congr_left (fun e he => ?_)
    have hs := hCs e (List.mem_filter.1 he).1
    show (nwW e.1, nwW (w1k e.2)) = up e
    rw [nwW_in hs.1 hs.2.1, nwW_kept hs.2.2.1 hs.2.2.2]
    rfl

/-- The words that are asked, and what they come to. -/
def words2 (r q : List En) : List Int := (r ++ q).flatMap fun e => [e.1, e.2, w1k e.2]
theorem words2_len (r q : List En) : (words2 r q).length = 3 * (r.length + q.length) := by
  have key : ∀ l : List En, (l.flatMap fun e => [e.1, e.2, w1k e.2]).length = 3 * l.length := by
    intro l
    induction l with
    | nil => rfl
    | cons e l ih =>
      rw [List.flatMap_cons, List.length_append, ih]
      simp
      omega
  unfold words2
  rw [key, List.length_append]
theorem words2_mem {r q : List En} {e : En} (h : e ∈ r ∨ e ∈ q) : e.1 ∈ words2 r q ∧ e.2 ∈ words2 r q ∧ w1k e.2 ∈ words2 r q := by
  unfold words2
  simp only [List.mem_flatMap, List.mem_append]
  exact ⟨⟨e, h, by simp⟩, ⟨e, h, by simp⟩, ⟨e, h, by simp⟩⟩

theorem st_W {A : List Int} {q r : List En} (hr : Smw r) : ∀ e ∈ (mkSd (wdOb c bw L E) p vr).wt (stS (mkSd (wdOb c bw L E) p vr) sIs (sKp L) (A, q) r), e.1 ∈ words2 r q ∧ e.2 ∈ words2 r q := by
  rw [st_S hr]
  intro e he
  have he : e ∈ q ++ ((tD L (L.length + 1) A r).2.1).map kept := he
  rcases List.mem_append.1 he with he | he
  · exact ⟨(words2_mem (Or.inr he)).1, (words2_mem (Or.inr he)).2.1⟩
  · obtain ⟨x, hx, rfl⟩ := List.mem_map.1 he
    have hx' : x ∈ r := (List.mem_filter.1 (turns_sub isC (kpD L (L.length + 1)) _ _ A x (Or.inl hx))).1
    exact ⟨(words2_mem (Or.inl hx')).1, (words2_mem (Or.inl hx')).2.2⟩

end

end Go.Proofs.Ytjleaikdinepbaa
