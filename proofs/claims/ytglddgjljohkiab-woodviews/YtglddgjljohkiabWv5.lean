/- WoodViews: what it asks of a view, lists alone; its look: a contract. -/
import Derived.Test.YtglddgjljohkiabWv1
import Derived.Test.YtglddgjljohkiabWv4
namespace Go.Proofs.Ytglddgjljohkiab
open Go.RowKit W Kp Stl

/-- Which nodes values lead to. -/
def ldL (n : Nat) (vs : List (Int × Int)) : List Bool := (List.range n).map fun j : Nat => vs.contains (3, (j : Int))
theorem ldL_len (n : Nat) (vs : List (Int × Int)) : (ldL n vs).length = n := by simp [ldL]
theorem ldL_nil (n : Nat) : ldL n [] = List.replicate n false := by
  refine List.ext_getElem (by simp [ldL]) (fun i h1 h2 => ?_)
  simp [ldL]
theorem ldL_get (n : Nat) (vs : List (Int × Int)) (i : Nat) (h : i < n) : (ldL n vs).getD i false = vs.contains (3, (i : Int)) := by
  simp [ldL, List.getElem?_map, List.getElem?_range h]
/-- Behind one more value. -/
def sLd (L : List Bool) (v : Int × Int) : List Bool := if v.1 = 3 then L.set v.2.toNat true else L
theorem ldL_snoc {n : Nat} (vs : List (Int × Int)) (v : Int × Int) (h : Vto n v) : sLd (ldL n vs) v = ldL n (vs ++ [v]) := by
  unfold sLd
  refine List.ext_getElem (by split <;> simp [ldL]) (fun i h1 h2 => ?_)
  have hi : i < n := by simpa [ldL] using h2
  obtain ⟨k, z⟩ := v
  by_cases h3 : k = 3
  · subst h3
    have hz := h rfl
    simp only [if_true]
    rw [List.getElem_set]
    simp only [ldL, List.getElem_map, List.getElem_range]
    by_cases e : z.toNat = i
    · rw [if_pos e]
      have : z = (i : Int) := by
        have := hz.1
        simp at this
        omega
      subst this
      simp
    · rw [if_neg e]
      have hne : ¬ ((i : Int) = z) := by
        have := hz.1
        simp at this
        omega
      rw [Bool.eq_iff_iff]
      simp [hne]
  · simp only [h3, if_false]
    simp only [ldL, List.getElem_map, List.getElem_range]
    rw [Bool.eq_iff_iff]
    simp [Ne.symm h3]

/-- The values of nodes, one behind the other. -/
def flt (ns : List (Int × List (Int × Int))) : List (Int × Int) := ns.flatMap (·.2)
theorem flt_snoc (ns : List (Int × List (Int × Int))) (i : Nat) (h : i < ns.length) : flt (ns.take (i + 1)) = flt (ns.take i) ++ (ns.getD i (0, [])).2 := by
  rw [take_snoc ns i h (0, [])]
  simp [flt]
theorem flt_mem {ns : List (Int × List (Int × Int))} {i j : Nat} {nj : Int × List (Int × Int)} {v : Int × Int} (h : ns[j]? = some nj) (hv : v ∈ nj.2) (hj : j < i) : v ∈ flt (ns.take i) := by
  unfold flt
  rw [List.mem_flatMap]
  refine ⟨nj, ?_, hv⟩
  rw [List.mem_iff_getElem?]
  exact ⟨j, by rw [List.getElem?_take, if_pos hj]; exact h⟩

section
variable {N O y g : Nat} {ws Y G : List Int}

theorem shL_fits (h : Full2 N y g ws Y G) (hN : N ≤ 256) (hy : y ≤ N) (hO : O ≤ 1024) (hg : g ≤ O) {a : Int} (ha : a ∈ thY N y g ws ++ thO N y g ws) : hc (pk (ld N y g ws a)) ((shL N y g ws [] a).length : Nat) = 0 := by
  obtain ⟨e1, e2⟩ := h.lists (O := O) hN hy hO hg
  rw [e1, e2] at ha
  have ha : a ∈ Y ∨ a ∈ G := List.mem_append.1 ha
  have h0 : pc (ld N y g ws a) = 0 := by
    rcases ha with ha | ha
    · exact (h.ty.mem a ha).2.2
    · exact (h.to.mem a ha).2.2
  have h1 := (head_parts _ h0).1
  have hp := pf_bd (ld N y g ws a)
  have hl : ((shL N y g ws [] a).length : Int) = pf (ld N y g ws a) := by
    unfold shL
    by_cases h5 : pk (ld N y g ws a) = 5
    · rw [if_pos h5]
      have := hc_yes _ _ h1
      have e : pf (ld N y g ws a) = 0 := by omega
      rw [e]
      rfl
    · rw [if_neg h5, h.stands hy ha]
      simp
      omega
  rw [hl]
  exact h1

/-- What a view is, by the document's words. -/
structure Vok (V : List (Int × Int)) (ns : List (Int × List (Int × Int))) (rs : List Int) : Prop where
  vl : V.length = rs.length
  tv : ∀ v ∈ V, Vto ns.length v
  val : ∀ i, i < rs.length → dk (rs.getD i 0) ≠ 3 → V.getD i (0, 0) = (dk (rs.getD i 0), dn (rs.getD i 0))
  fit : ∀ i, i < ns.length → hc (ns.getD i (0, [])).1 ((ns.getD i (0, [])).2.length : Nat) = 0
  nto : ∀ i, i < ns.length → ∀ v ∈ (ns.getD i (0, [])).2, Vto ns.length v
  led : ∀ i, i < ns.length → (3, (i : Int)) ∈ V ++ flt (ns.take i)
  bl : ns.length ≤ 4000
  fb : ∀ nd ∈ ns, nd.2.length ≤ 12

theorem vls_get (M : Vst → Int → Vst) (T : List Int) (s : Vst) (l : List Int) (i : Nat) (h : i < l.length) : (vls M T s l).1.getD i (0, 0) = (vst M T (vls M T s (l.take i)).2 (l.getD i 0)).1 := by
  have key : ∀ k, i < k → k ≤ l.length → (vls M T s (l.take k)).1.getD i (0, 0) = (vst M T (vls M T s (l.take i)).2 (l.getD i 0)).1 := by
    intro k
    induction k with
    | zero => intro h; omega
    | succ k ih =>
      intro h1 h2
      rw [take_snoc l k (by omega) 0, vls_snoc]
      have hlen := vls_len M T s (l.take k)
      simp only [List.length_take] at hlen
      by_cases e : i = k
      · subst e
        rw [List.getD_eq_getElem?_getD, List.getElem?_append_right (by omega)]
        rw [show i - (vls M T s (l.take i)).1.length = 0 by omega]
        rfl
      · rw [List.getD_eq_getElem?_getD, List.getElem?_append_left (by omega), ← List.getD_eq_getElem?_getD]
        exact ih (by omega) (by omega)
  have := key l.length h (Nat.le_refl _)
  rwa [List.take_length] at this

theorem view_ok (h : Full2 N y g ws Y G) (hN : N ≤ 256) (hy : y ≤ N) (hO : O ≤ 1024) (hg : g ≤ O) (rs : List Int) : Vok (vwL N y g ws [] rs).1 (vwL N y g ws [] rs).2.2 rs := by
  have g1 := vwL_go N y g ws [] rs
  have hlen := g1.ok.len
  have hle := g1.ok.le
  have b1 : (thY N y g ws).length ≤ 2000 := ths_le _ _
  have b2 : (thO N y g ws).length ≤ 2000 := ths_le _ _
  have hnd : ∀ i, i < (vwL N y g ws [] rs).2.2.length → ∃ nd, (vwL N y g ws [] rs).2.2[i]? = some nd ∧ (vwL N y g ws [] rs).2.2.getD i (0, []) = nd ∧ nd.1 = pk (ld N y g ws ((vwL N y g ws [] rs).2.1.getD i 0)) ∧ nd.2.length = (shL N y g ws [] ((vwL N y g ws [] rs).2.1.getD i 0)).length ∧ (∀ v ∈ nd.2, Vto (vwL N y g ws [] rs).2.1.length v) ∧
    ((3, (i : Int)) ∈ (vwL N y g ws [] rs).1 ∨ ∃ j, j < i ∧ ∃ nj : Int × List (Int × Int), (vwL N y g ws [] rs).2.2[j]? = some nj ∧ (3, (i : Int)) ∈ nj.2) := fun i hi => by
    obtain ⟨nd, e1, e2, e3, e4, e5⟩ := g1.nw i (by simp) (by omega)
    refine ⟨nd, e1, by rw [List.getD_eq_getElem?_getD, e1]; rfl, e2, e3, e4, e5.imp id ?_⟩
    rintro ⟨j, _, j2, nj, j3, j4⟩
    exact ⟨j, j2, nj, j3, j4⟩
  refine ⟨vls_len _ _ _ _, fun v hv => by rw [hlen]; exact g1.to v hv, fun i hi h3 => ?_, fun i hi => ?_, fun i hi v hv => ?_, fun i hi => ?_, by simp at hle; omega, fun nd hn => ?_⟩
  · unfold vwL
    rw [vls_get _ _ _ _ _ hi]
    unfold vst
    rw [if_neg h3]
  · obtain ⟨nd, e1, e0, e2, e3, e4, e5⟩ := hnd i hi
    rw [e0, e2, e3]
    refine shL_fits h hN hy hO hg (g1.ok.sub _ ?_)
    rw [List.getD_eq_getElem?_getD, List.getElem?_eq_getElem (by omega)]
    exact List.getElem_mem _
  · obtain ⟨nd, e1, e0, e2, e3, e4, e5⟩ := hnd i hi
    rw [e0] at hv
    rw [hlen]
    exact e4 v hv
  · obtain ⟨nd, e1, e0, e2, e3, e4, e5⟩ := hnd i hi
    rcases e5 with e5 | ⟨j, j2, nj, j3, j4⟩
    · exact List.mem_append_left _ e5
    · exact List.mem_append_right _ (flt_mem j3 j4 j2)
  · obtain ⟨i, hi, e⟩ := List.mem_iff_getElem.1 hn
    obtain ⟨nd', e1, e0, e2, e3, e4, e5⟩ := hnd i hi
    rw [List.getElem?_eq_getElem hi, e] at e1
    simp at e1
    rw [e1, e3]
    have := shL_len N y g ws [] ((vwL N y g ws [] rs).2.1.getD i 0)
    simpa using this
end

end Go.Proofs.Ytglddgjljohkiab
