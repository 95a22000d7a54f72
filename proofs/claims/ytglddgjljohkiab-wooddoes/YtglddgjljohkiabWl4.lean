/- A wood: roots and fields lead to things alone: what its steps leave of that. -/
import Derived.Test.YtglddgjljohkiabJd
namespace Go.Proofs.Ytglddgjljohkiab
open Go.RowKit W Apart2

/-- Things stand one behind the other; roots and fields that lead somewhere lead to them. -/
structure WInv (N y g : Nat) (ws Y G rs : List Int) : Prop where
  full : Full2 N y g ws Y G
  rt : ∀ x ∈ rs, aB x = true → aV x ∈ Y ∨ aV x ∈ G
  fd : ∀ v, (v ∈ Y ∨ v ∈ G) → ∀ i, 0 ≤ i → i < pf (ld N y g ws v) → aB (ld N y g ws (v + 1 + i)) = true → aV (ld N y g ws (v + 1 + i)) ∈ Y ∨ aV (ld N y g ws (v + 1 + i)) ∈ G

section
variable {N O y g : Nat} {ws Y G rs : List Int}

theorem ew_at (n : Nat) (h : n < 1000000) : aB (ew 3 n) = true ∧ aV (ew 3 n) = n := by
  have h0 := vc3_in (n : Int) (by omega) (by omega)
  have h1 := at_enc 3 n h0
  exact ⟨h1.1, h1.2 rfl⟩
theorem WInv.root (h : WInv N y g ws Y G rs) (k : Nat) (x : Int) (hx : aB x = true → aV x ∈ Y ∨ aV x ∈ G) : WInv N y g ws Y G (rs.set k x) :=
  ⟨h.full, fun z hz => by
    rcases List.mem_or_eq_of_mem_set hz with hz | hz
    · exact h.rt z hz
    · rw [hz]; exact hx, h.fd⟩
/-- A root. -/
theorem WInv.at (h : WInv N y g ws Y G rs) (k : Nat) (hk : k < rs.length) (ha : aB (rs.getD k 0) = true) : aV (rs.getD k 0) ∈ Y ∨ aV (rs.getD k 0) ∈ G :=
  h.rt _ (by rw [List.getD_eq_getElem?_getD, List.getElem?_eq_getElem hk]; exact List.getElem_mem hk) ha

theorem field_y (h : Full2 N y g ws Y G) {v i : Int} (hv : v ∈ Y) (i0 : 0 ≤ i) (i1 : i < pf (ld N y g ws v)) : 0 ≤ v + 1 + i ∧ v + 1 + i < y := by
  have h1 := h.ty.mem v hv
  have h2 := h.iy v hv
  omega
theorem field_o (h : Full2 N y g ws Y G) {v i : Int} (hv : v ∈ G) (i0 : 0 ≤ i) (i1 : i < pf (ld N y g ws v)) : (N : Int) ≤ v + 1 + i ∧ v + 1 + i < (N : Int) + g := by
  have h1 := h.to.mem v hv
  have h2 := h.io v hv
  omega
theorem field_i (h : Full2 N y g ws Y G) {v i : Int} (hv : v ∈ Y ∨ v ∈ G) (i0 : 0 ≤ i) (i1 : i < pf (ld N y g ws v)) : iB N y g (v + 1 + i) = true := by
  rcases hv with hv | hv
  · have := field_y h hv i0 i1
    exact iB_y this.1 this.2
  · have := field_o h hv i0 i1
    exact iB_o this.1 this.2

theorem WInv.make (h : WInv N y g ws Y G rs) (hl : ws.length = N + O) {k f : Int} (hm : mkB N y k f = true) : WInv N (mkY N y k f) g (mkW N y k f ws) (Y ++ [(y : Int)]) G rs := by
  have hF := h.full.make hl hm
  obtain ⟨h1, h2⟩ := mkB_yes hm
  have hf := hc_bd k f h1
  have eY : mkY N y k f = y + 1 + f.toNat := by unfold mkY; rw [if_pos hm]
  have eW : mkW N y k f ws = fil ws y (hw k f) f.toNat := by unfold mkW; rw [if_pos hm]
  have hlt : y + f.toNat < ws.length := by omega
  rw [eY, eW] at hF ⊢
  have hh : ld N (y + 1 + f.toNat) g (fil ws y (hw k f) f.toNat) y = hw k f := ld_head _ _ hlt
  have hp := parts_head k f h1
  have mem : ∀ {z : Int}, (z ∈ Y ∨ z ∈ G) → (z ∈ Y ++ [(y : Int)] ∨ z ∈ G) := fun hz => hz.imp (fun c => List.mem_append_left _ c) id
  refine ⟨hF, fun x hx ha => mem (h.rt x hx ha), fun v hv i i0 i1 ha => ?_⟩
  rcases hv with hv | hv
  · rcases List.mem_append.1 hv with hv | hv
    · have hi := h.full.iy v hv
      have e0 : ld N (y + 1 + f.toNat) g (fil ws y (hw k f) f.toNat) v = ld N y g ws v := by
        rw [ld_in (iB_y hi.1 (by omega)), ld_in (iB_y hi.1 hi.2), fil_get _ _ _ _ _ hlt, if_neg (by omega), if_neg (by omega)]
      rw [e0] at i1
      have hb := field_y h.full hv i0 i1
      have e1 : ld N (y + 1 + f.toNat) g (fil ws y (hw k f) f.toNat) (v + 1 + i) = ld N y g ws (v + 1 + i) := by
        rw [ld_in (iB_y hb.1 (by omega)), ld_in (iB_y hb.1 hb.2), fil_get _ _ _ _ _ hlt, if_neg (by omega), if_neg (by omega)]
      rw [e1] at ha ⊢
      exact mem (h.fd v (Or.inl hv) i i0 i1 ha)
    · simp at hv
      subst hv
      rw [hh, hp.2.1] at i1
      have e1 : ld N (y + 1 + f.toNat) g (fil ws y (hw k f) f.toNat) ((y : Int) + 1 + i) = 2 := by
        rw [ld_in (iB_y (by omega) (by omega)), fil_get _ _ _ _ _ hlt, if_neg (by omega), if_pos (by omega)]
      rw [e1] at ha
      exact absurd ha (by decide)
  · have hi := h.full.io v hv
    have e0 : ld N (y + 1 + f.toNat) g (fil ws y (hw k f) f.toNat) v = ld N y g ws v := by
      rw [ld_in (iB_o hi.1 hi.2), ld_in (iB_o hi.1 hi.2), fil_get _ _ _ _ _ hlt, if_neg (by omega), if_neg (by omega)]
    rw [e0] at i1
    have hb := field_o h.full hv i0 i1
    have e1 : ld N (y + 1 + f.toNat) g (fil ws y (hw k f) f.toNat) (v + 1 + i) = ld N y g ws (v + 1 + i) := by
      rw [ld_in (iB_o hb.1 hb.2), ld_in (iB_o hb.1 hb.2), fil_get _ _ _ _ _ hlt, if_neg (by omega), if_neg (by omega)]
    rw [e1] at ha ⊢
    exact mem (h.fd v (Or.inr hv) i i0 i1 ha)

theorem WInv.copy (h : WInv N y g ws Y G rs) (hl : ws.length = N + O) (hy : y ≤ N) (hg : g ≤ O) {a : Int} (hm : cpB N O y g ws a = true) (ha : a ∈ Y ∨ a ∈ G) : WInv N y (cpG N O y g ws a) (cpW N O y g ws a) Y (G ++ [((N + g : Nat) : Int)]) rs := by
  obtain ⟨hF, hh⟩ := h.full.copy hl hy hg hm ha
  obtain ⟨h1, h2, h3⟩ := cpB_yes hm
  have hp := pf_bd (ld N y g ws a)
  have eG : cpG N O y g ws a = g + (1 + (pf (ld N y g ws a)).toNat) := by unfold cpG; rw [if_pos hm]
  have eW : cpW N O y g ws a = splice ws (N + g) ((ws.drop a.toNat).take (1 + (pf (ld N y g ws a)).toNat)) := by unfold cpW; rw [if_pos hm]
  have hia : 0 ≤ a ∧ a + (1 + pf (ld N y g ws a)) ≤ (N : Int) + g := by
    rcases ha with ha | ha
    · have h4 := h.full.ty.mem a ha
      have h5 := h.full.iy a ha
      omega
    · have h4 := h.full.to.mem a ha
      have h5 := h.full.io a ha
      omega
  rw [eG, eW] at hF hh ⊢
  obtain ⟨n, hn⟩ : ∃ n, n = (pf (ld N y g ws a)).toNat := ⟨_, rfl⟩
  rw [← hn] at hF hh ⊢
  have sg : ∀ i : Nat, (splice ws (N + g) ((ws.drop a.toNat).take (1 + n))).getD i 0 = if N + g ≤ i ∧ i < N + g + (1 + n) then ws.getD (a.toNat + i - (N + g)) 0 else ws.getD i 0 := fun i => splice_get ws (N + g) a.toNat (1 + n) i (by omega) (by omega)
  have mem : ∀ {z : Int}, (z ∈ Y ∨ z ∈ G) → (z ∈ Y ∨ z ∈ G ++ [((N + g : Nat) : Int)]) := fun hz => hz.imp id (fun c => List.mem_append_left _ c)
  refine ⟨hF, fun x hx hb => mem (h.rt x hx hb), fun v hv i i0 i1 hb => ?_⟩
  rcases hv with hv | hv
  · have hi := h.full.iy v hv
    have e0 : ld N y (g + (1 + n)) (splice ws (N + g) ((ws.drop a.toNat).take (1 + n))) v = ld N y g ws v := by
      rw [ld_in (iB_y hi.1 hi.2), ld_in (iB_y hi.1 hi.2), sg, if_neg (by omega)]
    rw [e0] at i1
    have hk := field_y h.full hv i0 i1
    have e1 : ld N y (g + (1 + n)) (splice ws (N + g) ((ws.drop a.toNat).take (1 + n))) (v + 1 + i) = ld N y g ws (v + 1 + i) := by
      rw [ld_in (iB_y hk.1 hk.2), ld_in (iB_y hk.1 hk.2), sg, if_neg (by omega)]
    rw [e1] at hb ⊢
    exact mem (h.fd v (Or.inl hv) i i0 i1 hb)
  · rcases List.mem_append.1 hv with hv | hv
    · have hi := h.full.io v hv
      have e0 : ld N y (g + (1 + n)) (splice ws (N + g) ((ws.drop a.toNat).take (1 + n))) v = ld N y g ws v := by
        rw [ld_in (iB_o hi.1 (by omega)), ld_in (iB_o hi.1 hi.2), sg, if_neg (by omega)]
      rw [e0] at i1
      have hk := field_o h.full hv i0 i1
      have e1 : ld N y (g + (1 + n)) (splice ws (N + g) ((ws.drop a.toNat).take (1 + n))) (v + 1 + i) = ld N y g ws (v + 1 + i) := by
        rw [ld_in (iB_o hk.1 (by omega)), ld_in (iB_o hk.1 hk.2), sg, if_neg (by omega)]
      rw [e1] at hb ⊢
      exact mem (h.fd v (Or.inr hv) i i0 i1 hb)
    · simp only [List.mem_singleton] at hv
      subst hv
      rw [hh] at i1
      have e1 : ld N y (g + (1 + n)) (splice ws (N + g) ((ws.drop a.toNat).take (1 + n))) (((N + g : Nat) : Int) + 1 + i) = ld N y g ws (a + 1 + i) := by
        rw [ld_in (iB_o (by omega) (by omega)), ld_in (field_i h.full ha i0 i1), sg, if_pos (by omega)]
        congr 1
        omega
      rw [e1] at hb ⊢
      exact mem (h.fd a ha i i0 i1 hb)

theorem WInv.set (h : WInv N y g ws Y G rs) (hl : ws.length = N + O) (hy : y ≤ N) (hg : g ≤ O) {v i z : Int} (hv : v ∈ Y ∨ v ∈ G) (i0 : 0 ≤ i) (i1 : i < pf (ld N y g ws v)) (hz : aB z = true → aV z ∈ Y ∨ aV z ∈ G) : WInv N y g (ws.set (v + 1 + i).toNat z) Y G rs := by
  obtain ⟨hF, hk⟩ := h.full.set (z := z) hl hy hg hv i0 i1
  have hb := iB_bd (O := O) (field_i h.full hv i0 i1) hy hg
  refine ⟨hF, h.rt, fun u hu j j0 j1 ha => ?_⟩
  rw [hk u hu] at j1
  have hi := field_i h.full hu j0 j1
  have hbi := iB_bd (O := O) hi hy hg
  have e1 : ld N y g (ws.set (v + 1 + i).toNat z) (u + 1 + j) = if (v + 1 + i).toNat = (u + 1 + j).toNat then z else ld N y g ws (u + 1 + j) := by
    rw [ld_in hi, ld_in hi, getD_set _ _ _ _ (by omega)]
  rw [e1] at ha ⊢
  split at ha
  · rename_i e
    rw [if_pos e]
    exact hz ha
  · rename_i e
    rw [if_neg e]
    exact h.fd u hu j j0 j1 ha

/-- A root leads to a thing just if it leads somewhere. -/
theorem WInv.tb (h : WInv N y g ws Y G rs) (hN : N ≤ 256) (hy : y ≤ N) (hO : O ≤ 1024) (hg : g ≤ O) (k : Nat) (hk : k < rs.length) : tB N y g ws (rs.getD k 0) = aB (rs.getD k 0) := by
  obtain ⟨e1, e2⟩ := h.full.lists (O := O) hN hy hO hg
  unfold tB
  rw [e1, e2]
  cases ha : aB (rs.getD k 0)
  · rfl
  · have := h.at k hk ha
    simpa using this
/-- The words of a thing to which a root leads. -/
theorem WInv.thing (h : WInv N y g ws Y G rs) (hy : y ≤ N) {v : Int} (hv : v ∈ Y ∨ v ∈ G) : pc (ld N y g ws v) = 0 ∧ stN N y g v (pf (ld N y g ws v)) = pf (ld N y g ws v) ∧ 0 ≤ v := by
  refine ⟨?_, h.full.stands hy hv, ?_⟩
  · rcases hv with hv | hv
    · exact (h.full.ty.mem v hv).2.2
    · exact (h.full.to.mem v hv).2.2
  · rcases hv with hv | hv
    · exact (h.full.iy v hv).1
    · have := (h.full.io v hv).1
      omega
end

end Go.Proofs.Ytglddgjljohkiab
