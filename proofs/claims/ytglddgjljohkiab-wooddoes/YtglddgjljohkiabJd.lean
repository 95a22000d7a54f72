/- Joined: Wl, Wl2, Wl3. -/
import Derived.Test.YtglddgjljohkiabWo3
import Derived.Test.YtglddgjljohkiabWo4
import Derived.Test.YtglddgjljohkiabJc
/- Things one behind the other: lists alone. -/
namespace Go.Proofs.Ytglddgjljohkiab
open Go.RowKit W

/-- From a on to hi there are just these things, by what the words are. -/
def Tile (L : Int → Int) (hi : Int) : Int → List Int → Prop
  | a, [] => a = hi
  | a, x :: l => x = a ∧ pc (L a) = 0 ∧ a + (1 + pf (L a)) ≤ hi ∧ Tile L hi (a + (1 + pf (L a))) l

section
variable {L L' : Int → Int} {hi : Int}

theorem Tile.done : Tile L hi hi [] := rfl
theorem Tile.step {a : Int} {l : List Int} (h0 : pc (L a) = 0) (h1 : a + (1 + pf (L a)) ≤ hi) (ht : Tile L hi (a + (1 + pf (L a))) l) : Tile L hi a (a :: l) := ⟨rfl, h0, h1, ht⟩
theorem Tile.le {a : Int} {l : List Int} (h : Tile L hi a l) : a ≤ hi := by
  cases l with
  | nil => exact Int.le_of_eq h
  | cons x l =>
    have h1 := h.2.2.1
    have := pf_bd (L a)
    omega
theorem Tile.mem {a : Int} {l : List Int} (h : Tile L hi a l) : ∀ x ∈ l, a ≤ x ∧ x + (1 + pf (L x)) ≤ hi ∧ pc (L x) = 0 := by
  induction l generalizing a with
  | nil => intro x hx; simp at hx
  | cons z l ih =>
    obtain ⟨rfl, h0, h1, ht⟩ := h
    intro x hx
    rcases List.mem_cons.1 hx with rfl | hx
    · exact ⟨Int.le_refl _, h1, h0⟩
    · have := pf_bd (L z)
      have h2 := ih ht x hx
      exact ⟨by omega, h2.2⟩
/-- Two things are apart. -/
theorem Tile.apart {a : Int} {l : List Int} (h : Tile L hi a l) : ∀ x ∈ l, ∀ z ∈ l, x < z → x + (1 + pf (L x)) ≤ z := by
  induction l generalizing a with
  | nil => intro x hx; simp at hx
  | cons y l ih =>
    obtain ⟨rfl, h0, h1, ht⟩ := h
    intro x hx z hz hxz
    rcases List.mem_cons.1 hx with ex | hx2
    · rcases List.mem_cons.1 hz with ez | hz2
      · omega
      · rw [ex]
        exact (ht.mem z hz2).1
    · rcases List.mem_cons.1 hz with ez | hz2
      · have h2 := (ht.mem x hx2).1
        have h3 := pf_bd (L y)
        omega
      · exact ih ht x hx2 z hz2 hxz
/-- The words at which things begin alone matter. -/
theorem Tile.heads {a : Int} {l : List Int} (h : Tile L hi a l) (he : ∀ x ∈ l, L' x = L x) : Tile L' hi a l := by
  induction l generalizing a with
  | nil => exact h
  | cons z l ih =>
    obtain ⟨rfl, h0, h1, ht⟩ := h
    have e := he z (by simp)
    refine .step (by rw [e]; exact h0) (by rw [e]; exact h1) ?_
    rw [e]
    exact ih ht (fun x hx => he x (by simp [hx]))
/-- One more thing behind. -/
theorem Tile.snoc {a : Int} {l : List Int} (h : Tile L hi a l) (he : ∀ x ∈ l, L' x = L x) {hi' : Int} (h0 : pc (L' hi) = 0) (h1 : hi' = hi + (1 + pf (L' hi))) : Tile L' hi' a (l ++ [hi]) := by
  have hp := pf_bd (L' hi)
  induction l generalizing a with
  | nil =>
    have e : a = hi := h
    subst e
    refine .step h0 (by omega) ?_
    rw [← h1]
    exact .done
  | cons z l ih =>
    obtain ⟨rfl, h2, h3, ht⟩ := h
    have e := he z (by simp)
    refine .step (by rw [e]; exact h2) (by rw [e]; omega) ?_
    rw [e]
    exact ih ht (fun x hx => he x (by simp [hx]))
/-- A field's place is not where a thing begins. -/
theorem Tile.field {a : Int} {l : List Int} (h : Tile L hi a l) {v i : Int} (hv : v ∈ l) (i0 : 0 ≤ i) (i1 : i < pf (L v)) : v + 1 + i ∉ l := by
  intro hm
  have := h.apart v hv _ hm (by omega)
  omega
theorem Tile.ths {N y g : Nat} {ws : List Int} {hi a : Int} {l : List Int} (h : Tile (ld N y g ws) hi a l) : ∀ k : Nat, hi - a ≤ k → ths N y g ws hi k a = l := by
  induction l generalizing a with
  | nil =>
    have e : a = hi := h
    subst e
    intro k _
    exact ths_end k (Int.le_refl _)
  | cons z l ih =>
    obtain ⟨rfl, h0, h1, ht⟩ := h
    intro k hk
    have hp := pf_bd (ld N y g ws z)
    match k, hk with
    | 0, hk => omega
    | k + 1, hk =>
      unfold Proofs.Ytglddgjljohkiab.ths
      rw [if_pos (by omega), if_pos h0, ih ht k (by omega)]
end

/-- Both spaces are full of things. -/
structure Full2 (N y g : Nat) (ws : List Int) (Y G : List Int) : Prop where
  ty : Tile (ld N y g ws) y 0 Y
  to : Tile (ld N y g ws) ((N : Int) + g) N G
theorem Full2.lists {N O y g : Nat} {ws : List Int} {Y G : List Int} (h : Full2 N y g ws Y G) (hN : N ≤ 256) (hy : y ≤ N) (hO : O ≤ 1024) (hg : g ≤ O) : thY N y g ws = Y ∧ thO N y g ws = G :=
  ⟨h.ty.ths 2000 (by omega), h.to.ths 2000 (by omega)⟩
theorem Full2.start {N : Nat} {ws : List Int} : Full2 N 0 0 ws [] [] := ⟨.done, by simpa using Tile.done (L := ld N 0 0 ws) (hi := (N : Int))⟩
/-- All fields of a thing stand. -/
theorem Full2.stands {N y g : Nat} {ws : List Int} {Y G : List Int} (h : Full2 N y g ws Y G) (hy : y ≤ N) {v : Int} (hv : v ∈ Y ∨ v ∈ G) : stN N y g v (pf (ld N y g ws v)) = pf (ld N y g ws v) := by
  have hp := pf_bd (ld N y g ws v)
  unfold stN
  refine Int.min_eq_left ?_
  rcases hv with hv | hv
  · have h1 := h.ty.mem v hv
    have e : hB N g v = false := by
      rw [Bool.eq_false_iff]
      intro hh
      have := hB_yes hh
      omega
    rw [e, if_neg (by simp)]
    omega
  · have h1 := h.to.mem v hv
    have e : hB N g v = true := by
      unfold hB
      exact decide_eq_true ⟨h1.1, by omega⟩
    rw [e, if_pos rfl]
    omega

end Go.Proofs.Ytglddgjljohkiab

/- Things one behind the other: what Make, Copy and Set leave of them. -/
namespace Go.Proofs.Ytglddgjljohkiab
open Go.RowKit W Apart2

theorem ld_in {N y g : Nat} {ws : List Int} {a : Int} (h : iB N y g a = true) : ld N y g ws a = ws.getD a.toNat 0 := by unfold ld; rw [if_pos h]
theorem iB_y {N y g : Nat} {a : Int} (h0 : 0 ≤ a) (h1 : a < y) : iB N y g a = true := by
  unfold iB hB
  rw [decide_eq_true (⟨h0, by omega⟩ : (0 : Int) ≤ a ∧ a < 0 + (y : Int))]
  rfl
theorem iB_o {N y g : Nat} {a : Int} (h0 : (N : Int) ≤ a) (h1 : a < (N : Int) + g) : iB N y g a = true := by
  unfold iB hB
  rw [decide_eq_true (⟨h0, h1⟩ : (N : Int) ≤ a ∧ a < (N : Int) + g), Bool.or_true]

section
variable {N O y g : Nat} {ws : List Int} {Y G : List Int}

theorem Full2.iy (h : Full2 N y g ws Y G) : ∀ x ∈ Y, 0 ≤ x ∧ x < y := fun x hx => by
  have h1 := h.ty.mem x hx
  have h2 := pf_bd (ld N y g ws x)
  omega
theorem Full2.io (h : Full2 N y g ws Y G) : ∀ x ∈ G, (N : Int) ≤ x ∧ x < (N : Int) + g := fun x hx => by
  have h1 := h.to.mem x hx
  have h2 := pf_bd (ld N y g ws x)
  omega

/-- A thing is made: it stands behind the young ones. -/
theorem Full2.make (h : Full2 N y g ws Y G) (hl : ws.length = N + O) {k f : Int} (hm : mkB N y k f = true) : Full2 N (mkY N y k f) g (mkW N y k f ws) (Y ++ [(y : Int)]) G := by
  obtain ⟨h1, h2⟩ := mkB_yes hm
  have hf := hc_bd k f h1
  have eY : mkY N y k f = y + 1 + f.toNat := by unfold mkY; rw [if_pos hm]
  have eW : mkW N y k f ws = fil ws y (hw k f) f.toNat := by unfold mkW; rw [if_pos hm]
  rw [eY, eW]
  have hlt : y + f.toNat < ws.length := by omega
  have hh : ld N (y + 1 + f.toNat) g (fil ws y (hw k f) f.toNat) y = hw k f := ld_head _ _ hlt
  have hp := parts_head k f h1
  refine ⟨h.ty.snoc (fun x hx => ?_) (by rw [hh]; exact hp.2.2) (by rw [hh, hp.2.1]; omega), h.to.heads (fun x hx => ?_)⟩
  · have hi := h.iy x hx
    rw [ld_in (iB_y hi.1 (by omega)), ld_in (iB_y hi.1 hi.2), fil_get _ _ _ _ _ hlt, if_neg (by omega), if_neg (by omega)]
  · have hi := h.io x hx
    rw [ld_in (iB_o hi.1 hi.2), ld_in (iB_o hi.1 hi.2), fil_get _ _ _ _ _ hlt, if_neg (by omega), if_neg (by omega)]

/-- A thing is copied: it stands behind the old ones. -/
theorem Full2.copy (h : Full2 N y g ws Y G) (hl : ws.length = N + O) (hy : y ≤ N) (hg : g ≤ O) {a : Int} (hm : cpB N O y g ws a = true) (ha : a ∈ Y ∨ a ∈ G) : Full2 N y (cpG N O y g ws a) (cpW N O y g ws a) Y (G ++ [((N + g : Nat) : Int)]) ∧ ld N y (cpG N O y g ws a) (cpW N O y g ws a) ((N + g : Nat) : Int) = ld N y g ws a := by
  obtain ⟨h1, h2, h3⟩ := cpB_yes hm
  have hp := pf_bd (ld N y g ws a)
  have eG : cpG N O y g ws a = g + (1 + (pf (ld N y g ws a)).toNat) := by unfold cpG; rw [if_pos hm]
  have eW : cpW N O y g ws a = splice ws (N + g) ((ws.drop a.toNat).take (1 + (pf (ld N y g ws a)).toNat)) := by unfold cpW; rw [if_pos hm]
  have hia : 0 ≤ a ∧ a + (1 + pf (ld N y g ws a)) ≤ (N : Int) + g ∧ iB N y g a = true := by
    rcases ha with ha | ha
    · have h4 := h.ty.mem a ha
      have h5 := h.iy a ha
      exact ⟨h5.1, by omega, iB_y h5.1 h5.2⟩
    · have h4 := h.to.mem a ha
      have h5 := h.io a ha
      exact ⟨by omega, by omega, iB_o h5.1 h5.2⟩
  rw [eG, eW]
  obtain ⟨n, hn⟩ : ∃ n, n = (pf (ld N y g ws a)).toNat := ⟨_, rfl⟩
  rw [← hn]
  have sg : ∀ i : Nat, (splice ws (N + g) ((ws.drop a.toNat).take (1 + n))).getD i 0 = if N + g ≤ i ∧ i < N + g + (1 + n) then ws.getD (a.toNat + i - (N + g)) 0 else ws.getD i 0 := fun i => splice_get ws (N + g) a.toNat (1 + n) i (by omega) (by omega)
  have hh : ld N y (g + (1 + n)) (splice ws (N + g) ((ws.drop a.toNat).take (1 + n))) ((N + g : Nat) : Int) = ld N y g ws a := by
    rw [ld_in (iB_o (by omega) (by omega)), Int.toNat_natCast, sg, if_pos (by omega), Nat.add_sub_cancel, ld_in hia.2.2]
  refine ⟨⟨h.ty.heads (fun x hx => ?_), ?_⟩, hh⟩
  · have hi := h.iy x hx
    rw [ld_in (iB_y hi.1 hi.2), ld_in (iB_y hi.1 hi.2), sg, if_neg (by omega)]
  · have ht := h.to
    rw [show (N : Int) + g = ((N + g : Nat) : Int) by omega] at ht
    refine ht.snoc (fun x hx => ?_) (by rw [hh]; exact h1) (by rw [hh]; omega)
    have hi := h.io x hx
    rw [ld_in (iB_o hi.1 (by omega)), ld_in (iB_o hi.1 hi.2), sg, if_neg (by omega)]

/-- A field is set: the things are what they were. -/
theorem Full2.set (h : Full2 N y g ws Y G) (hl : ws.length = N + O) (hy : y ≤ N) (hg : g ≤ O) {v i z : Int} (hv : v ∈ Y ∨ v ∈ G) (i0 : 0 ≤ i) (i1 : i < pf (ld N y g ws v)) : Full2 N y g (ws.set (v + 1 + i).toNat z) Y G ∧ ∀ x, (x ∈ Y ∨ x ∈ G) → ld N y g (ws.set (v + 1 + i).toNat z) x = ld N y g ws x := by
  have hb : 0 ≤ v ∧ v + 1 + i < (N : Int) + g := by
    rcases hv with hv | hv
    · have h4 := h.ty.mem v hv
      have h5 := h.iy v hv
      omega
    · have h4 := h.to.mem v hv
      have h5 := h.io v hv
      omega
  have key : ∀ x, (x ∈ Y ∨ x ∈ G) → ld N y g (ws.set (v + 1 + i).toNat z) x = ld N y g ws x := fun x hx => by
    have hne : x ≠ v + 1 + i := by
      intro e
      rcases hv with hv | hv <;> rcases hx with hx | hx
      · exact h.ty.field hv i0 i1 (by rw [← e]; exact hx)
      · have h4 := h.ty.mem v hv
        have h5 := h.io x hx
        omega
      · have h4 := h.io v hv
        have h5 := h.iy x hx
        omega
      · exact h.to.field hv i0 i1 (by rw [← e]; exact hx)
    have hi : iB N y g x = true ∧ 0 ≤ x := by
      rcases hx with hx | hx
      · have h5 := h.iy x hx
        exact ⟨iB_y h5.1 h5.2, h5.1⟩
      · have h5 := h.io x hx
        exact ⟨iB_o h5.1 h5.2, by omega⟩
    rw [ld_in hi.1, ld_in hi.1, getD_set _ _ _ _ (by omega), if_neg (by omega)]
  exact ⟨⟨h.ty.heads (fun x hx => key x (Or.inl hx)), h.to.heads (fun x hx => key x (Or.inr hx))⟩, key⟩
end

end Go.Proofs.Ytglddgjljohkiab

/- Things one behind the other: what a wood's steps leave of them; the number of a root. -/
namespace Go.Proofs.Ytglddgjljohkiab
open Go.RowKit W

section
variable {N O y g : Nat} {ws : List Int} {Y G : List Int}

/-- What it is that a field may be told. -/
theorem fcC_zero {x i : Int} (h : fcC N y g ws x i = 0) : tB N y g ws x = true ∧ pk (ld N y g ws (aV x)) ≠ 5 ∧ 0 ≤ i ∧ i < stN N y g (aV x) (pf (ld N y g ws (aV x))) := by
  unfold fcC at h
  by_cases ht : tB N y g ws x = true
  · rw [if_pos ht] at h
    by_cases h5 : pk (ld N y g ws (aV x)) = 5
    · rw [if_pos h5] at h
      omega
    · rw [if_neg h5] at h
      by_cases hi : i < 0 ∨ stN N y g (aV x) (pf (ld N y g ws (aV x))) ≤ i
      · rw [if_pos hi] at h
        omega
      · exact ⟨ht, h5, by omega, by omega⟩
  · rw [if_neg ht] at h
    omega
theorem tB_mem {x : Int} (h : Full2 N y g ws Y G) (hN : N ≤ 256) (hy : y ≤ N) (hO : O ≤ 1024) (hg : g ≤ O) (ht : tB N y g ws x = true) : aB x = true ∧ (aV x ∈ Y ∨ aV x ∈ G) := by
  obtain ⟨e1, e2⟩ := h.lists (O := O) hN hy hO hg
  unfold tB at ht
  rw [e1, e2] at ht
  simpa using ht
theorem Full2.stW (h : Full2 N y g ws Y G) (hl : ws.length = N + O) (hN : N ≤ 256) (hy : y ≤ N) (hO : O ≤ 1024) (hg : g ≤ O) (x i z : Int) : Full2 N y g (Proofs.Ytglddgjljohkiab.stW N y g ws x i z) Y G := by
  unfold Proofs.Ytglddgjljohkiab.stW
  by_cases h0 : fcC N y g ws x i = 0
  · rw [if_pos h0]
    obtain ⟨ht, _, i0, i1⟩ := fcC_zero h0
    obtain ⟨_, hv⟩ := tB_mem h hN hy hO hg ht
    rw [h.stands hy hv] at i1
    split
    · exact (h.set hl hy hg hv i0 i1).1
    · exact h
  · rw [if_neg h0]
    exact h
theorem Full2.made (h : Full2 N y g ws Y G) (hl : ws.length = N + O) (k f : Int) : ∃ Y', Full2 N (mkY N y k f) g (mkW N y k f ws) Y' G := by
  cases hb : mkB N y k f
  · have e1 : mkY N y k f = y := by unfold mkY; rw [hb, if_neg (by simp)]
    have e2 : mkW N y k f ws = ws := by unfold mkW; rw [hb, if_neg (by simp)]
    rw [e1, e2]
    exact ⟨Y, h⟩
  · exact ⟨_, h.make hl hb⟩
theorem stM_len (x i z c : Int) (M : List Int) : (stM N y g ws x i z c M).length ≤ M.length + 1 := by
  unfold stM
  split
  · unfold mkM
    split
    · exact len_addM _ _
    · omega
  · omega
end

/-- The number of a root, however it is told. -/
theorem root_num (A : Int) : ∃ k : Nat, wrap64 ((IntKind.u64.wrap A).tmod 12) = (k : Int) ∧ k < 12 := by
  have h1 : 0 ≤ IntKind.u64.wrap A := by
    rw [IntKind.wrap_u64]
    omega
  have h2 : (IntKind.u64.wrap A).tmod 12 = IntKind.u64.wrap A % 12 := Int.tmod_eq_emod_of_nonneg h1
  refine ⟨(IntKind.u64.wrap A % 12).toNat, ?_, by omega⟩
  rw [h2]
  unfold wrap64
  omega

end Go.Proofs.Ytglddgjljohkiab
