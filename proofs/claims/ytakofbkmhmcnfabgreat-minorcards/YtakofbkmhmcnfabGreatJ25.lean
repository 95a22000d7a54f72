/- Joined: Ws15, Ws12, Wl3, Wl4, Ws13, Ws14, Ws18. -/
import Derived.Test.YtakofbkmhmcnfabGreatJ24
import Derived.Test.YtakofbkmhmcnfabGreatJ23
import Derived.Test.YtakofbkmhmcnfabGreatJ06
import Derived.Test.YtakofbkmhmcnfabGreatJ16
/- A wood and a world: a cut, View, Used of the wood: contracts. -/
namespace Go.Proofs.YtakofbkmhmcnfabGreat
open Go.RowKit W Kp Stl

section
variable {c : Bc} {F : Nat → Prop} {S : Ww × Wrs} {w : World}

/-- A small cut beside a world. -/
theorem cutB_any (h : (boO c).J F S w) (hq : S.1.q.length + S.1.r.length ≤ 90000) :
    Calls Tryz.prog 16 #[.pointer (some ⟨c.a.pw, 0, none⟩)] w fun e w' => ∃ F', e = .returned (.int .i64 (S.1.code c.a)) ∧ (boO c).J F' (S.1.cut c.a, S.2) w' ∧ Tn F w F' w' := by
  obtain ⟨FW, h1, _, h2⟩ := bo_w h
  refine (cutM_any h1 hq).mono ?_
  rintro e w' ⟨F1, rfl, j1, t1⟩
  obtain ⟨F2, m1, m2⟩ := h2 _ _ _ j1 t1
  exact ⟨F2, rfl, m1, m2⟩
/-- Used of the wood. -/
theorem usedB_any (h : (boO c).J F S w) : Calls Tryz.prog 21 #[.pointer (some ⟨c.a.p, 0, none⟩)] w fun e w' => e = .returned (.tuple #[.int .i64 S.1.s.y, .int .i64 S.1.s.g]) ∧ Below w.heap.size w w' := by
  obtain ⟨FW, h1, _⟩ := bo_w h
  obtain ⟨F0, g1, _⟩ := ws_wod h1
  exact used_any w (wod_arena g1).1
/-- View of the wood. -/
theorem viewB_any (h : (boO c).J F S w) (hq : S.1.q.length ≤ 90000) :
    Calls Tryz.prog 20 #[.pointer (some ⟨c.a.pw, 0, none⟩)] w fun e w' => ∃ r2 d2 na nn nc, e = .returned (.agg #[.slice r2 12 d2, .slice na nn nc]) ∧ Lp w' r2 (vwL c.a.N S.1.s.y S.1.s.g S.1.s.ws S.1.q S.1.s.rs).1 ∧ Ln w' na (vwL c.a.N S.1.s.y S.1.s.g S.1.s.ws S.1.q S.1.s.rs).2.2 ∧ nn = (vwL c.a.N S.1.s.y S.1.s.g S.1.s.ws S.1.q S.1.s.rs).2.2.length ∧ Below w.heap.size w w' := by
  obtain ⟨FW, h1, _⟩ := bo_w h
  obtain ⟨F0, g1, _⟩ := ws_wod h1
  obtain ⟨c0, _, c2, c3, _, rl, _, cr9⟩ := wod_cells g1
  have ha := (wod_arena g1).1
  obtain ⟨F0', ar, cr, ⟨F00, ad, cap, ⟨own, pq, hM, hO⟩, d2, d3, d4, _⟩, r0, r1, hFW⟩ := h1
  have hl : Lq w (some ⟨c.a.nb, 0, none⟩) S.1.s.rs := by
    have hr := hM.rt
    refine ⟨fun _ => ⟨c.a.nb, 0, rfl, lt_of_some hr, fun i hi => ?_⟩, fun _ => ⟨c.a.nb, 0, _, rfl, hr⟩⟩
    rw [Nat.zero_add]
    exact (cr9 i (by rw [← rl]; exact hi)).1
  have P := view_any (l := S.1.s.rs) (ra := some ⟨c.a.nb, 0, none⟩) (rc := 12) ⟨c0, c2, ha, d2, row_pairs d3, hq⟩ (by rw [rl]; exact c3) hl (by rw [rl]; decide)
  rw [rl] at P
  exact P
end

end Go.Proofs.YtakofbkmhmcnfabGreat

/- A wood and a world: what the world keeps from step to step. -/
namespace Go.Proofs.YtakofbkmhmcnfabGreat
open Go.RowKit W Kp Stl

theorem doS_world {c : Bc} {S : Ww × Wrs} (h : Wok S.2) (d A B C : Int) : Wok (doS c S d A B C).2 ∧ (doS c S d A B C).2.T.length ≤ S.2.T.length + 1 ∧ (doS c S d A B C).2.rg.length ≤ S.2.rg.length + 1 ∧ (doS c S d A B C).2.wt = S.2.wt := by
  unfold doS
  by_cases e0 : d = 0
  · rw [if_pos e0]
    obtain ⟨h1, h2⟩ := h.fr c.most (rtN C) A B
    refine ⟨h1, h2, ?_, ?_⟩
    · show (S.2.fr c.most (rtN C) A B).rg.length ≤ _
      unfold Wrs.fr
      split <;> simp
    · show (S.2.fr c.most (rtN C) A B).wt = _
      unfold Wrs.fr
      split <;> rfl
  rw [if_neg e0]
  by_cases e1 : d = 1
  · rw [if_pos e1]
    unfold boS
    dsimp only
    split
    · exact ⟨h.set (rtN A) (rtN C) B, by simp [Wrs.sT], by simp, rfl⟩
    · exact ⟨h, by omega, by omega, rfl⟩
  rw [if_neg e1]
  by_cases e2 : d = 2
  · rw [if_pos e2]
    unfold boG
    dsimp only
    split
    · exact ⟨h.root _ _ (fun e => h.field _ _ e), by simp, by simp, rfl⟩
    · exact ⟨h, by omega, by omega, rfl⟩
  rw [if_neg e2]
  by_cases e3 : d = 3
  · rw [if_pos e3]
    unfold boI
    dsimp only
    split
    · exact ⟨h.root _ _ (fun e => absurd e (by simp)), by simp, by simp, rfl⟩
    · exact ⟨h, by omega, by omega, rfl⟩
  rw [if_neg e3]
  by_cases e4 : d = 4
  · rw [if_pos e4]
    exact ⟨h.root _ _ (fun e => absurd e (by simp)), by simp, by simp, rfl⟩
  rw [if_neg e4]
  by_cases e5 : d = 5
  · rw [if_pos e5]
    unfold boR
    dsimp only
    split
    · exact ⟨⟨h.rl, h.rv, h.tv, h.tl⟩, by simp, by simp, rfl⟩
    · exact ⟨h, by omega, by omega, rfl⟩
  rw [if_neg e5]
  exact ⟨h, by omega, by omega, rfl⟩

theorem Wok.rb {s : Wrs} (h : Wok s) (h1 : s.T.length ≤ 10000) (h2 : s.rg.length ≤ 10000) (h3 : s.wt.length ≤ 10000) : RB s :=
  ⟨fun i _ hi => h.th i hi, h.tl, h1, h2, h3⟩

end Go.Proofs.YtakofbkmhmcnfabGreat

/- Things one behind the other: what a wood's steps leave of them; the number of a root. -/
namespace Go.Proofs.YtakofbkmhmcnfabGreat
open Go.RowKit W

section
variable {N O y g : Nat} {ws : List Int} {Y G : List Int}

/-- What it is that a field may be told. -/
theorem fcC_zero {x i : Int} (h : fcC N y g ws x i = 0) : tB N y g ws x = true ∧ pk (ld N y g ws (aV x)) ≠ 5 ∧ 0 ≤ i ∧ i < stN N y g (aV x) (pf (ld N y g ws (aV x))) := by
  unfold fcC at h
  by_cases ht : tB N y g ws x = true
  · rw [if_pos ht] at h
    by_cases h5 : pk (ld N y g ws (aV x)) = 5
    · rw [if_pos h5] at h
      omega
    · rw [if_neg h5] at h
      by_cases hi : i < 0 ∨ stN N y g (aV x) (pf (ld N y g ws (aV x))) ≤ i
      · rw [if_pos hi] at h
        omega
      · exact ⟨ht, h5, by omega, by omega⟩
  · rw [if_neg ht] at h
    omega
theorem tB_mem {x : Int} (h : Full2 N y g ws Y G) (hN : N ≤ 256) (hy : y ≤ N) (hO : O ≤ 1024) (hg : g ≤ O) (ht : tB N y g ws x = true) : aB x = true ∧ (aV x ∈ Y ∨ aV x ∈ G) := by
  obtain ⟨e1, e2⟩ := h.lists (O := O) hN hy hO hg
  unfold tB at ht
  rw [e1, e2] at ht
  simpa using ht
theorem Full2.stW (h : Full2 N y g ws Y G) (hl : ws.length = N + O) (hN : N ≤ 256) (hy : y ≤ N) (hO : O ≤ 1024) (hg : g ≤ O) (x i z : Int) : Full2 N y g (Proofs.YtakofbkmhmcnfabGreat.stW N y g ws x i z) Y G := by
  unfold Proofs.YtakofbkmhmcnfabGreat.stW
  by_cases h0 : fcC N y g ws x i = 0
  · rw [if_pos h0]
    obtain ⟨ht, _, i0, i1⟩ := fcC_zero h0
    obtain ⟨_, hv⟩ := tB_mem h hN hy hO hg ht
    rw [h.stands hy hv] at i1
    split
    · exact (h.set hl hy hg hv i0 i1).1
    · exact h
  · rw [if_neg h0]
    exact h
theorem Full2.made (h : Full2 N y g ws Y G) (hl : ws.length = N + O) (k f : Int) : ∃ Y', Full2 N (mkY N y k f) g (mkW N y k f ws) Y' G := by
  cases hb : mkB N y k f
  · have e1 : mkY N y k f = y := by unfold mkY; rw [hb, if_neg (by simp)]
    have e2 : mkW N y k f ws = ws := by unfold mkW; rw [hb, if_neg (by simp)]
    rw [e1, e2]
    exact ⟨Y, h⟩
  · exact ⟨_, h.make hl hb⟩
theorem stM_len (x i z c : Int) (M : List Int) : (stM N y g ws x i z c M).length ≤ M.length + 1 := by
  unfold stM
  split
  · unfold mkM
    split
    · exact len_addM _ _
    · omega
  · omega
end

/-- The number of a root, however it is told. -/
theorem root_num (A : Int) : ∃ k : Nat, wrap64 ((IntKind.u64.wrap A).tmod 12) = (k : Int) ∧ k < 12 := by
  have h1 : 0 ≤ IntKind.u64.wrap A := by
    rw [IntKind.wrap_u64]
    omega
  have h2 : (IntKind.u64.wrap A).tmod 12 = IntKind.u64.wrap A % 12 := Int.tmod_eq_emod_of_nonneg h1
  refine ⟨(IntKind.u64.wrap A % 12).toNat, ?_, by omega⟩
  rw [h2]
  unfold wrap64
  omega

end Go.Proofs.YtakofbkmhmcnfabGreat

/- A wood: roots and fields lead to things alone: what its steps leave of that. -/
namespace Go.Proofs.YtakofbkmhmcnfabGreat
open Go.RowKit W Apart2

/-- Things stand one behind the other; roots and fields that lead somewhere lead to them. -/
structure WInv (N y g : Nat) (ws Y G rs : List Int) : Prop where
  full : Full2 N y g ws Y G
  rt : ∀ x ∈ rs, aB x = true → aV x ∈ Y ∨ aV x ∈ G
  fd : ∀ v, (v ∈ Y ∨ v ∈ G) → ∀ i, 0 ≤ i → i < pf (ld N y g ws v) → aB (ld N y g ws (v + 1 + i)) = true → aV (ld N y g ws (v + 1 + i)) ∈ Y ∨ aV (ld N y g ws (v + 1 + i)) ∈ G

section
variable {N O y g : Nat} {ws Y G rs : List Int}

theorem ew_at (n : Nat) (h : n < 1000000) : aB (ew 3 n) = true ∧ aV (ew 3 n) = n := by
  have h0 := vc3_in (n : Int) (by omega) (by omega)
  have h1 := at_enc 3 n h0
  exact ⟨h1.1, h1.2 rfl⟩
theorem WInv.root (h : WInv N y g ws Y G rs) (k : Nat) (x : Int) (hx : aB x = true → aV x ∈ Y ∨ aV x ∈ G) : WInv N y g ws Y G (rs.set k x) :=
  ⟨h.full, fun z hz => by
    rcases List.mem_or_eq_of_mem_set hz with hz | hz
    · exact h.rt z hz
    · rw [hz]; exact hx, h.fd⟩
/-- A root. -/
theorem WInv.at (h : WInv N y g ws Y G rs) (k : Nat) (hk : k < rs.length) (ha : aB (rs.getD k 0) = true) : aV (rs.getD k 0) ∈ Y ∨ aV (rs.getD k 0) ∈ G :=
  h.rt _ (by rw [List.getD_eq_getElem?_getD, List.getElem?_eq_getElem hk]; exact List.getElem_mem hk) ha

theorem field_y (h : Full2 N y g ws Y G) {v i : Int} (hv : v ∈ Y) (i0 : 0 ≤ i) (i1 : i < pf (ld N y g ws v)) : 0 ≤ v + 1 + i ∧ v + 1 + i < y := by
  have h1 := h.ty.mem v hv
  have h2 := h.iy v hv
  omega
theorem field_o (h : Full2 N y g ws Y G) {v i : Int} (hv : v ∈ G) (i0 : 0 ≤ i) (i1 : i < pf (ld N y g ws v)) : (N : Int) ≤ v + 1 + i ∧ v + 1 + i < (N : Int) + g := by
  have h1 := h.to.mem v hv
  have h2 := h.io v hv
  omega
theorem field_i (h : Full2 N y g ws Y G) {v i : Int} (hv : v ∈ Y ∨ v ∈ G) (i0 : 0 ≤ i) (i1 : i < pf (ld N y g ws v)) : iB N y g (v + 1 + i) = true := by
  rcases hv with hv | hv
  · have := field_y h hv i0 i1
    exact iB_y this.1 this.2
  · have := field_o h hv i0 i1
    exact iB_o this.1 this.2

theorem WInv.make (h : WInv N y g ws Y G rs) (hl : ws.length = N + O) {k f : Int} (hm : mkB N y k f = true) : WInv N (mkY N y k f) g (mkW N y k f ws) (Y ++ [(y : Int)]) G rs := by
  have hF := h.full.make hl hm
  obtain ⟨h1, h2⟩ := mkB_yes hm
  have hf := hc_bd k f h1
  have eY : mkY N y k f = y + 1 + f.toNat := by unfold mkY; rw [if_pos hm]
  have eW : mkW N y k f ws = fil ws y (hw k f) f.toNat := by unfold mkW; rw [if_pos hm]
  have hlt : y + f.toNat < ws.length := by omega
  rw [eY, eW] at hF ⊢
  have hh : ld N (y + 1 + f.toNat) g (fil ws y (hw k f) f.toNat) y = hw k f := ld_head _ _ hlt
  have hp := parts_head k f h1
  have mem : ∀ {z : Int}, (z ∈ Y ∨ z ∈ G) → (z ∈ Y ++ [(y : Int)] ∨ z ∈ G) := fun hz => hz.imp (fun c => List.mem_append_left _ c) id
  refine ⟨hF, fun x hx ha => mem (h.rt x hx ha), fun v hv i i0 i1 ha => ?_⟩
  rcases hv with hv | hv
  · rcases List.mem_append.1 hv with hv | hv
    · have hi := h.full.iy v hv
      have e0 : ld N (y + 1 + f.toNat) g (fil ws y (hw k f) f.toNat) v = ld N y g ws v := by
        rw [ld_in (iB_y hi.1 (by omega)), ld_in (iB_y hi.1 hi.2), fil_get _ _ _ _ _ hlt, if_neg (by omega), if_neg (by omega)]
      rw [e0] at i1
      have hb := field_y h.full hv i0 i1
      have e1 : ld N (y + 1 + f.toNat) g (fil ws y (hw k f) f.toNat) (v + 1 + i) = ld N y g ws (v + 1 + i) := by
        rw [ld_in (iB_y hb.1 (by omega)), ld_in (iB_y hb.1 hb.2), fil_get _ _ _ _ _ hlt, if_neg (by omega), if_neg (by omega)]
      rw [e1] at ha ⊢
      exact mem (h.fd v (Or.inl hv) i i0 i1 ha)
    · simp at hv
      subst hv
      rw [hh, hp.2.1] at i1
      have e1 : ld N (y + 1 + f.toNat) g (fil ws y (hw k f) f.toNat) ((y : Int) + 1 + i) = 2 := by
        rw [ld_in (iB_y (by omega) (by omega)), fil_get _ _ _ _ _ hlt, if_neg (by omega), if_pos (by omega)]
      rw [e1] at ha
      exact absurd ha (by decide)
  · have hi := h.full.io v hv
    have e0 : ld N (y + 1 + f.toNat) g (fil ws y (hw k f) f.toNat) v = ld N y g ws v := by
      rw [ld_in (iB_o hi.1 hi.2), ld_in (iB_o hi.1 hi.2), fil_get _ _ _ _ _ hlt, if_neg (by omega), if_neg (by omega)]
    rw [e0] at i1
    have hb := field_o h.full hv i0 i1
    have e1 : ld N (y + 1 + f.toNat) g (fil ws y (hw k f) f.toNat) (v + 1 + i) = ld N y g ws (v + 1 + i) := by
      rw [ld_in (iB_o hb.1 hb.2), ld_in (iB_o hb.1 hb.2), fil_get _ _ _ _ _ hlt, if_neg (by omega), if_neg (by omega)]
    rw [e1] at ha ⊢
    exact mem (h.fd v (Or.inr hv) i i0 i1 ha)

theorem WInv.copy (h : WInv N y g ws Y G rs) (hl : ws.length = N + O) (hy : y ≤ N) (hg : g ≤ O) {a : Int} (hm : cpB N O y g ws a = true) (ha : a ∈ Y ∨ a ∈ G) : WInv N y (cpG N O y g ws a) (cpW N O y g ws a) Y (G ++ [((N + g : Nat) : Int)]) rs := by
  obtain ⟨hF, hh⟩ := h.full.copy hl hy hg hm ha
  obtain ⟨h1, h2, h3⟩ := cpB_yes hm
  have hp := pf_bd (ld N y g ws a)
  have eG : cpG N O y g ws a = g + (1 + (pf (ld N y g ws a)).toNat) := by unfold cpG; rw [if_pos hm]
  have eW : cpW N O y g ws a = splice ws (N + g) ((ws.drop a.toNat).take (1 + (pf (ld N y g ws a)).toNat)) := by unfold cpW; rw [if_pos hm]
  have hia : 0 ≤ a ∧ a + (1 + pf (ld N y g ws a)) ≤ (N : Int) + g := by
    rcases ha with ha | ha
    · have h4 := h.full.ty.mem a ha
      have h5 := h.full.iy a ha
      omega
    · have h4 := h.full.to.mem a ha
      have h5 := h.full.io a ha
      omega
  rw [eG, eW] at hF hh ⊢
  obtain ⟨n, hn⟩ : ∃ n, n = (pf (ld N y g ws a)).toNat := ⟨_, rfl⟩
  rw [← hn] at hF hh ⊢
  have sg : ∀ i : Nat, (splice ws (N + g) ((ws.drop a.toNat).take (1 + n))).getD i 0 = if N + g ≤ i ∧ i < N + g + (1 + n) then ws.getD (a.toNat + i - (N + g)) 0 else ws.getD i 0 := fun i => splice_get ws (N + g) a.toNat (1 + n) i (by omega) (by omega)
  have mem : ∀ {z : Int}, (z ∈ Y ∨ z ∈ G) → (z ∈ Y ∨ z ∈ G ++ [((N + g : Nat) : Int)]) := fun hz => hz.imp id (fun c => List.mem_append_left _ c)
  refine ⟨hF, fun x hx hb => mem (h.rt x hx hb), fun v hv i i0 i1 hb => ?_⟩
  rcases hv with hv | hv
  · have hi := h.full.iy v hv
    have e0 : ld N y (g + (1 + n)) (splice ws (N + g) ((ws.drop a.toNat).take (1 + n))) v = ld N y g ws v := by
      rw [ld_in (iB_y hi.1 hi.2), ld_in (iB_y hi.1 hi.2), sg, if_neg (by omega)]
    rw [e0] at i1
    have hk := field_y h.full hv i0 i1
    have e1 : ld N y (g + (1 + n)) (splice ws (N + g) ((ws.drop a.toNat).take (1 + n))) (v + 1 + i) = ld N y g ws (v + 1 + i) := by
      rw [ld_in (iB_y hk.1 hk.2), ld_in (iB_y hk.1 hk.2), sg, if_neg (by omega)]
    rw [e1] at hb ⊢
    exact mem (h.fd v (Or.inl hv) i i0 i1 hb)
  · rcases List.mem_append.1 hv with hv | hv
    · have hi := h.full.io v hv
      have e0 : ld N y (g + (1 + n)) (splice ws (N + g) ((ws.drop a.toNat).take (1 + n))) v = ld N y g ws v := by
        rw [ld_in (iB_o hi.1 (by omega)), ld_in (iB_o hi.1 hi.2), sg, if_neg (by omega)]
      rw [e0] at i1
      have hk := field_o h.full hv i0 i1
      have e1 : ld N y (g + (1 + n)) (splice ws (N + g) ((ws.drop a.toNat).take (1 + n))) (v + 1 + i) = ld N y g ws (v + 1 + i) := by
        rw [ld_in (iB_o hk.1 (by omega)), ld_in (iB_o hk.1 hk.2), sg, if_neg (by omega)]
      rw [e1] at hb ⊢
      exact mem (h.fd v (Or.inr hv) i i0 i1 hb)
    · simp only [List.mem_singleton] at hv
      subst hv
      rw [hh] at i1
      have e1 : ld N y (g + (1 + n)) (splice ws (N + g) ((ws.drop a.toNat).take (1 + n))) (((N + g : Nat) : Int) + 1 + i) = ld N y g ws (a + 1 + i) := by
        rw [ld_in (iB_o (by omega) (by omega)), ld_in (field_i h.full ha i0 i1), sg, if_pos (by omega)]
        congr 1
        omega
      rw [e1] at hb ⊢
      exact mem (h.fd a ha i i0 i1 hb)

theorem WInv.set (h : WInv N y g ws Y G rs) (hl : ws.length = N + O) (hy : y ≤ N) (hg : g ≤ O) {v i z : Int} (hv : v ∈ Y ∨ v ∈ G) (i0 : 0 ≤ i) (i1 : i < pf (ld N y g ws v)) (hz : aB z = true → aV z ∈ Y ∨ aV z ∈ G) : WInv N y g (ws.set (v + 1 + i).toNat z) Y G rs := by
  obtain ⟨hF, hk⟩ := h.full.set (z := z) hl hy hg hv i0 i1
  have hb := iB_bd (O := O) (field_i h.full hv i0 i1) hy hg
  refine ⟨hF, h.rt, fun u hu j j0 j1 ha => ?_⟩
  rw [hk u hu] at j1
  have hi := field_i h.full hu j0 j1
  have hbi := iB_bd (O := O) hi hy hg
  have e1 : ld N y g (ws.set (v + 1 + i).toNat z) (u + 1 + j) = if (v + 1 + i).toNat = (u + 1 + j).toNat then z else ld N y g ws (u + 1 + j) := by
    rw [ld_in hi, ld_in hi, getD_set _ _ _ _ (by omega)]
  rw [e1] at ha ⊢
  split at ha
  · rename_i e
    rw [if_pos e]
    exact hz ha
  · rename_i e
    rw [if_neg e]
    exact h.fd u hu j j0 j1 ha

/-- A root leads to a thing just if it leads somewhere. -/
theorem WInv.tb (h : WInv N y g ws Y G rs) (hN : N ≤ 256) (hy : y ≤ N) (hO : O ≤ 1024) (hg : g ≤ O) (k : Nat) (hk : k < rs.length) : tB N y g ws (rs.getD k 0) = aB (rs.getD k 0) := by
  obtain ⟨e1, e2⟩ := h.full.lists (O := O) hN hy hO hg
  unfold tB
  rw [e1, e2]
  cases ha : aB (rs.getD k 0)
  · rfl
  · have := h.at k hk ha
    simpa using this
/-- The words of a thing to which a root leads. -/
theorem WInv.thing (h : WInv N y g ws Y G rs) (hy : y ≤ N) {v : Int} (hv : v ∈ Y ∨ v ∈ G) : pc (ld N y g ws v) = 0 ∧ stN N y g v (pf (ld N y g ws v)) = pf (ld N y g ws v) ∧ 0 ≤ v := by
  refine ⟨?_, h.full.stands hy hv, ?_⟩
  · rcases hv with hv | hv
    · exact (h.full.ty.mem v hv).2.2
    · exact (h.full.to.mem v hv).2.2
  · rcases hv with hv | hv
    · exact (h.full.iy v hv).1
    · have := (h.full.io v hv).1
      omega
end

end Go.Proofs.YtakofbkmhmcnfabGreat

/- Cards: an old thing that leads to a young one has its card marked: kept from step to step. -/
namespace Go.Proofs.YtakofbkmhmcnfabGreat
open Go.RowKit W Kp Stl

/-- An old thing that leads to a young one has its card marked. -/
def CdI (N O y g : Nat) (ws M Y G : List Int) : Prop :=
  ∀ v ∈ G, ∀ i, 0 ≤ i → i < pf (ld N y g ws v) → aB (ld N y g ws (v + 1 + i)) = true → aV (ld N y g ws (v + 1 + i)) ∈ Y → (cB N (nC O) v && M.contains (cN N v)) = true

section
variable {N O y g : Nat} {ws M Y G rs : List Int}

theorem CdI.make (h : WInv N y g ws Y G rs) (hc : CdI N O y g ws M Y G) (hl : ws.length = N + O) {k f : Int} (hm : mkB N y k f = true) : CdI N O (mkY N y k f) g (mkW N y k f ws) M (Y ++ [(y : Int)]) G := by
  obtain ⟨h1, h2⟩ := mkB_yes hm
  have hf := hc_bd k f h1
  have eY : mkY N y k f = y + 1 + f.toNat := by unfold mkY; rw [if_pos hm]
  have eW : mkW N y k f ws = fil ws y (hw k f) f.toNat := by unfold mkW; rw [if_pos hm]
  have hlt : y + f.toNat < ws.length := by omega
  rw [eY, eW]
  intro v hv i i0 i1 ha hy
  have hi := h.full.io v hv
  have e0 : ld N (y + 1 + f.toNat) g (fil ws y (hw k f) f.toNat) v = ld N y g ws v := by
    rw [ld_in (iB_o hi.1 hi.2), ld_in (iB_o hi.1 hi.2), fil_get _ _ _ _ _ hlt, if_neg (by omega), if_neg (by omega)]
  rw [e0] at i1
  have hb := field_o h.full hv i0 i1
  have e1 : ld N (y + 1 + f.toNat) g (fil ws y (hw k f) f.toNat) (v + 1 + i) = ld N y g ws (v + 1 + i) := by
    rw [ld_in (iB_o hb.1 hb.2), ld_in (iB_o hb.1 hb.2), fil_get _ _ _ _ _ hlt, if_neg (by omega), if_neg (by omega)]
  rw [e1] at ha hy
  rcases List.mem_append.1 hy with d | d
  · exact hc v hv i i0 i1 ha d
  · simp at d
    rcases h.fd v (Or.inr hv) i i0 i1 ha with e | e
    · have := (h.full.iy _ e).2
      omega
    · have := (h.full.io _ e).1
      omega

theorem cB_old {v : Int} (h0 : (N : Int) ≤ v) (h1 : v < (N : Int) + g) (hg : g ≤ O) : cB N (nC O) v = true := by
  unfold cB nC
  rw [if_neg (by omega)]
  simp only [Bool.and_eq_true, decide_eq_true_eq]
  omega

theorem fc_no2 {x i z c : Int} (h : fcC N y g ws x i ≠ 0) : stW N y g ws x i z = ws ∧ stM N y g ws x i z c M = M := by
  refine ⟨by unfold stW; rw [if_neg h], ?_⟩
  have e : stB N y g ws x i z = false := by
    unfold stB
    rw [decide_eq_false h]
    rfl
  unfold stM
  rw [e]
  rfl
/-- A place within one thing's fields is within no other's. -/
theorem same_thing (h : Full2 N y g ws Y G) {u v i j : Int} (hu : u ∈ G) (hv : v ∈ G) (i0 : 0 ≤ i) (i1 : i < pf (ld N y g ws u)) (j0 : 0 ≤ j) (j1 : j < pf (ld N y g ws v)) (e : u + 1 + i = v + 1 + j) : u = v := by
  rcases Int.lt_trichotomy u v with d | d | d
  · have := h.to.apart u hu v hv d
    omega
  · exact d
  · have := h.to.apart v hv u hu d
    omega

/-- Set keeps it: where an old thing comes to lead to a young one, its card is marked. -/
theorem CdI.set (h : WInv N y g ws Y G rs) (hc : CdI N O y g ws M Y G) (hl : ws.length = N + O) (hN : N ≤ 256) (hy : y ≤ N) (hO : O ≤ 1024) (hg : g ≤ O) (x i z : Int) : CdI N O y g (stW N y g ws x i z) (stM N y g ws x i z (nC O) M) Y G := by
  by_cases hfc : fcC N y g ws x i = 0
  · obtain ⟨t1, t2, t3, t4⟩ := fcC_zero hfc
    obtain ⟨l1, l2⟩ := h.full.lists (O := O) hN hy hO hg
    have hv : aV x ∈ Y ∨ aV x ∈ G := by
      unfold tB at t1
      rw [l1, l2] at t1
      have t5 := (Bool.and_eq_true _ _ ▸ t1 : aB x = true ∧ (Y.contains (aV x) || G.contains (aV x)) = true).2
      simpa using t5
    have hst := h.full.stands hy hv
    rw [hst] at t4
    have hi0 := field_i h.full hv t3 t4
    have hbd := iB_bd (O := O) hi0 hy hg
    have eW : stW N y g ws x i z = ws.set (aV x + 1 + i).toNat z := by
      unfold stW
      rw [if_pos hfc, if_pos hi0]
    obtain ⟨hF, hk⟩ := h.full.set (z := z) hl hy hg hv t3 t4
    rw [eW]
    have hsub : ∀ k, M.contains k = true → (stM N y g ws x i z (nC O) M).contains k = true := fun k hk => by
      unfold stM
      split
      · unfold mkM
        split
        · rw [has_addM, hk]
          rfl
        · exact hk
      · exact hk
    intro v hv' j j0 j1 ha hyo
    rw [hk v (Or.inr hv')] at j1
    have hi := field_i h.full (Or.inr hv') j0 j1
    have hbi := iB_bd (O := O) hi hy hg
    have e1 : ld N y g (ws.set (aV x + 1 + i).toNat z) (v + 1 + j) = if (aV x + 1 + i).toNat = (v + 1 + j).toNat then z else ld N y g ws (v + 1 + j) := by
      rw [ld_in hi, ld_in hi, getD_set _ _ _ _ (by omega)]
    rw [e1] at ha hyo
    have hvo := h.full.io v hv'
    by_cases e : (aV x + 1 + i).toNat = (v + 1 + j).toNat
    · rw [if_pos e] at ha hyo
      have e2 : aV x + 1 + i = v + 1 + j := by omega
      have hz := h.full.iy _ hyo
      have hav : hB N g (aV x) = true := by
        unfold hB
        rw [decide_eq_true_eq]
        rcases hv with d | d
        · have h1 := field_y h.full d t3 t4
          have h2 := field_o h.full hv' j0 j1
          omega
        · have := h.full.io _ d
          omega
      have eo := hB_yes hav
      have hsb : stB N y g ws x i z = true := by
        unfold stB
        rw [ha, hav, decide_eq_true hfc]
        simp only [Bool.true_and, Bool.and_true]
        unfold hB
        rw [decide_eq_true_eq]
        omega
      have hxG : aV x ∈ G := by
        rcases hv with d | d
        · have := h.full.iy _ d
          omega
        · exact d
      have evx : aV x = v := same_thing h.full hxG hv' t3 t4 j0 j1 e2
      rw [Bool.and_eq_true]
      refine ⟨cB_old hvo.1 hvo.2 hg, ?_⟩
      unfold stM
      rw [if_pos hsb, evx, mkM_yes (cB_old hvo.1 hvo.2 hg), has_addM]
      simp
    · rw [if_neg e] at ha hyo
      have h1 := hc v hv' j j0 j1 ha hyo
      rw [Bool.and_eq_true] at h1 ⊢
      exact ⟨h1.1, hsub _ h1.2⟩
  · obtain ⟨e1, e2⟩ := fc_no2 (z := z) (c := nC O) (M := M) hfc
    rw [e1, e2]
    exact hc
end

end Go.Proofs.YtakofbkmhmcnfabGreat

/- Cards: what is done keeps the wood in order. -/
namespace Go.Proofs.YtakofbkmhmcnfabGreat
open Go.RowKit W Kp Stl

/-- How great a wood is. -/
structure Wbd (a : Wc) (s : Wst) : Prop where
  n0 : 16 ≤ a.N
  n1 : a.N ≤ 256
  o1 : a.O ≤ 1024
  y1 : s.y ≤ a.N
  g1 : s.g ≤ a.O
  l1 : s.ws.length = a.N + a.O
  r1 : s.rs.length = 12
/-- A wood in order: roots and fields lead to things alone, cards are marked. -/
structure KInv (a : Wc) (s : Wst) (Y G : List Int) : Prop where
  inv : WInv a.N s.y s.g s.ws Y G s.rs
  cd : CdI a.N a.O s.y s.g s.ws s.M Y G

section
variable {a : Wc} {s : Wst} {Y G : List Int}

theorem KInv.root (h : KInv a s Y G) (k : Nat) (x : Int) (hx : aB x = true → aV x ∈ Y ∨ aV x ∈ G) : KInv a { s with rs := s.rs.set k x } Y G := ⟨h.inv.root k x hx, h.cd⟩
theorem KInv.set (h : KInv a s Y G) (hb : Wbd a s) (k m : Nat) (hk : k < 12) (i : Int) (hm : m < 12) :
    KInv a { s with ws := stW a.N s.y s.g s.ws (s.rs.getD k 0) i (s.rs.getD m 0), M := stM a.N s.y s.g s.ws (s.rs.getD k 0) i (s.rs.getD m 0) (nC a.O) s.M } Y G := by
  refine ⟨?_, CdI.set h.inv h.cd hb.l1 hb.n1 hb.y1 hb.o1 hb.g1 _ _ _⟩
  dsimp only
  by_cases hfc : fcC a.N s.y s.g s.ws (s.rs.getD k 0) i = 0
  · obtain ⟨t1, t2, t3, t4⟩ := fcC_zero hfc
    have hax : aB (s.rs.getD k 0) = true := by
      rw [← h.inv.tb (O := a.O) hb.n1 hb.y1 hb.o1 hb.g1 k (by rw [hb.r1]; exact hk)]
      exact t1
    have hv := h.inv.at k (by rw [hb.r1]; exact hk) hax
    rw [h.inv.full.stands hb.y1 hv] at t4
    have hi := field_i h.inv.full hv t3 t4
    unfold stW
    rw [if_pos hfc, if_pos hi]
    exact h.inv.set hb.l1 hb.y1 hb.g1 hv t3 t4 (fun d => h.inv.at m (by rw [hb.r1]; exact hm) d)
  · rw [(fc_no2 (M := s.M) (c := nC a.O) hfc).1]
    exact h.inv
theorem KInv.get (h : KInv a s Y G) (hb : Wbd a s) (k : Nat) (hk : k < 12) (i : Int) (hfc : fcC a.N s.y s.g s.ws (s.rs.getD k 0) i = 0) (ha : aB (ld a.N s.y s.g s.ws (aV (s.rs.getD k 0) + 1 + i)) = true) : aV (ld a.N s.y s.g s.ws (aV (s.rs.getD k 0) + 1 + i)) ∈ Y ∨ aV (ld a.N s.y s.g s.ws (aV (s.rs.getD k 0) + 1 + i)) ∈ G := by
  obtain ⟨t1, t2, t3, t4⟩ := fcC_zero hfc
  have hax : aB (s.rs.getD k 0) = true := by
    rw [← h.inv.tb (O := a.O) hb.n1 hb.y1 hb.o1 hb.g1 k (by rw [hb.r1]; exact hk)]
    exact t1
  have hv := h.inv.at k (by rw [hb.r1]; exact hk) hax
  rw [h.inv.full.stands hb.y1 hv] at t4
  exact h.inv.fd _ hv i t3 t4 ha
theorem KInv.make (h : KInv a s Y G) (hb : Wbd a s) (k f : Int) (m : Nat) : ∃ Y', KInv a { s with y := mkY a.N s.y k f, ws := mkW a.N s.y k f s.ws, rs := if 0 ≤ mkR a.N s.y k f then s.rs.set m (ew 3 (mkR a.N s.y k f)) else s.rs } Y' G := by
  cases hm : mkB a.N s.y k f
  · refine ⟨Y, ?_⟩
    have e1 : mkY a.N s.y k f = s.y := by unfold mkY; rw [hm]; rfl
    have e2 : mkW a.N s.y k f s.ws = s.ws := by unfold mkW; rw [hm]; rfl
    have e3 : ¬ 0 ≤ mkR a.N s.y k f := by unfold mkR; rw [hm, if_neg (by simp)]; omega
    rw [e1, e2, if_neg e3]
    exact h
  · have e3 : mkR a.N s.y k f = s.y := by unfold mkR; rw [hm]; rfl
    rw [e3, if_pos (by omega)]
    have h1 := h.inv.make (O := a.O) hb.l1 hm
    obtain ⟨z1, z2⟩ := ew_at s.y (by have := hb.y1; have := hb.n1; omega)
    exact ⟨Y ++ [(s.y : Int)], h1.root m _ (fun _ => Or.inl (by rw [z2]; simp)), CdI.make h.inv h.cd hb.l1 hm⟩
end

/-- What is done keeps a wood in order. -/
theorem doS_wood {c : Bc} {S : Ww × Wrs} {Y G : List Int} (h : KInv c.a S.1.s Y G) (hb : Wbd c.a S.1.s) (d A B C : Int) : ∃ Y', KInv c.a (doS c S d A B C).1.s Y' G := by
  unfold doS
  by_cases e0 : d = 0
  · rw [if_pos e0]
    exact h.make hb A B (rtN C)
  rw [if_neg e0]
  by_cases e1 : d = 1
  · rw [if_pos e1]
    exact ⟨Y, h.set hb _ _ (rtN_lt A) B (rtN_lt C)⟩
  rw [if_neg e1]
  by_cases e2 : d = 2
  · rw [if_pos e2]
    refine ⟨Y, ?_⟩
    unfold boG
    dsimp only
    split
    · rename_i hfc
      exact h.root _ _ (fun ha => h.get hb _ (rtN_lt A) B hfc ha)
    · exact h
  rw [if_neg e2]
  by_cases e3 : d = 3
  · rw [if_pos e3]
    refine ⟨Y, ?_⟩
    unfold boI
    dsimp only
    split
    · rename_i hv
      refine h.root _ _ (fun ha => ?_)
      have h1 := (at_enc 1 A hv).1
      rw [h1] at ha
      exact absurd ha (by decide)
    · exact h
  rw [if_neg e3]
  by_cases e4 : d = 4
  · rw [if_pos e4]
    exact ⟨Y, h.root _ _ (fun ha => absurd ha (by decide))⟩
  rw [if_neg e4]
  by_cases e5 : d = 5
  · rw [if_pos e5]
    refine ⟨Y, ?_⟩
    unfold boR Ww.rW
    dsimp only
    split
    · split
      · exact h
      · exact h
    · exact h
  rw [if_neg e5]
  exact ⟨Y, h⟩

end Go.Proofs.YtakofbkmhmcnfabGreat

/- How much stands beside, how many cards are marked: from step to step, from cut to cut. -/
namespace Go.Proofs.YtakofbkmhmcnfabGreat
open Go.RowKit W Kp Stl

theorem trn_wait {σ : Type} (o : SdOb σ) (is : σ → Int → Bool) (kp : σ → Int → Int × σ) (hl : ∀ s x, (o.wt (kp s x).2).length = (o.wt s).length) : ∀ (n : Nat) (s : σ) (d : List En), (o.wt (trn (cm o is kp) n s d).1).length + (trn (cm o is kp) n s d).2.length = (o.wt s).length + d.length
  | 0, s, d => rfl
  | n + 1, s, d => by
    have h1 := pts_wait o is kp hl s d
    have h2 := pts_len (cm o is kp) s d
    by_cases h : (pts (cm o is kp) s d).1.length = 0
    · rw [trn_stop _ _ _ _ h]
      dsimp only
      omega
    · rw [trn_go _ _ _ _ h, trn_wait o is kp hl n]
      omega
theorem st_len {σ : Type} (o : SdOb σ) (is : σ → Int → Bool) (kp : σ → Int → Int × σ) (nw : σ → Int → Int) (hl : ∀ s x, (o.wt (kp s x).2).length = (o.wt s).length) (s : σ) (r : List En) : (stR o is kp nw s r).length + (stQ o is kp nw s r).length ≤ r.length + (o.wt s).length := by
  have h1 := trn_wait o is kp hl ((r.filter (fun e => !is s e.2)).length + 1) s (r.filter (fun e => !is s e.2))
  have h2 : (stQ o is kp nw s r).length ≤ (o.wt (stS o is kp s r)).length := by
    unfold stQ
    rw [List.length_map]
    exact List.length_filter_le _ _
  have h3 : (stR o is kp nw s r).length ≤ (r.filter (fun e => is s e.2)).length := by
    unfold stR
    rw [List.length_map]
    exact List.length_filter_le _ _
  have h4 : (r.filter (fun e => is s e.2)).length + (r.filter (fun e => !is s e.2)).length = r.length := by
    clear h1 h2 h3
    induction r with
    | nil => rfl
    | cons e r ih =>
      simp only [List.filter_cons]
      cases is s e.2 <;> simp <;> omega
  have h5 : (o.wt (stS o is kp s r)).length ≤ (o.wt s).length + (r.filter (fun e => !is s e.2)).length := by
    unfold stS
    omega
  omega
/-- A cut makes no more of what stands beside. -/
theorem cut_len (a : Wc) (S : Ww) : (S.cut a).r.length + (S.cut a).q.length ≤ S.r.length + S.q.length := by
  unfold Ww.cut
  split
  · exact Nat.le_refl _
  · have h1 := st_len (noSd Cs) (fun s x => (S.s.k0 a).al s.1 x) (S.s.k0 a).ke (fun s x => (S.s.k0 a).nw s.1 x) (fun s x => ke_len (S.s.k0 a) s x) (S.t3 a) S.r
    have h2 : (S.t3 a).2.length = S.q.length := by
      unfold Ww.t3 Ck.sp
      rw [spr_len]
    dsimp only
    generalize S.t3 a = t at *
    have h3 : (noSd Cs).wt t = t.2 := rfl
    rw [h3] at h1
    unfold Ck.sR Ck.sQ
    omega

/-- How much a step makes more. -/
theorem doS_len (c : Bc) (S : Ww × Wrs) (d A B C : Int) : (doS c S d A B C).1.s.M.length ≤ S.1.s.M.length + 1 ∧ (doS c S d A B C).1.r.length + (doS c S d A B C).1.q.length ≤ S.1.r.length + S.1.q.length + 1 := by
  unfold doS
  split
  · exact ⟨Nat.le_succ _, Nat.le_succ _⟩
  split
  · exact ⟨stM_len .., Nat.le_succ _⟩
  split
  · exact ⟨Nat.le_succ _, Nat.le_succ _⟩
  split
  · exact ⟨Nat.le_succ _, Nat.le_succ _⟩
  split
  · exact ⟨Nat.le_succ _, Nat.le_succ _⟩
  split
  · unfold boR Ww.rW
    dsimp only
    split
    · split
      · exact ⟨Nat.le_succ _, Nat.le_succ _⟩
      · refine ⟨Nat.le_succ _, ?_⟩
        simp only [List.length_append, List.length_cons, List.length_nil]
        omega
    · exact ⟨Nat.le_succ _, Nat.le_succ _⟩
  · exact ⟨Nat.le_succ _, Nat.le_succ _⟩

end Go.Proofs.YtakofbkmhmcnfabGreat
