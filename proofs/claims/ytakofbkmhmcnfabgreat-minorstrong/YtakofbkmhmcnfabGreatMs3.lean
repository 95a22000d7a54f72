/- Without weak pairs, ephemerons and guardians: all things are pairs or vectors, from step to step, from cut to cut. -/
import Derived.Test.YtakofbkmhmcnfabGreatMs2
import Derived.Test.YtakofbkmhmcnfabGreatJ28
namespace Go.Proofs.YtakofbkmhmcnfabGreat
open Go.RowKit W Kp Stl

section
variable {a : Wc} {s : Wst} {Y G : List Int}

theorem K12.set (h : KInv a s Y G) (hk : K12 a s Y G) (hb : Wbd a s) (x i z : Int) (M rs : List Int) : K12 a { s with ws := stW a.N s.y s.g s.ws x i z, M := M, rs := rs } Y G := by
  intro v hv
  dsimp only
  by_cases h0 : fcC a.N s.y s.g s.ws x i = 0
  · obtain ⟨ht, _, i0, i1⟩ := fcC_zero h0
    obtain ⟨_, hx⟩ := tB_mem (O := a.O) h.inv.full hb.n1 hb.y1 hb.o1 hb.g1 ht
    rw [h.inv.full.stands hb.y1 hx] at i1
    unfold stW
    rw [if_pos h0]
    split
    · rw [(h.inv.full.set (z := z) hb.l1 hb.y1 hb.g1 hx i0 i1).2 v hv]
      exact hk v hv
    · exact hk v hv
  · unfold stW
    rw [if_neg h0]
    exact hk v hv
theorem K12.make (h : KInv a s Y G) (hk : K12 a s Y G) (hb : Wbd a s) {k f : Int} (hm : mkB a.N s.y k f = true) (h12 : k = 1 ∨ k = 2) (M rs : List Int) : K12 a { s with y := mkY a.N s.y k f, ws := mkW a.N s.y k f s.ws, M := M, rs := rs } (Y ++ [(s.y : Int)]) G := by
  obtain ⟨h1, h2⟩ := mkB_yes hm
  have hf := hc_bd k f h1
  have eY : mkY a.N s.y k f = s.y + 1 + f.toNat := by unfold mkY; rw [if_pos hm]
  have eW : mkW a.N s.y k f s.ws = fil s.ws s.y (hw k f) f.toNat := by unfold mkW; rw [if_pos hm]
  have hlw := hb.l1
  have hlt : s.y + f.toNat < s.ws.length := by omega
  have hyN := hb.y1
  intro v hv
  dsimp only
  rw [eY, eW]
  have hv2 : v ∈ Y ∨ v ∈ G ∨ v = s.y := by
    rcases hv with d | d
    · rcases List.mem_append.1 d with d | d
      · exact Or.inl d
      · exact Or.inr (Or.inr (by simpa using d))
    · exact Or.inr (Or.inl d)
  rcases hv2 with d | d | d
  · have hi := h.inv.full.iy v d
    have e1 : iB a.N (s.y + 1 + f.toNat) s.g v = true := (iB_bool _ _ _ _).2 (Or.inl (by omega))
    have e2 : iB a.N s.y s.g v = true := (iB_bool _ _ _ _).2 (Or.inl (by omega))
    rw [ld_in e1, fil_get _ _ _ _ _ hlt, if_neg (by omega), if_neg (by omega), ← ld_in e2]
    exact hk v (Or.inl d)
  · have hi := h.inv.full.io v d
    rw [ld_in (iB_o hi.1 hi.2), fil_get _ _ _ _ _ hlt, if_neg (by omega), if_neg (by omega), ← ld_in (y := s.y) (iB_o hi.1 hi.2)]
    exact hk v (Or.inr d)
  · have e1 : iB a.N (s.y + 1 + f.toNat) s.g v = true := (iB_bool _ _ _ _).2 (Or.inl (by omega))
    rw [ld_in e1, fil_get _ _ _ _ _ hlt, if_pos (by omega), (parts_head k f h1).1]
    exact h12
end

/-- What is done with pairs and vectors alone. -/
theorem doS_12 {c : Bc} {S : Ww × Wrs} {Y G : List Int} (h : KInv c.a S.1.s Y G) (hk : K12 c.a S.1.s Y G) (hb : Wbd c.a S.1.s) (d A B C : Int) (hd : d = 0 → A = 1 ∨ A = 2) : ∃ Y', KInv c.a (doS c S d A B C).1.s Y' G ∧ K12 c.a (doS c S d A B C).1.s Y' G := by
  by_cases e0 : d = 0
  · cases hm : mkB c.a.N S.1.s.y A B
    · unfold doS
      rw [if_pos e0]
      have e1 : mkY c.a.N S.1.s.y A B = S.1.s.y := by unfold mkY; rw [hm]; rfl
      have e2 : mkW c.a.N S.1.s.y A B S.1.s.ws = S.1.s.ws := by unfold mkW; rw [hm]; rfl
      have e3 : ¬ 0 ≤ mkR c.a.N S.1.s.y A B := by unfold mkR; rw [hm, if_neg (by simp)]; omega
      refine ⟨Y, ?_⟩
      unfold boM
      dsimp only
      rw [e1, e2, if_neg e3]
      exact ⟨h, hk⟩
    · have e3 : mkR c.a.N S.1.s.y A B = S.1.s.y := by unfold mkR; rw [hm]; rfl
      obtain ⟨z1, z2⟩ := ew_at S.1.s.y (by have := hb.y1; have := hb.n1; omega)
      have h1 := h.inv.make (O := c.a.O) hb.l1 hm
      refine ⟨Y ++ [(S.1.s.y : Int)], ?_⟩
      unfold doS
      rw [if_pos e0]
      unfold boM
      dsimp only
      rw [e3, if_pos (by omega)]
      exact ⟨⟨h1.root (rtN C) _ (fun _ => Or.inl (by rw [z2]; simp)), CdI.make h.inv h.cd hb.l1 hm⟩, K12.make h hk hb hm (hd e0) _ _⟩
  · have key : ∃ Y', KInv c.a (doS c S d A B C).1.s Y' G ∧ Y' = Y := by
      unfold doS
      rw [if_neg e0]
      by_cases e1 : d = 1
      · rw [if_pos e1]
        exact ⟨Y, h.set hb _ _ (rtN_lt A) B (rtN_lt C), rfl⟩
      rw [if_neg e1]
      by_cases e2 : d = 2
      · rw [if_pos e2]
        refine ⟨Y, ?_, rfl⟩
        unfold boG
        dsimp only
        split
        · rename_i hfc
          exact h.root _ _ (fun ha => h.get hb _ (rtN_lt A) B hfc ha)
        · exact h
      rw [if_neg e2]
      by_cases e3 : d = 3
      · rw [if_pos e3]
        refine ⟨Y, ?_, rfl⟩
        unfold boI
        dsimp only
        split
        · rename_i hv
          refine h.root _ _ (fun ha => ?_)
          have h1 := (at_enc 1 A hv).1
          rw [h1] at ha
          exact absurd ha (by decide)
        · exact h
      rw [if_neg e3]
      by_cases e4 : d = 4
      · rw [if_pos e4]
        exact ⟨Y, h.root _ _ (fun ha => absurd ha (by decide)), rfl⟩
      rw [if_neg e4]
      by_cases e5 : d = 5
      · rw [if_pos e5]
        refine ⟨Y, ?_, rfl⟩
        unfold boR Ww.rW
        dsimp only
        split
        · split
          · exact h
          · exact h
        · exact h
      rw [if_neg e5]
      exact ⟨Y, h, rfl⟩
    obtain ⟨Y', k1, k2⟩ := key
    subst k2
    refine ⟨Y', k1, ?_⟩
    unfold doS
    rw [if_neg e0]
    by_cases e1 : d = 1
    · rw [if_pos e1]
      exact K12.set h hk hb _ _ _ _ _
    rw [if_neg e1]
    by_cases e2 : d = 2
    · rw [if_pos e2]
      exact hk
    rw [if_neg e2]
    by_cases e3 : d = 3
    · rw [if_pos e3]
      exact hk
    rw [if_neg e3]
    by_cases e4 : d = 4
    · rw [if_pos e4]
      exact hk
    rw [if_neg e4]
    by_cases e5 : d = 5
    · rw [if_pos e5]
      unfold boR Ww.rW
      dsimp only
      split
      · split
        · exact hk
        · exact hk
      · exact hk
    rw [if_neg e5]
    exact hk

/-- What a cut leaves, where all things are pairs or vectors. -/
theorem cut_12 {a : Wc} {S : Ww} {Y G : List Int} (h : KInv a S.s Y G) (hk : K12 a S.s Y G) (hb : Wbd a S.s) (hf : S.full a = false) :
    (∃ G', KInv a (S.cut a).s [] G' ∧ K12 a (S.cut a).s [] G') ∧ (S.cut a).s.y = 0 ∧ (S.cut a).s.g ≤ S.s.g + S.s.y ∧
    (vwL a.N (S.cut a).s.y (S.cut a).s.g (S.cut a).s.ws (S.cut a).q (S.cut a).s.rs).1 = (vwL a.N S.s.y S.s.g S.s.ws S.q S.s.rs).1 ∧ (vwL a.N (S.cut a).s.y (S.cut a).s.g (S.cut a).s.ws (S.cut a).q (S.cut a).s.rs).2.2 = (vwL a.N S.s.y S.s.g S.s.ws S.q S.s.rs).2.2 ∧
    szV (vwL a.N S.s.y S.s.g S.s.ws S.q S.s.rs).2.2 ≤ (S.cut a).s.g := by
  have hr : S.s.y ≤ a.O - S.s.g := by
    unfold Ww.full at hf
    have := of_decide_eq_false hf
    omega
  obtain ⟨K, D, c⟩ := cut_rest h hb hr
  have hW := c.done h hb
  obtain ⟨v1, v2⟩ := mv_view c h hb hk S.q ((S.s.k0 a).sQ (S.t3 a) S.r)
  have hg : (S.s6 a).g ≤ a.O := by rw [s6_same c h hb hk]; exact c.li.mi.ci.hg
  have hs := view_size (O := a.O) hW.full hb.n1 (Nat.zero_le _) hb.o1 hg ((S.s.k0 a).sQ (S.t3 a) S.r) (S.s6 a).rs
  rw [v2] at hs
  unfold Ww.cut
  rw [hf, if_neg (by simp)]
  refine ⟨⟨G ++ K, ⟨hW, fun v _ i _ _ _ hy => by cases hy⟩, fun v hv => ?_⟩, rfl, mv_room c h hb hk, v1.symm, v2, by dsimp only; omega⟩
  rcases hv with d | d
  · cases d
  · have h1 := mv_12 c h hb hk d
    show pk (ld a.N 0 (S.s6 a).g (S.s6 a).ws v) = 1 ∨ pk (ld a.N 0 (S.s6 a).g (S.s6 a).ws v) = 2
    rw [s6_same c h hb hk, ld_old (y := S.s.y) (by have := (c.li.mi.bd d).1; have e : (S.s.k0 a).N = a.N := rfl; omega) hb.y1]
    exact h1

/-- All things of a wood are pairs or vectors, and it is in order. -/
def Sok (a : Wc) (s : Wst) : Prop := ∃ Y G, KInv a s Y G ∧ K12 a s Y G
theorem Sok.start (a : Wc) (n o : Nat) : Sok a (bo0 n o).1.s := by
  refine ⟨[], [], ⟨⟨Full2.start, fun x hx ha => ?_, fun v hv => ?_⟩, fun v hv => (by cases hv)⟩, fun v hv => ?_⟩
  · have hx : x ∈ tw 2 12 := hx
    have e : x = 2 := by simpa [tw] using hx
    rw [e, aB_two] at ha
    cases ha
  · rcases hv with d | d <;> cases d
  · rcases hv with d | d <;> cases d
theorem Sok.do {c : Bc} {S : Ww × Wrs} (h : Sok c.a S.1.s) (hb : Wbd c.a S.1.s) (d A B C : Int) (hd : d = 0 → A = 1 ∨ A = 2) : Sok c.a (doS c S d A B C).1.s := by
  obtain ⟨Y, G, h1, h2⟩ := h
  obtain ⟨Y', h3, h4⟩ := doS_12 h1 h2 hb d A B C hd
  exact ⟨Y', G, h3, h4⟩
/-- What a cut leaves where all things are pairs or vectors. -/
theorem strong_cut {a : Wc} {S : Ww} (h : Sok a S.s) (hb : Wbd a S.s) : Sok a (S.cut a).s ∧ (vwL a.N (S.cut a).s.y (S.cut a).s.g (S.cut a).s.ws (S.cut a).q (S.cut a).s.rs).1 = (vwL a.N S.s.y S.s.g S.s.ws S.q S.s.rs).1 ∧ (vwL a.N (S.cut a).s.y (S.cut a).s.g (S.cut a).s.ws (S.cut a).q (S.cut a).s.rs).2.2 = (vwL a.N S.s.y S.s.g S.s.ws S.q S.s.rs).2.2 ∧
    ((S.code a = 0 ∧ (S.cut a).s.y = 0 ∧ (S.cut a).s.g ≤ S.s.g + S.s.y ∧ szV (vwL a.N S.s.y S.s.g S.s.ws S.q S.s.rs).2.2 ≤ (S.cut a).s.g) ∨ (S.code a = 3 ∧ (S.cut a).s.y = S.s.y ∧ (S.cut a).s.g = S.s.g ∧ (a.O : Int) - S.s.g < S.s.y)) := by
  obtain ⟨Y, G, h1, h2⟩ := h
  cases hf : S.full a
  · obtain ⟨⟨G', g1, g2⟩, e1, e2, e3, e4, e5⟩ := cut_12 h1 h2 hb hf
    exact ⟨⟨[], G', g1, g2⟩, e3, e4, Or.inl ⟨by unfold Ww.code; rw [hf, if_neg (by simp)], e1, e2, e5⟩⟩
  · have ec : S.cut a = S := by unfold Ww.cut; rw [if_pos hf]
    rw [ec]
    refine ⟨⟨Y, G, h1, h2⟩, rfl, rfl, Or.inr ⟨by unfold Ww.code; rw [hf, if_pos rfl], rfl, rfl, ?_⟩⟩
    unfold Ww.full at hf
    have := of_decide_eq_true hf
    have := hb.g1
    omega

end Go.Proofs.YtakofbkmhmcnfabGreat
