/- Without weak pairs, ephemerons and guardians: behind a small cut roots lead to the same; lists alone. -/
import Derived.Test.YtakofbkmhmcnfabGreatJ28
import Derived.Test.YtakofbkmhmcnfabGreatVb1
import Derived.Test.YtakofbkmhmcnfabGreatMs1
namespace Go.Proofs.YtakofbkmhmcnfabGreat
open Go.RowKit W Kp Stl

theorem dk_aB {x : Int} (h : dk x = 3) : aB x = true := by
  unfold aB
  have h0 : dc x = 0 := by
    unfold dk at h
    split at h
    · assumption
    · omega
  rw [h, h0]
  rfl
theorem aB_dk {x : Int} (h : aB x = true) : dk x = 3 := by
  unfold aB at h
  rw [Bool.and_eq_true] at h
  simpa using h.2
/-- All things are pairs or vectors. -/
def K12 (a : Wc) (s : Wst) (Y G : List Int) : Prop := ∀ v, (v ∈ Y ∨ v ∈ G) → pk (ld a.N s.y s.g s.ws v) = 1 ∨ pk (ld a.N s.y s.g s.ws v) = 2

section
variable {a : Wc} {S : Ww} {Y G K D : List Int}

/-- Where a thing is behind the cut. -/
def mvF (a : Wc) (S : Ww) (G : List Int) (v : Int) : Int := if v ∈ G then v else (S.s4 a).f v
def mvR (a : Wc) (S : Ww) (G : List Int) (v : Int) : Prop := ∃ b, (S.s.k0 a).or (S.s.z0 G) (S.s4 a) v b

theorem mv_or (c : CutR a S G K D) {v b : Int} (o : (S.s.k0 a).or (S.s.z0 G) (S.s4 a) v b) : mvF a S G v = b := by
  unfold mvF
  rcases o with ⟨e, d⟩ | ⟨d1, d2, d3⟩
  · have d : b ∈ G := d
    rw [e, if_pos d]
  · rw [if_neg (fun hG => ?_), d2]
    have h1 := c.li.mi.bd (List.mem_append_left K hG)
    exact c.li.mi.ci.notT h1.1 d1
theorem mv_12 (c : CutR a S G K D) (h : KInv a S.s Y G) (hb : Wbd a S.s) (hk : K12 a S.s Y G) {v : Int} (hv : v ∈ G ++ K) : pk ((S.s.k0 a).ld (S.s4 a) v) = 1 ∨ pk ((S.s.k0 a).ld (S.s4 a) v) = 2 := by
  have hT : (S.s.k0 a).T = Y := Tw_eq h.inv.full hb.n1 hb.y1 hb.o1 hb.g1
  obtain ⟨u, o⟩ := c.li.mi.from hv
  rw [c.li.mi.hd u v o]
  refine hk u ?_
  rcases o with ⟨e, d⟩ | ⟨d, _⟩
  · exact Or.inr (by rw [e]; exact d)
  · rw [hT] at d
    exact Or.inl d
theorem wk_none (c : CutR a S G K D) (h : KInv a S.s Y G) (hb : Wbd a S.s) (hk : K12 a S.s Y G) : (S.s4 a).wk = [] ∧ (S.s4 a).ep = [] := by
  refine ⟨List.eq_nil_iff_forall_not_mem.2 (fun x hx => ?_), List.eq_nil_iff_forall_not_mem.2 (fun x hx => ?_)⟩
  · obtain ⟨h1, h2⟩ := c.we.wk x hx
    have := mv_12 c h hb hk h1
    omega
  · obtain ⟨h1, h2⟩ := c.we.ep x hx
    have := mv_12 c h hb hk h1
    omega
theorem s6_same (c : CutR a S G K D) (h : KInv a S.s Y G) (hb : Wbd a S.s) (hk : K12 a S.s Y G) : S.s6 a = S.s4 a := by
  obtain ⟨e1, e2⟩ := wk_none c h hb hk
  have e5 : S.s5 a = S.s4 a := by
    unfold Ww.s5 Ck.mw
    rw [e1]
    rfl
  unfold Ww.s6 Ck.be
  rw [e5, e2]
  rfl
/-- A word that was told anew where its thing is elsewhere. -/
theorem mv_word (c : CutR a S G K D) {x0 x : Int} (hm : (S.s.k0 a).ml (S.s4 a) x0 x) (hx : aB x = true → aV x ∈ G ++ K) (hx0 : aB x0 = true → aV x0 ∈ (S.s.k0 a).T ∨ aV x0 ∈ G) : Wmv (mvR a S G) (mvF a S G) x0 x := by
  rcases hm with e | ⟨g1, g2, g3⟩
  · subst e
    by_cases h3 : dk x = 3
    · have ha := dk_aB h3
      have h1 := hx ha
      have h2 : aV x ∈ G := (hx0 ha).resolve_left (c.li.mi.ci.notT (c.li.mi.bd h1).1)
      rw [aV_yes x ha] at h2
      exact Or.inl ⟨h3, h3, ⟨dn x, Or.inl ⟨rfl, h2⟩⟩, by unfold mvF; rw [if_pos h2]⟩
    · exact Or.inr ⟨h3, rfl, rfl⟩
  · have ha : aB x0 = true ∧ aV x0 ∈ (S.s.k0 a).T := by
      unfold Ck.yg at g1
      rw [Bool.and_eq_true] at g1
      exact ⟨g1.1, by simpa using g1.2⟩
    have hH := c.li.mi.fh _ ha.2 g2
    have hbd := c.li.mi.bdH hH
    have hN := c.li.mi.ci.hN'
    have hO := c.li.mi.ci.hO
    have hg := c.li.mi.ci.hg
    obtain ⟨n, hn⟩ : ∃ n : Nat, (S.s4 a).f (aV x0) = n := ⟨((S.s4 a).f (aV x0)).toNat, by omega⟩
    obtain ⟨w1, w2⟩ := ew_at n (by omega)
    rw [← hn, ← g3] at w1 w2
    have o : (S.s.k0 a).or (S.s.z0 G) (S.s4 a) (dn x0) ((S.s4 a).f (aV x0)) := Or.inr ⟨by rw [← aV_yes x0 ha.1]; exact ha.2, by rw [aV_yes x0 ha.1], g2⟩
    refine Or.inl ⟨aB_dk ha.1, aB_dk w1, ⟨_, o⟩, ?_⟩
    rw [mv_or c o, ← aV_yes x w1, w2, hn]
theorem mv_field (c : CutR a S G K D) (h : KInv a S.s Y G) (hb : Wbd a S.s) (hk : K12 a S.s Y G) {v b : Int} (o : (S.s.k0 a).or (S.s.z0 G) (S.s4 a) v b) {i : Int} (i0 : 0 ≤ i) (i1 : i < pf ((S.s.k0 a).l0 (S.s.z0 G) v)) : Wmv (mvR a S G) (mvF a S G) ((S.s.k0 a).l0 (S.s.z0 G) (v + 1 + i)) ((S.s.k0 a).ld (S.s4 a) (b + 1 + i)) := by
  have hbm := c.li.mi.mem o
  have hd := c.li.mi.hd v b o
  have hv : v ∈ (S.s.k0 a).T ∨ v ∈ G := by
    rcases o with ⟨e, d⟩ | ⟨d, _⟩
    · exact Or.inr (by rw [e]; exact d)
    · exact Or.inl d
  refine mv_word c (c.li.mi.fd v b o i i0 i1) (fun ha => ?_) (fun ha => c.hz v hv i i0 i1 ha)
  have h12 := mv_12 c h hb hk hbm
  rcases c.li.fields c.he c.hz c.hc hbm i0 (by rw [hd]; exact i1) ha with d | d | d
  · exact d
  · omega
  · omega
/-- Things, and where they are behind the cut. -/
theorem mv_bi (c : CutR a S G K D) (h : KInv a S.s Y G) (hb : Wbd a S.s) (hk : K12 a S.s Y G) (Q Q' : List En) : Bi (mvR a S G) (mvF a S G) (Y ++ G) (fun v => pk (ld a.N S.s.y S.s.g S.s.ws v)) (shL a.N S.s.y S.s.g S.s.ws Q) (G ++ K) (fun v => pk (ld a.N 0 (S.s4 a).g (S.s4 a).ws v)) (shL a.N 0 (S.s4 a).g (S.s4 a).ws Q') := by
  have hT : (S.s.k0 a).T = Y := Tw_eq h.inv.full hb.n1 hb.y1 hb.o1 hb.g1
  have hW := c.done h hb
  rw [s6_same c h hb hk] at hW
  have hYG : ∀ v, mvR a S G v → v ∈ Y ∨ v ∈ G := fun v ⟨b, o⟩ => by
    rcases o with ⟨e, d⟩ | ⟨d, _⟩
    · exact Or.inr (by rw [e]; exact d)
    · rw [hT] at d
      exact Or.inl d
  have eld : ∀ b, b ∈ G ++ K → ∀ i, 0 ≤ i → ld a.N 0 (S.s4 a).g (S.s4 a).ws (b + i) = (S.s.k0 a).ld (S.s4 a) (b + i) := fun b hbm i i0 => ld_old (by have := (c.li.mi.bd hbm).1; have e : (S.s.k0 a).N = a.N := rfl; omega) hb.y1
  have eld0 : ∀ b, b ∈ G ++ K → ld a.N 0 (S.s4 a).g (S.s4 a).ws b = (S.s.k0 a).ld (S.s4 a) b := fun b hbm => by
    have := eld b hbm 0 (by omega)
    rwa [Int.add_zero] at this
  refine ⟨fun v hv => List.mem_append.2 (hYG v hv), fun v ⟨b, o⟩ => by rw [mv_or c o]; exact c.li.mi.mem o, fun u v ⟨b, o⟩ ⟨b', o'⟩ e => ?_, fun v ⟨b, o⟩ => ?_, fun v ⟨b, o⟩ => ?_⟩
  · rw [mv_or c o, mv_or c o'] at e
    subst e
    rcases o with ⟨e1, d1⟩ | ⟨d1, d2, d3⟩ <;> rcases o' with ⟨e2, g1⟩ | ⟨g1, g2, g3⟩
    · omega
    · have h1 := c.li.mi.zh b d1
      have h2 := c.li.mi.hlo b (g2 ▸ c.li.mi.fh v g1 (by rw [g2]; exact g3))
      omega
    · have h1 := c.li.mi.zh b g1
      have h2 := c.li.mi.hlo b (d2 ▸ c.li.mi.fh u d1 (by rw [d2]; exact d3))
      omega
    · exact c.li.mi.inj u d1 v g1 (by rw [d2]; exact d3) (d2.trans g2.symm)
  · have hbm := c.li.mi.mem o
    rw [mv_or c o]
    show pk (ld a.N 0 (S.s4 a).g (S.s4 a).ws b) = _
    rw [eld0 b hbm, c.li.mi.hd v b o]
    rfl
  · have hbm := c.li.mi.mem o
    have hd := c.li.mi.hd v b o
    have hv := hYG v ⟨b, o⟩
    have k1 := hk v hv
    have n5 : pk (ld a.N S.s.y S.s.g S.s.ws v) ≠ 5 := by omega
    have hd2 : ld a.N 0 (S.s4 a).g (S.s4 a).ws b = ld a.N S.s.y S.s.g S.s.ws v := (eld0 b hbm).trans hd
    have n5' : pk (ld a.N 0 (S.s4 a).g (S.s4 a).ws b) ≠ 5 := by rw [hd2]; exact n5
    rw [mv_or c o]
    have l1 := shL_n h.inv.full hb.y1 Q hv n5
    have l2 := shL_n hW.full (Nat.zero_le _) Q' (Or.inr hbm) n5'
    rw [hd2] at l2
    have hp := pf_bd (ld a.N S.s.y S.s.g S.s.ws v)
    refine Wls.of (by omega) (fun i hi => ?_)
    have s1 : (shL a.N S.s.y S.s.g S.s.ws Q v).getD i 0 = ld a.N S.s.y S.s.g S.s.ws (v + 1 + (i : Int)) := by
      unfold shL at hi ⊢
      rw [if_neg n5] at hi ⊢
      rw [List.getD_eq_getElem?_getD, List.getElem?_eq_getElem hi]
      simp
    have hi2 : i < (shL a.N 0 (S.s4 a).g (S.s4 a).ws Q' b).length := by omega
    have s2 : (shL a.N 0 (S.s4 a).g (S.s4 a).ws Q' b).getD i 0 = ld a.N 0 (S.s4 a).g (S.s4 a).ws (b + 1 + (i : Int)) := by
      unfold shL at hi2 ⊢
      rw [if_neg n5'] at hi2 ⊢
      rw [List.getD_eq_getElem?_getD, List.getElem?_eq_getElem hi2]
      simp
    rw [s1, s2]
    have e3 := eld b hbm (1 + i) (by omega)
    rw [← Int.add_assoc] at e3
    rw [e3]
    exact mv_field c h hb hk o (i := i) (by omega) (by show (i : Int) < pf (ld a.N S.s.y S.s.g S.s.ws v); omega)
/-- Behind the cut roots lead to the same. -/
theorem mv_view (c : CutR a S G K D) (h : KInv a S.s Y G) (hb : Wbd a S.s) (hk : K12 a S.s Y G) (Q Q' : List En) : (vwL a.N S.s.y S.s.g S.s.ws Q S.s.rs).1 = (vwL a.N 0 (S.s6 a).g (S.s6 a).ws Q' (S.s6 a).rs).1 ∧ (vwL a.N 0 (S.s6 a).g (S.s6 a).ws Q' (S.s6 a).rs).2.2 = (vwL a.N S.s.y S.s.g S.s.ws Q S.s.rs).2.2 := by
  have hW := c.done h hb
  rw [s6_same c h hb hk] at hW ⊢
  have hT : (S.s.k0 a).T = Y := Tw_eq h.inv.full hb.n1 hb.y1 hb.o1 hb.g1
  obtain ⟨e1, e2⟩ := h.inv.full.lists (O := a.O) hb.n1 hb.y1 hb.o1 hb.g1
  obtain ⟨e3, e4⟩ := hW.full.lists (O := a.O) hb.n1 (Nat.zero_le _) hb.o1 c.li.mi.ci.hg
  have hl : Wls (Wmv (mvR a S G) (mvF a S G)) S.s.rs (S.s4 a).rs := by
    refine Wls.of (by rw [hb.r1, c.rl]) (fun i hi => ?_)
    rw [hb.r1] at hi
    refine mv_word c (c.rm i hi) (fun ha => ?_) (fun ha => ?_)
    · have hm : (S.s4 a).rs.getD i 0 ∈ (S.s4 a).rs := by
        rw [List.getD_eq_getElem?_getD, List.getElem?_eq_getElem (by rw [c.rl]; exact hi)]
        exact List.getElem_mem _
      exact (c.root h hb _ hm ha).2
    · rw [hT]
      have hm : S.s.rs.getD i 0 ∈ S.s.rs := by
        rw [List.getD_eq_getElem?_getD, List.getElem?_eq_getElem (by rw [hb.r1]; exact hi)]
        exact List.getElem_mem _
      exact h.inv.rt _ hm ha
  unfold vwL
  rw [e1, e2, e3, e4, List.nil_append]
  obtain ⟨b1, b2, _⟩ := walk_bi (mv_bi c h hb hk Q Q') hl (n := (Y ++ G).length) (n' := (G ++ K).length) (Nat.le_refl _) (Nat.le_refl _)
  exact ⟨b1, b2⟩
/-- No more words are in use. -/
theorem mv_room (c : CutR a S G K D) (h : KInv a S.s Y G) (hb : Wbd a S.s) (hk : K12 a S.s Y G) : (S.s6 a).g ≤ S.s.g + S.s.y := by
  rw [s6_same c h hb hk]
  have hT : (S.s.k0 a).T = Y := Tw_eq h.inv.full hb.n1 hb.y1 hb.o1 hb.g1
  have t1 := c.li.mi.full.to.sum
  have t0 := h.inv.full.to.sum
  have ty := h.inv.full.ty.sum
  have nd := c.li.mi.full.to.nodup
  rw [sumF_app] at t1
  have nd2 : K.Nodup := (List.nodup_append.1 nd).2.1
  have eG : sumF (szL (ld (S.s.k0 a).N (S.s.k0 a).y (S.s4 a).g (S.s4 a).ws)) (S.s.z0 G).G = sumF (szL (ld a.N S.s.y S.s.g S.s.ws)) G := sumF_same (fun v hv => by
    have := c.li.mi.hd v v (Or.inl ⟨rfl, hv⟩)
    unfold szL
    have this : ld (S.s.k0 a).N (S.s.k0 a).y (S.s4 a).g (S.s4 a).ws v = ld a.N S.s.y S.s.g S.s.ws v := this
    rw [this])
  have eK : sumF (szL (ld (S.s.k0 a).N (S.s.k0 a).y (S.s4 a).g (S.s4 a).ws)) K ≤ sumF (szL (ld a.N S.s.y S.s.g S.s.ws)) Y := by
    refine sumF_into (fun b v => (S.s4 a).f v = b) (fun b b' v h1 h2 => h1.symm.trans h2) K Y nd2 h.inv.full.ty.nodup (fun b hbK => ?_)
    obtain ⟨v, hv, e⟩ := c.li.mi.sur b hbK
    have hlo := c.li.mi.hlo b hbK
    have := c.li.mi.hd v b (Or.inr ⟨hv, e, by omega⟩)
    refine ⟨v, by rw [← hT]; exact hv, e, ?_⟩
    unfold szL
    have this : ld (S.s.k0 a).N (S.s.k0 a).y (S.s4 a).g (S.s4 a).ws b = ld a.N S.s.y S.s.g S.s.ws v := this
    rw [this]
  have eN : ((S.s.k0 a).N : Int) = a.N := rfl
  omega
end

end Go.Proofs.YtakofbkmhmcnfabGreat
