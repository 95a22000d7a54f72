/- Joined: Gl1, Gg1, Gk1, Gk2. -/
import Derived.Test.YtjhnhbeimjnloaaJ18
import Derived.Test.YtjhnhbeimjnloaaJ19
import Derived.Test.YtjhnhbeimjnloaaJ21
import Derived.Test.YtjhnhbeimjnloaaJ00
/- A grove that a statement does steps in: Do, View, groveBegun: contracts. -/
namespace Go.Proofs.Ytjhnhbeimjnloaa
open Go.RowKit W Kp Stl

structure Sg (gp rb gb base : Nat) (most grow : Int) (F : Nat → Prop) (s : Wrs) (j : Nat) (w : World) : Prop where
  J : (grO gp most grow rb).J F s w
  gi : Gi s j
  cg : w.heap[gb]? = some (.cells #[.pointer (some ⟨gp, 0, none⟩)] 24 (0, 0))
  nf : ¬ F gb
  lo : ∀ b, F b → base ≤ b
  bl : base ≤ w.heap.size
section
variable {gp rb gb base j : Nat} {most grow : Int} {F : Nat → Prop} {s : Wrs} {w w' : World} {g : Gfn}
theorem Sg.below (h : Sg gp rb gb base most grow F s j w) (hb : Below w.heap.size w w') : Sg gp rb gb base most grow F s j w' :=
  ⟨(grO gp most grow rb).below h.J hb, h.gi, (hb.block gb (lt_of_some h.cg)).trans h.cg, h.nf, h.lo, Nat.le_trans h.bl hb.size⟩
theorem Sg.cell (h : Sg gp rb gb base most grow F s j w) : w.cell? ⟨gb, 0, none⟩ = some (.pointer (some ⟨gp, 0, none⟩)) ∧ gb < w.heap.size := ⟨by simp [World.cell?, h.cg], lt_of_some h.cg⟩
theorem Sg.low (h : Sg gp rb gb base most grow F s j w) {F' : Nat → Prop} (t : Tn F w F' w') : Below base w w' := t.fr.below h.bl (fun k e => h.lo k e)
theorem doS_any (h : Sg gp rb gb base most grow F s j w) (hg : ∀ T wt, Wiv T wt → Gok T wt (g T wt)) (hj : j ≤ 9000) (g0 : -1000000 ≤ grow) (g1 : grow ≤ 1000000) (m0 : -1000000 ≤ most) (m1 : most ≤ 1000000) (k R A B I n : Int) :
    Calls Try.prog 8 #[.pointer (some ⟨gp, 0, none⟩), hsV k R A B I n] w fun e w' => ∃ F', e = .returned (.int .i64 (s.dos g most grow k R A B I n).1) ∧ Sg gp rb gb base most grow F' (s.dos g most grow k R A B I n).2 (j + 1) w' ∧ Tn F w F' w' := by
  have hG := hg _ _ h.gi.iv
  refine (doG_any h.J (h.gi.wcv (by omega)) hG g0 g1 m0 m1 k R A B I n).mono ?_
  rintro e w' ⟨F', rfl, J', t⟩
  have lg := lt_of_some h.cg
  refine ⟨F', rfl, ⟨J', h.gi.dos (by omega) hG k R A B I n, (t.fr.block gb lg h.nf).trans h.cg, fun d => (t.sub gb d).elim h.nf (fun c => by omega), fun b d => (t.sub b d).elim (h.lo b) (fun c => Nat.le_trans h.bl c), Nat.le_trans h.bl t.fr.size⟩, t⟩
theorem viewS_any' (h : Sg gp rb gb base most grow F s j w) (hj : j ≤ 9000) :
    Calls Try.prog 9 #[.pointer (some ⟨gp, 0, none⟩)] w fun e w' => ∃ r2 d2 na nc, e = .returned (.agg #[.slice r2 12 d2, .slice na (Vr4.vwW s.T s.wt s.rs).2.2.length nc]) ∧ LpN w' w.heap.size r2 (Vr4.vwW s.T s.wt s.rs).1 ∧ LnN w' w.heap.size na (Vr4.vwW s.T s.wt s.rs).2.2 ∧ Below w.heap.size w w' := by
  obtain ⟨l, hl, _, _⟩ := h.J
  refine (viewG_any hl (h.gi.wvw (by omega)) h.gi.g5 h.gi.rv).mono ?_
  rintro e w' ⟨r2, d2, na, nn, nc, rfl, h1, h2, rfl, h3⟩
  exact ⟨r2, d2, na, nc, rfl, h1, h2, h3⟩
end

theorem gB_1 (g : Gfn) : ws0.dos g 16 8 4 0 0 0 0 0 = (0, ⟨[(1, [(0, 0), (0, 0)], false, false)], [(3, 0), (0, 0), (0, 0), (0, 0), (0, 0), (0, 0), (0, 0), (0, 0), (0, 0), (0, 0), (0, 0), (0, 0)], [], []⟩) := rfl
theorem gB_2 (g : Gfn) : (⟨[(1, [(0, 0), (0, 0)], false, false)], [(3, 0), (0, 0), (0, 0), (0, 0), (0, 0), (0, 0), (0, 0), (0, 0), (0, 0), (0, 0), (0, 0), (0, 0)], [], []⟩ : Wrs).dos g 16 8 6 1 0 0 0 0 = (0, ⟨[(1, [(0, 0), (0, 0)], false, false), (3, [(3, 0), (3, 0)], false, false)], [(3, 0), (3, 1), (0, 0), (0, 0), (0, 0), (0, 0), (0, 0), (0, 0), (0, 0), (0, 0), (0, 0), (0, 0)], [], []⟩) := rfl
theorem gB_3 (g : Gfn) : (⟨[(1, [(0, 0), (0, 0)], false, false), (3, [(3, 0), (3, 0)], false, false)], [(3, 0), (3, 1), (0, 0), (0, 0), (0, 0), (0, 0), (0, 0), (0, 0), (0, 0), (0, 0), (0, 0), (0, 0)], [], []⟩ : Wrs).dos g 16 8 2 0 0 0 0 0 = (0, ⟨[(1, [(0, 0), (0, 0)], false, false), (3, [(3, 0), (3, 0)], false, false)], [(0, 0), (3, 1), (0, 0), (0, 0), (0, 0), (0, 0), (0, 0), (0, 0), (0, 0), (0, 0), (0, 0), (0, 0)], [], []⟩) := rfl
theorem gB_v : (Vr4.vwW [(1, [(0, 0), (0, 0)], false, false), (3, [(3, 0), (3, 0)], false, false)] [] [(0, 0), (3, 1), (0, 0), (0, 0), (0, 0), (0, 0), (0, 0), (0, 0), (0, 0), (0, 0), (0, 0), (0, 0)]).2.2.length = 2 := by decide +kernel
theorem gB_u : usd [(1, [(0, 0), (0, 0)], false, false), (3, [(3, 0), (3, 0)], false, false)] = (6, 0) := rfl

theorem doJ_any {gp rb j : Nat} {most grow : Int} {F : Nat → Prop} {s : Wrs} {w : World} {g : Gfn} (h : (grO gp most grow rb).J F s w) (hi : Gi s j) (hg : ∀ T wt, Wiv T wt → Gok T wt (g T wt)) (hj : j ≤ 9000) (g0 : -1000000 ≤ grow) (g1 : grow ≤ 1000000) (m0 : -1000000 ≤ most) (m1 : most ≤ 1000000) (k R A B I n : Int) :
    Calls Try.prog 8 #[.pointer (some ⟨gp, 0, none⟩), hsV k R A B I n] w fun e w' => ∃ F', e = .returned (.int .i64 (s.dos g most grow k R A B I n).1) ∧ Hid ((grO gp most grow rb).J F' (s.dos g most grow k R A B I n).2 w' ∧ Gi (s.dos g most grow k R A B I n).2 (j + 1) ∧ Tn F w F' w') := by
  have hG := hg _ _ hi.iv
  refine (doG_any h (hi.wcv (by omega)) hG g0 g1 m0 m1 k R A B I n).mono ?_
  rintro e w' ⟨F', rfl, J', t⟩
  exact ⟨F', rfl, J', hi.dos (by omega) hG k R A B I n, t⟩

set_option maxRecDepth 100000 in
set_option maxHeartbeats 2000000 in
theorem groveBegun_any (w : World) : Calls Try.prog 6 #[] w fun e w' => e = .returned (.bool true) ∧ Below w.heap.size w w' := by
  obtain ⟨g, hg⟩ := gfn_ex
  have P := newG_yes 16 8 w (by decide) (by decide) (by decide)
  have HG : Hid (∀ T wt, Wiv T wt → Gok T wt (g T wt)) := hg
  clear hg
  go_enter Try.func6, Try.ntmps6
  go_wp2_with fail
  refine P.mono ?_
  clear P
  rintro e w1 ⟨gp, rb, F1, rfl, J1, lo1, hb1⟩
  have ba := (Below.refl w1.heap.size w1).alloc (Nat.le_refl _) (.cells #[.int .i64 0, .int .i64 0] 26)
  have J2 := (grO gp 16 8 rb).below J1 ba
  have P1 := doJ_any J2 Gi.start HG.out (by decide) (by decide) (by decide) (by decide) (by decide) 4 0 0 0 0 0
  rw [gB_1 g] at P1
  dsimp only at P1
  have H1 : Hid (Below w.heap.size w (w1.alloc (.cells #[.int .i64 0, .int .i64 0] 26)) ∧ ∀ b, F1 b → w.heap.size ≤ b) := ⟨hb1.trans (ba.mono hb1.size), lo1⟩
  clear J1 J2 lo1 hb1 ba
  go_wp2_with fail
  generalize w1.alloc (.cells #[.int .i64 0, .int .i64 0] 26) = w2 at *
  refine P1.mono ?_
  clear P1
  rintro e w3 ⟨F3, rfl, H3⟩
  have P2 := doJ_any H3.out.1 H3.out.2.1 HG.out (by decide) (by decide) (by decide) (by decide) (by decide) 6 1 0 0 0 0
  rw [gB_2 g] at P2
  dsimp only at P2
  go_wp2_with fail
  refine P2.mono ?_
  clear P2
  rintro e w4 ⟨F4, rfl, H4⟩
  have P3 := doJ_any H4.out.1 H4.out.2.1 HG.out (by decide) (by decide) (by decide) (by decide) (by decide) 2 0 0 0 0 0
  rw [gB_3 g] at P3
  dsimp only at P3
  go_wp2_with fail
  refine P3.mono ?_
  clear P3
  rintro e w5 ⟨F5, rfl, H5⟩
  have HB : Hid (Below w.heap.size w w5) := by
    have t := (H3.out.2.2.trans H4.out.2.2).trans H5.out.2.2
    exact H1.out.1.trans (t.fr.below H1.out.1.size (fun k e => H1.out.2 k e))
  obtain ⟨l, hl, _, _⟩ := H5.out.1
  have P4 := usedG_any hl H5.out.2.1.tl (by have := H5.out.2.1.tj; omega)
  rw [gB_u] at P4
  have HL : Hid (Gvy gp 16 8 l _ w5) := hl
  clear hl
  go_wp2_with fail
  refine P4.mono ?_
  clear P4
  rintro e w6 ⟨rfl, hb6⟩
  have P5 := viewG_any (HL.out.below hb6) (H5.out.2.1.wvw (by decide)) H5.out.2.1.g5 H5.out.2.1.rv
  have HB6 : Hid (Below w.heap.size w w6) := HB.out.trans (hb6.mono HB.out.size)
  clear hb6
  go_wp2_with fail
  refine P5.mono ?_
  clear P5
  rintro e w7 ⟨r2, d2, na, nn, nc, rfl, _, _, hnn, hb7⟩
  have hnn2 : nn = 2 := hnn.trans gB_v
  subst hnn2
  have HB7 : Hid (Below w.heap.size w (w7.alloc (.cells #[.slice r2 12 d2, .slice na 2 nc] 35))) := by
    have := HB6.out.trans (hb7.mono HB6.out.size)
    exact this.trans (((Below.refl w7.heap.size w7).alloc (Nat.le_refl _) _).mono this.size)
  clear hnn hb7
  go_wp2_with fail
  go_ret
  exact ⟨rfl, HB7.out⟩

end Go.Proofs.Ytjhnhbeimjnloaa

/- GroveGuards: what a script leaves of a vector that is registered: lists alone. -/
namespace Go.Proofs.Ytjhnhbeimjnloaa
open Go.RowKit W Kp Stl

theorem Gi.kps {s : Wrs} {j : Nat} (h : Gi s j) {X : Nat → Prop} {i : Nat} (hi : Alv s.T i) {v : Int × Int} (hk : Kps s.T s.wt X i v) : v ∈ (s.T.getD i t0).2.1 ∨ ∃ e ∈ s.wt, v = (3, e.2) := by
  rcases hk with ⟨_, hm⟩ | ⟨k, e⟩ | ⟨k, _, e⟩ | ⟨_, e0, he, _, e⟩
  · exact Or.inl hm
  · exact Or.inl (by rw [e]; exact getD_in (by rw [h.fl i hi (Or.inl k)]; decide))
  · exact Or.inl (by rw [e]; exact getD_in (by rw [h.fl i hi (Or.inr k)]; decide))
  · exact Or.inr ⟨e0, he, e⟩

section
variable {n j : Nat} {s : Wrs} {g : List Bool → List Bool} {mj : Bool}

end

section
variable {n j : Nat} {s : Wrs} {g : Gfn} {most grow : Int}

end

section
variable {m : Nat} {s : Wrs} {g : Gfn} {most grow : Int}
theorem dos_yes {k R A B I n : Int} {v : Int × Int} {s2 : Wrs} (hc : ckC k R A B n = 0) (k9 : k ≠ 9) (k12 : k ≠ 12) (k15 : k ≠ 15) (k16 : k ≠ 16) (e : s.rt g most grow k A.toNat B.toNat I n = (v, 0, s2)) : s.dos g most grow k R A B I n = (0, { s2 with rs := s2.rs.set R.toNat v }) := by
  unfold Wrs.dos
  rw [if_pos hc, if_neg k9, if_neg k12, if_neg k15, if_neg k16, e, if_pos rfl]
theorem dos_no {k R A B I n c : Int} {v : Int × Int} {s2 : Wrs} (hc : ckC k R A B n = 0) (k9 : k ≠ 9) (k12 : k ≠ 12) (k15 : k ≠ 15) (k16 : k ≠ 16) (e : s.rt g most grow k A.toNat B.toNat I n = (v, c, s2)) (h0 : c ≠ 0) : s.dos g most grow k R A B I n = (c, s2) := by
  unfold Wrs.dos
  rw [if_pos hc, if_neg k9, if_neg k12, if_neg k15, if_neg k16, e, if_neg h0]
end

end Go.Proofs.Ytjhnhbeimjnloaa

/- What a walk comes to: each node shows what its thing shows, told by the numbers of nodes: lists alone. -/
namespace Go.Proofs.Ytjhnhbeimjnloaa
open W

def swn (ms : List Int) (x : Int) : Int × Int := if dk x = 3 then (3, (ms.idxOf (dn x) : Int)) else (dk x, dn x)
theorem idx_pre {l l' : List Int} (h : l <+: l') {a : Int} (ha : a ∈ l) : l'.idxOf a = l.idxOf a := by
  obtain ⟨t, rfl⟩ := h
  rw [List.idxOf_append, if_pos ha]
theorem swn_pre {l l' : List Int} (h : l <+: l') {x : Int} (hx : dk x = 3 → dn x ∈ l) : swn l' x = swn l x := by
  unfold swn
  split
  · rename_i c
    rw [idx_pre h (hx c)]
  · rfl

section
variable {T : List Int} {kd : Int → Int} {sh : Int → List Int} {C : Int → Prop}

structure Shp (T : List Int) (kd : Int → Int) (sh : Int → List Int) (s s' : Vst) (l : List Int) (vs : List (Int × Int)) : Prop where
  ok : VOk T s'
  pre : s.1 <+: s'.1
  old : ∀ i, i < s.1.length → s'.2[i]? = s.2[i]?
  vl : vs = l.map (swn s'.1)
  ref : ∀ x ∈ l, dk x = 3 → dn x ∈ s'.1
  nw : ∀ i, s.1.length ≤ i → i < s'.1.length → s'.2[i]? = some (kd (s'.1.getD i 0), (sh (s'.1.getD i 0)).map (swn s'.1)) ∧ ∀ x ∈ sh (s'.1.getD i 0), dk x = 3 → dn x ∈ s'.1

theorem Shp.trans {s s' s'' : Vst} {l l2 : List Int} {vs us : List (Int × Int)} (h : Shp T kd sh s s' l vs) (k : Shp T kd sh s' s'' l2 us) : Shp T kd sh s s'' (l ++ l2) (vs ++ us) := by
  have l1 := h.pre.length_le
  have sub : ∀ a, a ∈ s'.1 → a ∈ s''.1 := fun a ha => k.pre.subset ha
  refine ⟨k.ok, h.pre.trans k.pre, fun i hi => (k.old i (by omega)).trans (h.old i hi), ?_, fun x hx h3 => ?_, fun i h1 h2 => ?_⟩
  · rw [List.map_append, ← k.vl, h.vl]
    congr 1
    exact List.map_congr_left (fun x hx => (swn_pre k.pre (h.ref x hx)).symm)
  · rcases List.mem_append.1 hx with hx | hx
    · exact sub _ (h.ref x hx h3)
    · exact k.ref x hx h3
  · by_cases c : i < s'.1.length
    · obtain ⟨e1, e2⟩ := h.nw i h1 c
      rw [pre_getD k.pre c]
      refine ⟨(k.old i c).trans (e1.trans ?_), fun x hx h3 => sub _ (e2 x hx h3)⟩
      congr 2
      exact List.map_congr_left (fun x hx => (swn_pre k.pre (e2 x hx)).symm)
    · exact k.nw i (by omega) h2
theorem Shp.refl {s : Vst} (h : VOk T s) {l : List Int} {vs : List (Int × Int)} (hv : vs = l.map (swn s.1)) (hr : ∀ x ∈ l, dk x = 3 → dn x ∈ s.1) : Shp T kd sh s s l vs :=
  ⟨h, List.prefix_refl _, fun _ _ => rfl, hv, hr, fun i h1 h2 => by omega⟩

def Smt (T : List Int) (kd : Int → Int) (sh : Int → List Int) (C : Int → Prop) (n : Nat) (M : Vst → Int → Vst) : Prop :=
  ∀ s a, VOk T s → C a → a ∉ s.1 → T.length ≤ s.1.length + n → Shp T kd sh s (M s a) [] [] ∧ a ∈ (M s a).1 ∧ (M s a).1.idxOf a = s.1.length

theorem vst_shp {n : Nat} {M : Vst → Int → Vst} (hC : ∀ a, C a → a ∈ T) (hM : Smt T kd sh C n M) {s : Vst} (h : VOk T s) (hn : T.length ≤ s.1.length + n) {x : Int} (hx : dk x = 3 → C (dn x)) : Shp T kd sh s (vst M T s x).2 [x] [(vst M T s x).1] := by
  unfold vst
  by_cases h3 : dk x = 3
  · rw [if_pos h3, if_pos (List.contains_iff_mem.2 (hC _ (hx h3)))]
    by_cases hs : s.1.contains (dn x) = true
    · rw [if_pos hs]
      refine Shp.refl h ?_ (fun y hy _ => by rw [List.mem_singleton.1 hy]; exact List.contains_iff_mem.1 hs)
      simp [swn, h3]
    · rw [if_neg hs]
      obtain ⟨m1, m2, m3⟩ := hM s (dn x) h (hx h3) (fun c => hs (List.contains_iff_mem.2 c)) hn
      refine ⟨m1.ok, m1.pre, m1.old, ?_, fun y hy _ => by rw [List.mem_singleton.1 hy]; exact m2, m1.nw⟩
      simp [swn, h3, m3]
  · rw [if_neg h3]
    refine Shp.refl h ?_ (fun y hy c => by rw [List.mem_singleton.1 hy] at c; exact absurd c h3)
    simp [swn, h3]
theorem vls_shp {n : Nat} {M : Vst → Int → Vst} (hC : ∀ a, C a → a ∈ T) (hM : Smt T kd sh C n M) {s : Vst} (h : VOk T s) (hn : T.length ≤ s.1.length + n) (l : List Int) (hl : ∀ x ∈ l, dk x = 3 → C (dn x)) : Shp T kd sh s (vls M T s l).2 l (vls M T s l).1 := by
  have key : ∀ k, k ≤ l.length → Shp T kd sh s (vls M T s (l.take k)).2 (l.take k) (vls M T s (l.take k)).1 := by
    intro k
    induction k with
    | zero => intro _; exact Shp.refl h (by simp [vls_nil]) (fun x hx => by simp at hx)
    | succ k ih =>
      intro hk
      have ih := ih (by omega)
      rw [List.take_succ_eq_append_getElem (by omega), vls_snoc]
      have hl2 := ih.pre.length_le
      exact ih.trans (vst_shp hC hM ih.ok (by omega) (hl _ (List.getElem_mem _)))
  have := key l.length (Nat.le_refl _)
  rwa [List.take_length] at this
theorem met_shp (hC : ∀ a, C a → a ∈ T) (hS : ∀ a, C a → ∀ x ∈ sh a, dk x = 3 → C (dn x)) : ∀ n, Smt T kd sh C n (met T kd sh n)
  | 0 => fun s a h ha hn hl => by
    have := h.lt (hC a ha) hn
    omega
  | n + 1 => fun s a h ha hn hl => by
    have h0 := h.more (hC a ha) hn (kd a, [])
    have S := vls_shp (kd := kd) hC (met_shp hC hS n) h0 (by simp; omega) (sh a) (hS a ha)
    show Shp T kd sh s ((vls (met T kd sh n) T (s.1 ++ [a], s.2 ++ [(kd a, [])]) (sh a)).2.1, (vls (met T kd sh n) T (s.1 ++ [a], s.2 ++ [(kd a, [])]) (sh a)).2.2.set s.1.length (kd a, (vls (met T kd sh n) T (s.1 ++ [a], s.2 ++ [(kd a, [])]) (sh a)).1)) [] [] ∧ a ∈ (vls (met T kd sh n) T (s.1 ++ [a], s.2 ++ [(kd a, [])]) (sh a)).2.1 ∧ (vls (met T kd sh n) T (s.1 ++ [a], s.2 ++ [(kd a, [])]) (sh a)).2.1.idxOf a = s.1.length
    generalize vls (met T kd sh n) T (s.1 ++ [a], s.2 ++ [(kd a, [])]) (sh a) = R at *
    obtain ⟨vs, s1, n1⟩ := R
    have S : Shp T kd sh (s.1 ++ [a], s.2 ++ [(kd a, [])]) (s1, n1) (sh a) vs := S
    dsimp only at *
    have ll := S.pre.length_le
    simp only [List.length_append, List.length_cons, List.length_nil] at ll
    have hin : a ∈ s.1 ++ [a] := by simp
    have e0 : s1.getD s.1.length 0 = a := by
      rw [pre_getD S.pre (by simp)]
      simp
    refine ⟨⟨⟨S.ok.nd, S.ok.sub, by have := S.ok.len; dsimp only at this ⊢; rw [List.length_set]; exact this⟩, (List.prefix_append _ _).trans S.pre, fun i hi => ?_, rfl, (fun x hx => by cases hx), fun i h1 h2 => ?_⟩, S.pre.subset hin, ?_⟩
    · dsimp only
      rw [List.getElem?_set_ne (by omega), S.old i (by simp; omega)]
      dsimp only
      rw [List.getElem?_append_left (by rw [h.len]; exact hi)]
    · dsimp only at h2 ⊢
      by_cases c : i = s.1.length
      · subst c
        rw [List.getElem?_set_self (by have := S.ok.len; dsimp only at this; omega), e0]
        exact ⟨by rw [S.vl], S.ref⟩
      · rw [List.getElem?_set_ne (fun e => c e.symm)]
        exact S.nw i (by simp; omega) h2
    · rw [idx_pre S.pre hin, List.idxOf_append, if_neg hn]
      simp
theorem walk_shp (hC : ∀ a, C a → a ∈ T) (hS : ∀ a, C a → ∀ x ∈ sh a, dk x = 3 → C (dn x)) (l : List Int) (hl : ∀ x ∈ l, dk x = 3 → C (dn x)) :
    Shp T kd sh ([], []) (vls (met T kd sh T.length) T ([], []) l).2 l (vls (met T kd sh T.length) T ([], []) l).1 :=
  vls_shp hC (met_shp hC hS _) (VOk.start T) (by simp) l hl
theorem Shp.node {s' : Vst} {l : List Int} {vs : List (Int × Int)} (h : Shp T kd sh ([], []) s' l vs) {a : Int} (ha : a ∈ s'.1) : s'.1.idxOf a < s'.2.length ∧ s'.2[s'.1.idxOf a]? = some (kd a, (sh a).map (swn s'.1)) ∧ ∀ x ∈ sh a, dk x = 3 → dn x ∈ s'.1 := by
  have hi := List.idxOf_lt_length_of_mem ha
  have e : s'.1.getD (s'.1.idxOf a) 0 = a := by
    rw [List.getD_eq_getElem?_getD, List.getElem?_eq_getElem hi, List.getElem_idxOf]
    rfl
  have := h.nw _ (by simp) hi
  rw [e] at this
  exact ⟨by rw [h.ok.len]; exact hi, this⟩
end

end Go.Proofs.Ytjhnhbeimjnloaa

/- GroveWeak: what becomes of two pairs and of a weak pair: lists alone. -/
namespace Go.Proofs.Ytjhnhbeimjnloaa
open Go.RowKit W Kp Stl

theorem getD_sets {α : Type} (l : List α) (R i : Nat) (v d : α) : (l.set R v).getD i d = if R = i ∧ R < l.length then v else l.getD i d := by
  rw [List.getD_eq_getElem?_getD, List.getElem?_set, List.getD_eq_getElem?_getD]
  by_cases e : R = i
  · by_cases c : R < l.length
    · rw [if_pos e, if_pos c, if_pos ⟨e, c⟩]
      rfl
    · rw [if_pos e, if_neg c, if_neg (fun h => c h.2), List.getElem?_eq_none (by omega)]
  · rw [if_neg e, if_neg (fun h => e h.1)]

structure On (i : Nat) (R : Nat) (x : Int) (s : Wrs) : Prop where
  al : Alv s.T i
  kd : (s.T.getD i t0).1 = 1
  fs : (s.T.getD i t0).2.1 = [(1, x), (1, x)]
  rt : s.rs.getD R (0, 0) = (3, (i : Int))
  ro : ∀ q, q ≠ R → s.rs.getD q (0, 0) ≠ (3, (i : Int))
  ff : ∀ q, Alv s.T q → ∀ v ∈ (s.T.getD q t0).2.1, v ≠ (3, (i : Int))
  eg : ∀ e ∈ s.rg, e.2 ≠ i
  ew : ∀ e ∈ s.wt, e.2 ≠ i

section
variable {i R j : Nat} {x : Int} {s : Wrs}
theorem On.mem (h : On i R x s) : ((3, (i : Int)) : Int × Int) ∈ s.rs := by
  rcases rt_mem s R with d | d
  · rwa [h.rt] at d
  · rw [h.rt] at d
    cases d
theorem On.cut (h : On i R x s) (hi : Gi s j) (hj : j ≤ 10000) {g : List Bool → List Bool} (hg : Gok s.T s.wt g) (grow : Int) (mj : Bool) : On i R x (s.cut g grow mj) := by
  have hw := hi.wcv hj
  unfold Wrs.cut
  split
  · exact h
  have hC := cR_ci hw hg mj
  have hL : Ls_ (s.cR g mj).1 i := hC.up _ (c0_root hw hg mj h.mem rfl)
  generalize (s.cR g mj).1 = L at *
  generalize (s.cR g mj).2.1 = C at *
  have av := cu_alv hC.ok
  have gt : ∀ i, Ls_ L i → (cuL L s.T s.T.length).getD i t0 = cuT L i (s.T.getD i t0) := fun i hi => by rw [cuL_at, if_pos (hC.ok.al i hi).1]
  refine { al := (av i).2 hL, kd := by dsimp only; rw [gt i hL, cuT_k]; exact h.kd, fs := ?_, rt := h.rt, ro := h.ro, ff := fun q hq v hv => ?_, eg := fun e he => h.eg e (List.mem_filter.1 he).1, ew := fun e he => ?_ }
  · dsimp only
    rw [gt i hL]
    have hk := h.kd
    rcases cuT_f (L := L) (i := i) (t := s.T.getD i t0) hL with ⟨d, _⟩ | ⟨d, _⟩ | ⟨_, d⟩
    · omega
    · omega
    · rw [d]
      exact h.fs
  · have hq2 := (av q).1 hq
    have ha := hC.ok.al q hq2
    dsimp only at hv
    rw [gt q hq2] at hv
    rcases cuT_f (L := L) (i := q) (t := s.T.getD q t0) hq2 with ⟨_, _, d⟩ | ⟨k3, _, d⟩ | ⟨_, d⟩
    · rw [d] at hv
      have : v = (2, 0) := by simpa using hv
      rw [this]
      simp
    · rw [d] at hv
      have : v = (2, 0) ∨ v = (s.T.getD q t0).2.1.getD 1 (0, 0) := by simpa using hv
      rcases this with rfl | rfl
      · simp
      · exact h.ff q ha _ (getD_in (by rw [hi.fl q ha (Or.inl k3)]; decide))
    · rw [d] at hv
      exact h.ff q ha v hv
  · rcases List.mem_append.1 (List.mem_filter.1 he).1 with d | d
    · exact h.ew e d
    · exact h.eg e (hC.cC e d).1
theorem On.room (h : On i R x s) (hi : Gi s j) (hj : j ≤ 10000) {g : Gfn} (hg : Gok s.T s.wt (g s.T s.wt)) (most grow m : Int) : On i R x (s.room g most grow m).2 := by
  unfold Wrs.room
  split
  · exact h
  · exact h.cut hi hj hg _ _
theorem On.put (h : On i R x s) {kd : Int} {fl : List (Int × Int)} (hf : ∀ v ∈ fl, v ≠ (3, (i : Int))) : On i R x (s.put kd fl) := by
  have av := alv_snoc s.T kd fl
  have hl := h.al.1
  have gt : ∀ q, q < s.T.length → (s.T ++ [(kd, fl, false, false)]).getD q t0 = s.T.getD q t0 := fun q hq => by rw [getD_snoc, if_neg (by omega)]
  unfold Wrs.put
  refine { h with al := (av i).2 (Or.inl h.al), kd := by dsimp only; rw [gt i hl]; exact h.kd, fs := by dsimp only; rw [gt i hl]; exact h.fs, ff := fun q hq v hv => ?_ }
  rcases (av q).1 hq with hq | rfl
  · dsimp only at hv
    rw [gt q hq.1] at hv
    exact h.ff q hq v hv
  · dsimp only at hv
    rw [getD_snoc, if_pos rfl] at hv
    exact hf v hv
theorem On.root (h : On i R x s) {Q : Nat} (hQ : Q ≠ R) {v : Int × Int} (hv : v ≠ (3, (i : Int))) : On i R x { s with rs := s.rs.set Q v } := by
  refine { h with rt := ?_, ro := fun q hq => ?_ }
  · dsimp only
    rw [getD_sets, if_neg (fun c => hQ c.1)]
    exact h.rt
  · dsimp only
    rw [getD_sets]
    split
    · exact hv
    · exact h.ro q hq
theorem On.new (h : Gi s j) (hR : R < 12) : On s.T.length R x { (s.put 1 [(1, x), (1, x)]) with rs := s.rs.set R (3, (s.T.length : Int)) } := by
  have av := alv_snoc s.T 1 [(1, x), (1, x)]
  have ge : (s.T ++ [(1, [(1, x), (1, x)], false, false)]).getD s.T.length t0 = (1, [(1, x), (1, x)], false, false) := by rw [getD_snoc, if_pos rfl]
  have no : ∀ v, Vq s.T v → v ≠ (3, (s.T.length : Int)) := fun v hv e => by
    have h1 := hv.lt (by rw [e])
    rw [e] at h1
    dsimp only at h1
    omega
  refine { al := (av _).2 (Or.inr rfl), kd := by show ((s.T ++ [(1, [(1, x), (1, x)], false, false)]).getD s.T.length t0).1 = 1; rw [ge], fs := by show ((s.T ++ [(1, [(1, x), (1, x)], false, false)]).getD s.T.length t0).2.1 = _; rw [ge], rt := ?_, ro := fun q hq => ?_, ff := fun q hq v hv => ?_, eg := fun e he => ?_, ew := fun e he => ?_ }
  · dsimp only
    rw [getD_sets, if_pos ⟨rfl, by rw [h.rl]; exact hR⟩]
  · dsimp only
    rw [getD_sets, if_neg (fun c => hq c.1.symm)]
    exact no _ (h.rt q)
  · have hv : v ∈ ((s.T ++ [(1, [(1, x), (1, x)], false, false)]).getD q t0).2.1 := hv
    rcases (av q).1 hq with hq | rfl
    · rw [getD_snoc, if_neg (by have := hq.1; omega)] at hv
      exact no _ (h.fv q hq v hv)
    · rw [ge] at hv
      have : v = (1, x) := by simpa using hv
      rw [this]
      simp
  · have := (h.gv e he).2.2.2.1
    have := (h.gv e he).2.2.1
    omega
  · have := (h.wv e he).2.2.2.1
    have := (h.wv e he).2.2.1
    omega
end

structure Wk2 (k : Bool) (a b c : Nat) (s : Wrs) : Prop where
  aa : Alv s.T a ∧ (s.T.getD a t0).1 = 1 ∧ (s.T.getD a t0).2.1 = [(1, 5), (1, 5)]
  ab : Alv s.T b ∧ (s.T.getD b t0).1 = 1 ∧ (s.T.getD b t0).2.1 = [(1, 6), (1, 6)]
  ac : Alv s.T c ∧ (s.T.getD c t0).1 = 3 ∧ (s.T.getD c t0).2.1 = [(3, (a : Int)), (3, (b : Int))]
  ne : a ≠ b
  r3 : s.rs.getD 3 (0, 0) = (3, (c : Int))
  r1 : k = true → s.rs.getD 1 (0, 0) = (3, (a : Int))
  no : k = false → (∀ v ∈ s.rs, v ≠ (3, (a : Int))) ∧ (∀ q, Alv s.T q → q ≠ c → ∀ v ∈ (s.T.getD q t0).2.1, v ≠ (3, (a : Int))) ∧ (∀ e ∈ s.rg, e.2 ≠ a) ∧ ∀ e ∈ s.wt, e.2 ≠ a
structure Wk3 (k : Bool) (a b c : Nat) (s : Wrs) : Prop where
  ab : (s.T.getD b t0).1 = 1 ∧ (s.T.getD b t0).2.1 = [(1, 6), (1, 6)]
  ac : Alv s.T c ∧ (s.T.getD c t0).1 = 3 ∧ (s.T.getD c t0).2.1 = [if k then (3, (a : Int)) else (2, 0), (3, (b : Int))]
  r3 : s.rs.getD 3 (0, 0) = (3, (c : Int))
  aa : k = true → s.rs.getD 1 (0, 0) = (3, (a : Int)) ∧ (s.T.getD a t0).1 = 1 ∧ (s.T.getD a t0).2.1 = [(1, 5), (1, 5)]

theorem Wk2.cut {k : Bool} {a b c j : Nat} {s : Wrs} (h : Wk2 k a b c s) (hi : Gi s j) (hj : j ≤ 10000) {g : List Bool → List Bool} (hg : Gok s.T s.wt g) (grow : Int) (h0 : s.ccd g grow true = 0) : Wk3 k a b c (s.cut g grow true) := by
  have hw := hi.wcv hj
  unfold Wrs.ccd at h0
  unfold Wrs.cut
  split at h0
  · omega
  rename_i hcf
  rw [if_neg hcf]
  have hC := cR_ci hw hg true
  have hG := (c0_ok hw hg true).1
  have m3 : ((3, (c : Int)) : Int × Int) ∈ s.rs := by
    rcases rt_mem s 3 with d | d
    · rwa [h.r3] at d
    · rw [h.r3] at d
      cases d
  have lc : Ls_ (s.cR g true).1 c := hC.up _ (c0_root hw hg true m3 rfl)
  have lb : Ls_ (s.cR g true).1 b := hC.cl c h.ac.1.1 lc (3, (b : Int)) (Or.inr (Or.inl ⟨h.ac.2.1, by rw [h.ac.2.2]; rfl⟩)) rfl
  have la : k = true → Ls_ (s.cR g true).1 a := fun e => by
    have m1 : ((3, (a : Int)) : Int × Int) ∈ s.rs := by
      rcases rt_mem s 1 with d | d
      · rwa [h.r1 e] at d
      · rw [h.r1 e] at d
        cases d
    exact hC.up _ (c0_root hw hg true m1 rfl)
  have na : k = false → ¬ Ls_ (s.cR g true).1 a := fun e c1 => by
    obtain ⟨n1, n2, n3, n4⟩ := h.no e
    have cls : Cls s.T s.wt (fun q => Alv s.T q ∧ q ≠ a) := fun q _ hX v hk h3 => by
      have hv : v ≠ (3, (a : Int)) ∧ Vq s.T v := by
        by_cases cq : q = c
        · subst cq
          have k3 := h.ac.2.1
          rcases hk with ⟨d, _⟩ | ⟨_, d⟩ | ⟨d, _⟩ | ⟨d, _⟩
          · omega
          · have d' : v = (3, (b : Int)) := by rw [d, h.ac.2.2]; rfl
            rw [d']
            refine ⟨fun e2 => h.ne ?_, ⟨vc3_in _ (by omega) (by have := h.ab.1.1; have := hi.tj; omega), fun _ => ⟨by dsimp only; omega, by dsimp only; rw [Int.toNat_natCast]; exact h.ab.1⟩⟩⟩
            have : ((b : Int)) = (a : Int) := congrArg Prod.snd e2
            omega
          · omega
          · omega
        · rcases hi.kps hX.1 hk with hm | ⟨e0, he, d⟩
          · exact ⟨n2 q hX.1 cq v hm, hi.fv q hX.1 v hm⟩
          · have hev := hi.wv e0 he
            refine ⟨fun e2 => n4 e0 he ?_, ?_⟩
            · rw [d] at e2
              exact congrArg Prod.snd e2
            · rw [d]
              exact ⟨vc3_in _ hev.2.2.1 (by have := hev.2.2.2.1; have := hi.tj; omega), fun _ => hev.2.2⟩
      obtain ⟨q0, q1⟩ := hv.2.2 h3
      refine ⟨q1, fun e2 => hv.1 (Prod.ext h3 ?_)⟩
      dsimp only
      omega
    have c0s : ∀ q, Ls_ (s.c0 g true) q → Alv s.T q ∧ q ≠ a := hG.lt _ cls (fun q hq => by
      obtain ⟨h1, h2⟩ := (frs_in _ _ _ _).1 hq
      rcases h2 with ⟨_, _, d⟩ | ⟨v, hv, h3, e2⟩
      · cases d
      · obtain ⟨q0, q1⟩ := hw.rv v hv h3
        refine ⟨by rw [← e2]; exact q1, fun e3 => n1 v hv (Prod.ext h3 ?_)⟩
        dsimp only
        omega)
    exact (hC.lt _ cls c0s (fun e0 he _ => by
      have hev := hi.gv e0 he
      refine ⟨hev.2.2.2, fun e3 => n3 e0 he ?_⟩
      have := hev.2.2.1
      omega) a c1).2 rfl
  generalize (s.cR g true).1 = L at *
  have av := cu_alv hC.ok
  have gt : ∀ i, Ls_ L i → (cuL L s.T s.T.length).getD i t0 = cuT L i (s.T.getD i t0) := fun i hi => by rw [cuL_at, if_pos (hC.ok.al i hi).1]
  have pr : ∀ q f, Ls_ L q → (s.T.getD q t0).1 = 1 → (s.T.getD q t0).2.1 = f → ((cuL L s.T s.T.length).getD q t0).1 = 1 ∧ ((cuL L s.T s.T.length).getD q t0).2.1 = f := fun q f hq hk hf => by
    rw [gt q hq]
    refine ⟨by rw [cuT_k]; exact hk, ?_⟩
    rcases cuT_f (L := L) (i := q) (t := s.T.getD q t0) hq with ⟨d, _⟩ | ⟨d, _⟩ | ⟨_, d⟩
    · omega
    · omega
    · rw [d]
      exact hf
  refine { ab := pr b _ lb h.ab.2.1 h.ab.2.2, ac := ⟨(av c).2 lc, by dsimp only; rw [gt c lc, cuT_k]; exact h.ac.2.1, ?_⟩, r3 := h.r3, aa := fun e => ⟨h.r1 e, pr a _ (la e) h.aa.2.1 h.aa.2.2⟩ }
  dsimp only
  rw [gt c lc]
  have e0 : (s.T.getD c t0).2.1.getD 0 (0, 0) = (3, (a : Int)) := by rw [h.ac.2.2]; rfl
  have e1 : (s.T.getD c t0).2.1.getD 1 (0, 0) = (3, (b : Int)) := by rw [h.ac.2.2]; rfl
  have hin : inS L (3, (a : Int)) = L.getD a false := by
    unfold inS
    simp
  rcases cuT_f (L := L) (i := c) (t := s.T.getD c t0) lc with ⟨d, _⟩ | ⟨_, d1, d2⟩ | ⟨d1, d2⟩
  · have := h.ac.2.1
    omega
  · rw [e0, hin] at d1
    rw [d2, e1]
    cases k
    · rfl
    · have := la rfl
      unfold Ls_ at this
      rw [d1] at this
      cases this
  · have d1 := d1 (Or.inl h.ac.2.1)
    rw [e0, hin] at d1
    rw [d2, h.ac.2.2]
    cases k
    · exact absurd d1 (na rfl)
    · rfl

theorem Wk3.view {k : Bool} {a b c j : Nat} {s : Wrs} (h : Wk3 k a b c s) (hi : Gi s j) (hj : j ≤ 10000) : ∃ (p q r : Nat) (f0 : Int × Int),
    (Vr4.vwW s.T s.wt s.rs).1.getD 3 (0, 0) = (3, (p : Int)) ∧ p < (Vr4.vwW s.T s.wt s.rs).2.2.length ∧ (Vr4.vwW s.T s.wt s.rs).2.2[p]? = some (3, [f0, (3, (q : Int))]) ∧ q < (Vr4.vwW s.T s.wt s.rs).2.2.length ∧ (Vr4.vwW s.T s.wt s.rs).2.2[q]? = some (1, [(1, 6), (1, 6)]) ∧
    (k = false → f0 = (2, 0)) ∧ (k = true → f0 = (3, (r : Int)) ∧ (Vr4.vwW s.T s.wt s.rs).1.getD 1 (0, 0) = (3, (r : Int)) ∧ r < (Vr4.vwW s.T s.wt s.rs).2.2.length ∧ (Vr4.vwW s.T s.wt s.rs).2.2[r]? = some (1, [(1, 5), (1, 5)])) := by
  have hvw := hi.wvw hj
  have dec : ∀ v, Vq s.T v → dk (wI v) = v.1 ∧ dn (wI v) = v.2 := fun v hv => wI_dec hv
  have hC : ∀ x : Int, 0 ≤ x ∧ Alv s.T x.toNat → x ∈ tI s.T.length := fun x hx => tI_mem.2 ⟨hx.1, by have := hx.2.1; have := hx.1; omega⟩
  have hS : ∀ x : Int, 0 ≤ x ∧ Alv s.T x.toNat → ∀ y ∈ shW s.T s.wt x, dk y = 3 → 0 ≤ dn y ∧ Alv s.T (dn y).toNat := fun x hx y hy h3 => by
    unfold shW at hy
    rcases List.mem_append.1 hy with d | d
    · obtain ⟨v, hv, rfl⟩ := List.mem_map.1 d
      have hq := hi.fv _ hx.2 v hv
      rw [(dec v hq).1] at h3
      rw [(dec v hq).2]
      exact hq.2 h3
    · split at d
      · obtain ⟨e, he, rfl⟩ := List.mem_map.1 d
        have hev := hi.wv e (List.mem_filter.1 he).1
        have hq : Vq s.T (3, e.2) := ⟨vc3_in _ hev.2.2.1 (by have := hev.2.2.2.1; have := hi.tj; omega), fun _ => hev.2.2⟩
        have e2 : ew 3 e.2 = wI (3, e.2) := rfl
        rw [e2, (dec _ hq).2]
        exact hev.2.2
      · cases d
  have hl : ∀ y ∈ s.rs.map wI, dk y = 3 → 0 ≤ dn y ∧ Alv s.T (dn y).toNat := fun y hy h3 => by
    obtain ⟨v, hv, rfl⟩ := List.mem_map.1 hy
    have hq := hi.rv v hv
    rw [(dec v hq).1] at h3
    rw [(dec v hq).2]
    exact hq.2 h3
  have W := walk_shp (T := tI s.T.length) (kd := kdW s.T) (sh := shW s.T s.wt) (C := fun x => 0 ≤ x ∧ Alv s.T x.toNat) hC hS (s.rs.map wI) hl
  rw [tI_len] at W
  have W : Shp (tI s.T.length) (kdW s.T) (shW s.T s.wt) ([], []) (Vr4.vwW s.T s.wt s.rs).2 (s.rs.map wI) (Vr4.vwW s.T s.wt s.rs).1 := W
  generalize Vr4.vwW s.T s.wt s.rs = Z at *
  obtain ⟨V, ms, Ns⟩ := Z
  dsimp only at *
  have rr : ∀ n : Nat, n < 12 → V.getD n (0, 0) = swn ms (wI (s.rs.getD n (0, 0))) ∧ wI (s.rs.getD n (0, 0)) ∈ s.rs.map wI := fun n hn => by
    have hlr := hi.rl
    refine ⟨?_, List.mem_map.2 ⟨_, getD_in (by omega), rfl⟩⟩
    rw [W.vl, List.getD_eq_getElem?_getD, List.getElem?_map, List.getElem?_map, List.getD_eq_getElem?_getD, List.getElem?_eq_getElem (by omega)]
    rfl
  have sw : ∀ v, Vq s.T v → swn ms (wI v) = if v.1 = 3 then (3, (ms.idxOf v.2 : Int)) else v := fun v hv => by
    unfold swn
    rw [(dec v hv).1, (dec v hv).2]
  have nodes : ∀ (n : Nat), ((n : Int)) ∈ ms → (s.T.getD n t0).1 ≠ 5 → Alv s.T n → ms.idxOf (n : Int) < Ns.length ∧ Ns[ms.idxOf (n : Int)]? = some ((s.T.getD n t0).1, (s.T.getD n t0).2.1.map (fun v => if v.1 = 3 then (3, (ms.idxOf v.2 : Int)) else v)) ∧ ∀ v ∈ (s.T.getD n t0).2.1, v.1 = 3 → v.2 ∈ ms := fun n hn h5 ha => by
    obtain ⟨e1, e2, e3⟩ := W.node hn
    have es : shW s.T s.wt (n : Int) = (s.T.getD n t0).2.1.map wI := by
      unfold shW
      rw [Int.toNat_natCast, if_neg h5, List.append_nil]
    rw [es] at e2 e3
    refine ⟨e1, e2.trans ?_, fun v hv h3 => ?_⟩
    · unfold kdW
      rw [Int.toNat_natCast, List.map_map]
      congr 2
      exact List.map_congr_left (fun v hv => sw v (hi.fv n ha v hv))
    · have hq := hi.fv n ha v hv
      have := e3 (wI v) (List.mem_map.2 ⟨v, hv, rfl⟩) (by rw [(dec v hq).1]; exact h3)
      rwa [(dec v hq).2] at this
  have q3 := hi.rt 3
  rw [h.r3] at q3
  obtain ⟨r31, r32⟩ := rr 3 (by decide)
  rw [h.r3] at r31 r32
  rw [sw _ q3, if_pos rfl] at r31
  have mc : ((c : Int)) ∈ ms := by
    have := W.ref _ r32 (by rw [(dec _ q3).1])
    rwa [(dec _ q3).2] at this
  obtain ⟨c1, c2, c3⟩ := nodes c mc (by rw [h.ac.2.1]; decide) h.ac.1
  rw [h.ac.2.1, h.ac.2.2] at c2
  rw [h.ac.2.2] at c3
  have hfc := hi.fv c h.ac.1
  rw [h.ac.2.2] at hfc
  have mb : ((b : Int)) ∈ ms := c3 (3, (b : Int)) (by simp) rfl
  have alb := ((hfc (3, (b : Int)) (by simp)).2 rfl).2
  have alb : Alv s.T b := by simpa using alb
  obtain ⟨b1, b2, _⟩ := nodes b mb (by rw [h.ab.1]; decide) alb
  rw [h.ab.1, h.ab.2] at b2
  refine ⟨ms.idxOf (c : Int), ms.idxOf (b : Int), ms.idxOf (a : Int), if k then (3, (ms.idxOf (a : Int) : Int)) else (2, 0), r31, c1, ?_, b1, ?_, fun e => by rw [e]; rfl, fun e => ?_⟩
  · rw [c2]
    cases k <;> simp
  · rw [b2]
    simp
  · subst e
    obtain ⟨a1, a2, a3⟩ := h.aa rfl
    have ma : ((a : Int)) ∈ ms := c3 (3, (a : Int)) (by simp) rfl
    have ala := ((hfc (3, (a : Int)) (by simp)).2 rfl).2
    have ala : Alv s.T a := by simpa using ala
    obtain ⟨a4, a5, _⟩ := nodes a ma (by rw [a2]; decide) ala
    rw [a2, a3] at a5
    have q1 := hi.rt 1
    rw [a1] at q1
    obtain ⟨r11, _⟩ := rr 1 (by decide)
    rw [a1, sw _ q1, if_pos rfl] at r11
    refine ⟨rfl, r11, a4, ?_⟩
    rw [a5]
    simp

end Go.Proofs.Ytjhnhbeimjnloaa
