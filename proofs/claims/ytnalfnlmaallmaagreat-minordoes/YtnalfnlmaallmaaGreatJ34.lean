/- Joined: Ws19, Vb1, Ms2, Mk6, Vb2, Mk7, Mk8, Ws15, Ws20, Ms3, Mx1, Mg3, Mg4, Mg6, Mg7, Mg8, Mg9, Mg11. -/
import Derived.Test.YtnalfnlmaallmaaGreatJ33
import Derived.Test.YtnalfnlmaallmaaGreatJ32
import Derived.Test.YtnalfnlmaallmaaGreatJ00
import Derived.Test.YtnalfnlmaallmaaGreatJ28
import Derived.Test.YtnalfnlmaallmaaGreatJ20
import Derived.Test.YtnalfnlmaallmaaGreatJ27
namespace Go.Proofs.YtnalfnlmaallmaaGreat
open Go.RowKit W Kp Stl
structure CutR (a : Wc) (S : Ww) (G K D : List Int) : Prop where
  li : LI (S.s.k0 a) (S.s.z0 G) (S.s4 a) K D
  we : WE (S.s.k0 a) (S.s.z0 G) (S.s4 a) K
  he : hB a.N (S.s4 a).g (S.s4 a).nx = false
  hz : ∀ v, (v ∈ (S.s.k0 a).T \/ v ∈ G) -> ∀ i, 0 <= i -> i < pf ((S.s.k0 a).l0 (S.s.z0 G) v) -> aB ((S.s.k0 a).l0 (S.s.z0 G) (v + 1 + i)) = true -> aV ((S.s.k0 a).l0 (S.s.z0 G) (v + 1 + i)) ∈ (S.s.k0 a).T \/ aV ((S.s.k0 a).l0 (S.s.z0 G) (v + 1 + i)) ∈ G
  hc : ∀ v ∈ G, v ∉ D -> ∀ i, 0 <= i -> i < pf ((S.s.k0 a).l0 (S.s.z0 G) v) -> (S.s.k0 a).yg ((S.s.k0 a).l0 (S.s.z0 G) (v + 1 + i)) = false
  rl : (S.s4 a).rs.length = 12
  ry : ∀ i, i < 12 -> (S.s.k0 a).yg ((S.s4 a).rs.getD i 0) = false
  rm : ∀ i, i < 12 -> (S.s.k0 a).ml (S.s4 a) (S.s.rs.getD i 0) ((S.s4 a).rs.getD i 0)
section
variable {a : Wc} {S : Ww} {Y G : List Int}
theorem cut_rest (h : KInv a S.s Y G) (hb : Wbd a S.s) (hr : S.s.y <= a.O - S.s.g) : ∃ K D, CutR a S G K D := by
 have hT : (S.s.k0 a).T = Y := Tw_eq h.inv.full hb.n1 hb.y1 hb.o1 hb.g1
 have L0 := LI.start h.inv.full hb.n0 hb.n1 hb.o1 hb.y1 hb.g1 hb.l1 hr
 have W0 := WE.start a S.s G
 obtain ⟨H1, L1, p1, ⟨H1', e1⟩, l1, y1, _, m1⟩ := L0.kr 12 (by show 12 <= S.s.rs.length; rw [hb.r1]; exact Nat.le_refl _)
 have W1 := W0.kr L0.mi 12 L1.mi p1 ⟨_, e1⟩
 have eth : thO a.N S.s.y (S.s.s1 a).g (S.s.s1 a).ws = G ++ H1 := (L1.mi.full.lists (O := a.O) hb.n1 hb.y1 hb.o1 L1.mi.ci.hg).2
 have enx : (S.s.s1 a).nx = ((S.s.k0 a).N : Int) + (S.s.z0 G).g := (kr_wk (S.s.k0 a) (S.s.s0 a) 12).2.2
 have hzt : Tile ((S.s.k0 a).l0 (S.s.z0 G)) (((S.s.k0 a).N : Int) + (S.s.z0 G).g) (S.s.k0 a).N (S.s.z0 G).G := h.inv.full.to
 obtain ⟨H2, D2, L2, W2, p2, ⟨H2', e2⟩, _, hD⟩ := LI.lmw (nC a.O) S.s.M hzt (G ++ H1) L1 W1 (fun x hx => (List.mem_append.1 hx).imp id (fun d => L1.mi.hlo x d))
 have es2 : (G ++ H1).foldl ((S.s.k0 a).lm1 (((S.s.k0 a).N : Int) + (S.s.z0 G).g) (nC a.O) S.s.M) ((S.s.k0 a).kr (S.s.s0 a) 12) = S.s.s2 a := by
  unfold Wst.s2 Ck.lm
  rw [eth, enx]
  rfl
 have hlen := lm_len (S.s.k0 a) (((S.s.k0 a).N : Int) + (S.s.z0 G).g) (nC a.O) S.s.M (G ++ H1) ((S.s.k0 a).kr (S.s.s0 a) 12)
 rw [es2] at L2 W2 p2 hlen
 have hle : (G ++ H1).length <= 2000 := by
  rw [<- eth]
  exact ths_le _ _
 obtain ⟨q1, q2, q3⟩ := kr_wk (S.s.k0 a) (S.s.s0 a) 12
 have cb : CB (S.s.k0 a) (S.s.s2 a) := by
  obtain ⟨u1, u2, u3, _⟩ := hlen
  rw [q1] at u1
  rw [q2] at u2
  rw [q3] at u3
  have u1 : (S.s.s2 a).wk.length <= 0 + (G ++ H1).length := u1
  have u2 : (S.s.s2 a).ep.length <= 0 + (G ++ H1).length := u2
  have u3 : (S.s.s2 a).nx = (a.N : Int) + S.s.g := u3
  have o1 := hb.o1
  refine ⟨?_, ?_⟩
  ·rw [u3]
   show (S.s.s2 a).wk.length + ((a.N : Int) + a.O + 13 - ((a.N : Int) + S.s.g)).toNat <= 4000
   omega
  ·rw [u3]
   show (S.s.s2 a).ep.length + ((a.N : Int) + a.O + 13 - ((a.N : Int) + S.s.g)).toNat <= 4000
   omega
 have R3 : Rest (S.s.k0 a) (S.s.z0 G) D2 H2 (S.t3 a).1 := by
  have key : ∀ s2 : Cs, LI (S.s.k0 a) (S.s.z0 G) s2 H2 D2 -> WE (S.s.k0 a) (S.s.z0 G) s2 H2 -> CB (S.s.k0 a) s2 -> Rest (S.s.k0 a) (S.s.z0 G) D2 H2 ((S.s.k0 a).sp (s2, S.q)).1 := fun s2 l w b => Rest.sp (t := (s2, S.q)) l w b ⟨[], (List.append_nil _).symm⟩
  unfold Ww.t3
  exact key _ L2 W2 cb
 have R4 : Rest (S.s.k0 a) (S.s.z0 G) D2 H2 (S.s4 a) := by
  unfold Ww.s4
  exact R3.sS S.r
 obtain ⟨K, L4, W4, _, he, ⟨B, e4⟩⟩ := R4
 have ers : (S.s4 a).rs = (S.s.s1 a).rs := by
  unfold Ww.s4
  rw [sS_rs]
  unfold Ww.t3 Ck.sp
  rw [spr_rs]
  exact hlen.2.2.2
 -- what was told of roots is so behind
 have pg : Pg (S.s.k0 a) (S.s.s1 a) (S.s4 a) := by
  have key : ∀ s2 : Cs, LI (S.s.k0 a) (S.s.z0 G) s2 H2 D2 -> WE (S.s.k0 a) (S.s.z0 G) s2 H2 -> Pg (S.s.k0 a) s2 ((S.s.k0 a).sS ((S.s.k0 a).sp (s2, S.q)) S.r).1 := fun s2 l w => by
   obtain ⟨K1, i1, i2, i3, _⟩ := Ru.sp (k := S.s.k0 a) (z := S.s.z0 G) (D := D2) (s2, S.q) H2 l w
   obtain ⟨K2, _, _, j3, _⟩ := Ru.sS (k := S.s.k0 a) (z := S.s.z0 G) (D := D2) ((S.s.k0 a).sp (s2, S.q)) S.r K1 i1 i2
   exact i3.trans j3
  unfold Ww.s4 Ww.t3
  exact p2.trans (key _ L2 W2)
 refine ⟨K, D2, L4, W4, he, fun v hv i i0 i1 ha => ?_, fun v hv hvD i i0 i1 => ?_, ?_, fun i hi => ?_, fun i hi => ?_⟩
 ·rw [hT] at hv ⊢
  exact h.inv.fd v hv i i0 i1 ha
 ·cases hc : (S.s.k0 a).yg ((S.s.k0 a).l0 (S.s.z0 G) (v + 1 + i))
  ·rfl
  ·exfalso
   unfold Ck.yg at hc
   rw [Bool.and_eq_true, hT] at hc
   have hm := h.cd v hv i i0 i1 hc.1 (List.contains_iff_mem.1 hc.2)
   exact hvD (hD v (List.mem_append_left _ hv) hv hm)
 ·rw [ers]
  exact l1.trans hb.r1
 ·rw [ers]
  exact y1 i hi
 ·rw [ers]
  exact pg.ml (m1 i hi)
theorem CutR.root {K D : List Int} (c : CutR a S G K D) (h : KInv a S.s Y G) (hb : Wbd a S.s) : ∀ x ∈ (S.s4 a).rs, Gd (S.s.k0 a) (G ++ K) x := fun x hx ha => by
 have hT : (S.s.k0 a).T = Y := Tw_eq h.inv.full hb.n1 hb.y1 hb.o1 hb.g1
 obtain ⟨i, hi, e⟩ := List.mem_iff_getElem.1 hx
 have hi12 : i < 12 := by rw [<- c.rl]; exact hi
 have e2 : (S.s4 a).rs.getD i 0 = x := by
  rw [List.getD_eq_getElem?_getD, List.getElem?_eq_getElem hi, e]
  rfl
 have hy := c.ry i hi12
 have hm := c.rm i hi12
 rw [e2] at hy hm
 refine ⟨hy, ?_⟩
 rcases hm with d | ⟨g1, g2, g3⟩
 ·have hmem : S.s.rs.getD i 0 ∈ S.s.rs := by
   have hl : i < S.s.rs.length := by rw [hb.r1]; exact hi12
   rw [List.getD_eq_getElem?_getD, List.getElem?_eq_getElem hl]
   exact List.getElem_mem hl
  rw [<- d] at hmem
  rcases h.inv.rt x hmem ha with g | g
  ·unfold Ck.yg at hy
   rw [ha, hT] at hy
   simp at hy
   exact absurd g hy
  ·exact List.mem_append_left _ g
 ·have hT2 : aV (S.s.rs.getD i 0) ∈ (S.s.k0 a).T := by
   unfold Ck.yg at g1
   rw [Bool.and_eq_true] at g1
   simpa using g1.2
  have hH := c.li.mi.fh _ hT2 g2
  have hbd := c.li.mi.bdH hH
  have hN := hb.n1
  have hO := hb.o1
  have hg := c.li.mi.ci.hg
  have eN : (S.s.k0 a).N = a.N := rfl
  have eO : (S.s.k0 a).O = a.O := rfl
  obtain ⟨n, hn⟩ : ∃ n : Nat, (S.s4 a).f (aV (S.s.rs.getD i 0)) = n := ⟨((S.s4 a).f (aV (S.s.rs.getD i 0))).toNat, by omega⟩
  rw [g3, hn, (ew_at n (by omega)).2, <- hn]
  exact List.mem_append_right _ hH
theorem CutR.done {K D : List Int} (c : CutR a S G K D) (h : KInv a S.s Y G) (hb : Wbd a S.s) : WInv a.N 0 (S.s6 a).g (S.s6 a).ws [] (G ++ K) (S.s6 a).rs := by
 have ci := c.li.mi.ci
 have F4 : Fin1 (S.s.k0 a) (G ++ K) (fun b i => (i = 0 /\ b ∈ (S.s4 a).wk) \/ ((i = 0 \/ i = 1) /\ b ∈ (S.s4 a).ep)) (S.s4 a) := by
  refine ⟨c.li.mi.full, ci.len, ci.hy, ci.hg, fun b hb i i0 i1 => ?_, fun b hb i i0 i1 hy ha => ⟨hy, c.li.fy c.hz hb i0 i1 ha hy⟩⟩
  cases ha : aB ((S.s.k0 a).ld (S.s4 a) (b + 1 + i))
  ·exact Or.inl (fun e => by rw [ha] at e; cases e)
  ·rcases c.li.fields c.he c.hz c.hc hb i0 i1 ha with d | ⟨d1, d2, d3⟩ | ⟨d1, d2⟩
   ·exact Or.inl (fun _ => ⟨c.li.mi.noY d, d⟩)
   ·exact Or.inr (Or.inl ⟨d2, d3⟩)
   ·have f2 := pf_two (c.li.mi.bd hb).2.2 (Or.inr (Or.inr d1))
    exact Or.inr (Or.inr ⟨by omega, d2⟩)
 obtain ⟨F5, k5, g5, r5, e5⟩ := Fin1.mw hb.n1 hb.o1 (S.s4 a).wk F4 (fun x hx => c.we.wk x hx) (fun x hx hf => List.mem_append_right _ (c.li.mi.fh x hx hf))
 have F5 : Fin1 (S.s.k0 a) (G ++ K) _ (S.s5 a) := F5
 have e5 : (S.s5 a).ep = (S.s4 a).ep := e5
 have r5 : (S.s5 a).rs = (S.s4 a).rs := r5
 have k5 : ∀ b ∈ G ++ K, (S.s.k0 a).ld (S.s5 a) b = (S.s.k0 a).ld (S.s4 a) b := k5
 obtain ⟨F6, k6, g6, r6⟩ := Fin1.be (S.s5 a).ep F5 (fun x hx => by
  rw [e5] at hx
  obtain ⟨q1, q2⟩ := c.we.ep x hx
  exact ⟨q1, by rw [k5 x q1]; exact q2⟩)
 have r6 : (S.s6 a).rs = (S.s5 a).rs := r6
 have F6 := F6.imp (Q := fun _ _ => False) (fun b i p => by
  obtain ⟨⟨p1, p2⟩, p3⟩ := p
  rw [e5] at p3
  rcases p1 with ⟨d1, d2⟩ | ⟨d1, d2⟩
  ·exact p2 ⟨d2, d1⟩
  ·exact p3 ⟨d2, d1⟩)
 exact F6.done (rs := (S.s6 a).rs) (by rw [r6, r5]; exact c.root h hb)
end
end Go.Proofs.YtnalfnlmaallmaaGreat

namespace Go.Proofs.YtnalfnlmaallmaaGreat
open W
def Wls (WR : Int -> Int -> Prop) : List Int -> List Int -> Prop
 | [], [] => True
 | x :: l, x' :: l' => WR x x' /\ Wls WR l l'
 | _, _ => False
theorem Wls.of {WR : Int -> Int -> Prop} : ∀ {l l' : List Int}, l.length = l'.length -> (∀ i, i < l.length -> WR (l.getD i 0) (l'.getD i 0)) -> Wls WR l l'
 | [], [], _, _ => trivial
 | [], x' :: l', h, _ => by simp at h
 | x :: l, [], h, _ => by simp at h
 | x :: l, x' :: l', h, hi => ⟨by simpa using hi 0 (by simp), Wls.of (by simpa using h) (fun i d => by
  have := hi (i + 1) (by simpa using d)
  simpa using this)⟩
def Wmv (R : Int -> Prop) (f : Int -> Int) (x x' : Int) : Prop := (dk x = 3 /\ dk x' = 3 /\ R (dn x) /\ dn x' = f (dn x)) \/ (dk x ≠ 3 /\ dk x' = dk x /\ dn x' = dn x)
structure Bi (R : Int -> Prop) (f : Int -> Int) (T : List Int) (kd : Int -> Int) (sh : Int -> List Int) (T' : List Int) (kd' : Int -> Int) (sh' : Int -> List Int) : Prop where
  rT : ∀ a, R a -> a ∈ T
  rT' : ∀ a, R a -> f a ∈ T'
  inj : ∀ a b, R a -> R b -> f a = f b -> a = b
  kd : ∀ a, R a -> kd' (f a) = kd a
  sh : ∀ a, R a -> Wls (Wmv R f) (sh a) (sh' (f a))
structure Bs (R : Int -> Prop) (f : Int -> Int) (T T' : List Int) (s s' : Vst) : Prop where
  ok : VOk T s
  ok' : VOk T' s'
  ms : s'.1 = s.1.map f
  nd : s'.2 = s.2
  rs : ∀ a ∈ s.1, R a
section
variable {R : Int -> Prop} {f : Int -> Int} {T T' : List Int} {kd kd' : Int -> Int} {sh sh' : Int -> List Int}
theorem idx_map (inj : ∀ a b, R a -> R b -> f a = f b -> a = b) {d : Int} (hd : R d) : ∀ l : List Int, (∀ a ∈ l, R a) -> (l.map f).idxOf (f d) = l.idxOf d
 | [], _ => rfl
 | x :: l, h => by
  rw [List.map_cons, List.idxOf_cons, List.idxOf_cons, idx_map inj hd l (fun a ha => h a (List.mem_cons_of_mem _ ha))]
  by_cases e : x = d
  ·rw [e, beq_self_eq_true, beq_self_eq_true]
  ·have e2 : f x ≠ f d := fun c => e (inj x d (h x List.mem_cons_self) hd c)
   rw [beq_false_of_ne e, beq_false_of_ne e2]
theorem mem_mapf (inj : ∀ a b, R a -> R b -> f a = f b -> a = b) {d : Int} (hd : R d) {l : List Int} (h : ∀ a ∈ l, R a) : f d ∈ l.map f ↔ d ∈ l := by
 refine ⟨fun c => ?_, fun c => List.mem_map_of_mem c⟩
 obtain ⟨x, h1, h2⟩ := List.mem_map.1 c
 rw [<- inj x d (h x h1) hd h2]
 exact h1
def Bmet (R : Int -> Prop) (f : Int -> Int) (T T' : List Int) (n n' : Nat) (M M' : Vst -> Int -> Vst) : Prop :=
 ∀ s s' a, Bs R f T T' s s' -> R a -> a ∉ s.1 -> T.length <= s.1.length + n -> T'.length <= s'.1.length + n' -> Bs R f T T' (M s a) (M' s' (f a))
theorem vst_bi (B : Bi R f T kd sh T' kd' sh') {n n' : Nat} {M M' : Vst -> Int -> Vst} (hM : Bmet R f T T' n n' M M') {s s' : Vst} (h : Bs R f T T' s s') (hn : T.length <= s.1.length + n) (hn' : T'.length <= s'.1.length + n') {x x' : Int} (hx : Wmv R f x x') :
  (vst M T s x).1 = (vst M' T' s' x').1 /\ Bs R f T T' (vst M T s x).2 (vst M' T' s' x').2 := by
 unfold vst
 rcases hx with ⟨d1, d2, d3, d4⟩ | ⟨d1, d2, d3⟩
 ·rw [if_pos d1, if_pos d2, if_pos (List.contains_iff_mem.2 (B.rT _ d3)), d4, if_pos (List.contains_iff_mem.2 (B.rT' _ d3))]
  have hm := mem_mapf B.inj d3 h.rs
  rw [<- h.ms] at hm
  by_cases c : dn x ∈ s.1
  ·rw [if_pos (List.contains_iff_mem.2 c), if_pos (List.contains_iff_mem.2 (hm.2 c))]
   refine ⟨?_, h⟩
   dsimp only
   rw [h.ms, idx_map B.inj d3 s.1 h.rs]
  ·rw [if_neg (fun e => c (List.contains_iff_mem.1 e)), if_neg (fun e => c (hm.1 (List.contains_iff_mem.1 e)))]
   refine ⟨?_, hM s s' (dn x) h d3 c hn hn'⟩
   dsimp only
   rw [h.ms, List.length_map]
 ·rw [if_neg d1, if_neg (by rw [d2]; exact d1), d2, d3]
  exact ⟨rfl, h⟩
theorem vls_bi (B : Bi R f T kd sh T' kd' sh') {n n' : Nat} {M M' : Vst -> Int -> Vst} (hV : Vmet T kd sh n M) (hV' : Vmet T' kd' sh' n' M') (hM : Bmet R f T T' n n' M M') : ∀ (l l' : List Int) (r r' : List (Int × Int) × Vst), Wls (Wmv R f) l l' -> r.1 = r'.1 -> Bs R f T T' r.2 r'.2 -> T.length <= r.2.1.length + n -> T'.length <= r'.2.1.length + n' ->
  (l.foldl (fun r x => (r.1 ++ [(vst M T r.2 x).1], (vst M T r.2 x).2)) r).1 = (l'.foldl (fun r x => (r.1 ++ [(vst M' T' r.2 x).1], (vst M' T' r.2 x).2)) r').1 /\ Bs R f T T' (l.foldl (fun r x => (r.1 ++ [(vst M T r.2 x).1], (vst M T r.2 x).2)) r).2 (l'.foldl (fun r x => (r.1 ++ [(vst M' T' r.2 x).1], (vst M' T' r.2 x).2)) r').2
 | [], [], r, r', _, e, h, _, _ => ⟨e, h⟩
 | [], x' :: l', r, r', hw, _, _, _, _ => absurd hw (by simp [Wls])
 | x :: l, [], r, r', hw, _, _, _, _ => absurd hw (by simp [Wls])
 | x :: l, x' :: l', r, r', hw, e, h, hn, hn' => by
  obtain ⟨w1, w2⟩ := hw
  obtain ⟨e1, e2⟩ := vst_bi B hM h hn hn' w1
  have g1 := (vst_go hV h.ok hn x).le
  have g2 := (vst_go hV' h.ok' hn' x').le
  rw [List.foldl_cons, List.foldl_cons]
  exact vls_bi B hV hV' hM l l' _ _ w2 (by dsimp only; rw [e, e1]) e2 (by dsimp only; omega) (by dsimp only; omega)
theorem met_bi (B : Bi R f T kd sh T' kd' sh') : ∀ n n' : Nat, Bmet R f T T' n n' (met T kd sh n) (met T' kd' sh' n')
 | 0, _ => fun s s' a h ha hna hn _ => by
  have := h.ok.lt (B.rT a ha) hna
  omega
 | n + 1, 0 => fun s s' a h ha hna _ hn' => by
  have := h.ok'.lt (B.rT' a ha) (fun c => hna ((mem_mapf B.inj ha h.rs).1 (by rw [<- h.ms]; exact c)))
  omega
 | n + 1, n' + 1 => fun s s' a h ha hna hn hn' => by
  have hna' : f a ∉ s'.1 := fun c => hna ((mem_mapf B.inj ha h.rs).1 (by rw [<- h.ms]; exact c))
  have o1 := (met_go (kd := kd) (sh := sh) (n + 1) s a h.ok (B.rT a ha) hna hn).ok
  have o2 := (met_go (kd := kd') (sh := sh') (n' + 1) s' (f a) h.ok' (B.rT' a ha) hna' hn').ok
  have h1 : Bs R f T T' (s.1 ++ [a], s.2 ++ [(kd a, [])]) (s'.1 ++ [f a], s'.2 ++ [(kd' (f a), [])]) := ⟨h.ok.more (B.rT a ha) hna _, h.ok'.more (B.rT' a ha) hna' _, by dsimp only; rw [h.ms]; simp, by dsimp only; rw [h.nd, B.kd a ha], fun c hc => by
   rcases List.mem_append.1 hc with d | d
   ·exact h.rs c d
   ·rw [List.mem_singleton] at d
    rw [d]
    exact ha⟩
  obtain ⟨e1, e2⟩ := vls_bi B (met_go n) (met_go n') (met_bi B n n') (sh a) (sh' (f a)) ([], (s.1 ++ [a], s.2 ++ [(kd a, [])])) ([], (s'.1 ++ [f a], s'.2 ++ [(kd' (f a), [])])) (B.sh a ha) rfl h1 (by simp; omega) (by simp; omega)
  refine ⟨o1, o2, e2.ms, ?_, e2.rs⟩
  have e3 := e2.nd
  show (vls (met T' kd' sh' n') T' (s'.1 ++ [f a], s'.2 ++ [(kd' (f a), [])]) (sh' (f a))).2.2.set s'.1.length (kd' (f a), (vls (met T' kd' sh' n') T' (s'.1 ++ [f a], s'.2 ++ [(kd' (f a), [])]) (sh' (f a))).1) = (vls (met T kd sh n) T (s.1 ++ [a], s.2 ++ [(kd a, [])]) (sh a)).2.2.set s.1.length (kd a, (vls (met T kd sh n) T (s.1 ++ [a], s.2 ++ [(kd a, [])]) (sh a)).1)
  have e1 : (vls (met T kd sh n) T (s.1 ++ [a], s.2 ++ [(kd a, [])]) (sh a)).1 = (vls (met T' kd' sh' n') T' (s'.1 ++ [f a], s'.2 ++ [(kd' (f a), [])]) (sh' (f a))).1 := e1
  have e3 : (vls (met T' kd' sh' n') T' (s'.1 ++ [f a], s'.2 ++ [(kd' (f a), [])]) (sh' (f a))).2.2 = (vls (met T kd sh n) T (s.1 ++ [a], s.2 ++ [(kd a, [])]) (sh a)).2.2 := e3
  rw [e3, <- e1, B.kd a ha, h.ms, List.length_map]
theorem walk_bi (B : Bi R f T kd sh T' kd' sh') {l l' : List Int} (hl : Wls (Wmv R f) l l') {n n' : Nat} (hn : T.length <= n) (hn' : T'.length <= n') : (vls (met T kd sh n) T ([], []) l).1 = (vls (met T' kd' sh' n') T' ([], []) l').1 /\ (vls (met T' kd' sh' n') T' ([], []) l').2.2 = (vls (met T kd sh n) T ([], []) l).2.2 /\ (vls (met T' kd' sh' n') T' ([], []) l').2.1 = (vls (met T kd sh n) T ([], []) l).2.1.map f := by
 obtain ⟨e1, e2⟩ := vls_bi B (met_go n) (met_go n') (met_bi B n n') l l' ([], ([], [])) ([], ([], [])) hl rfl ⟨VOk.start T, VOk.start T', rfl, rfl, fun a ha => by cases ha⟩ (by simpa using hn) (by simpa using hn')
 exact ⟨e1, e2.nd, e2.ms⟩
end
end Go.Proofs.YtnalfnlmaallmaaGreat

namespace Go.Proofs.YtnalfnlmaallmaaGreat
open Go.RowKit W Kp Stl
section
variable {a : Wc} {S : Ww} {Y G K D : List Int}
end
end Go.Proofs.YtnalfnlmaallmaaGreat

namespace Go.Proofs.YtnalfnlmaallmaaGreat
open Go.RowKit W Kp Stl
section
variable {a : Wc} {s : Wst} {Y G : List Int}
end
end Go.Proofs.YtnalfnlmaallmaaGreat

namespace Go.Proofs.YtnalfnlmaallmaaGreat
open W
section
variable {T : List Int} {kd : Int -> Int} {sh : Int -> List Int}
end
end Go.Proofs.YtnalfnlmaallmaaGreat

namespace Go.Proofs.YtnalfnlmaallmaaGreat
open Go.RowKit W Kp Stl
theorem shL_get {N y g : Nat} {ws Y G : List Int} (h : Full2 N y g ws Y G) (hy : y <= N) (Q : List En) {c : Int} (hc : c ∈ Y \/ c ∈ G) (h5 : pk (ld N y g ws c) ≠ 5) : (∀ i : Nat, i < (shL N y g ws Q c).length -> (shL N y g ws Q c).getD i 0 = ld N y g ws (c + 1 + (i : Int))) /\ (∀ i : Nat, (i : Int) < pf (ld N y g ws c) -> ld N y g ws (c + 1 + (i : Int)) ∈ shL N y g ws Q c) := by
 have hl := shL_n h hy Q hc h5
 have key : ∀ i : Nat, i < (shL N y g ws Q c).length -> (shL N y g ws Q c).getD i 0 = ld N y g ws (c + 1 + (i : Int)) := fun i hi => by
  unfold shL at hi ⊢
  rw [if_neg h5] at hi ⊢
  rw [List.getD_eq_getElem?_getD, List.getElem?_eq_getElem hi]
  simp
 refine ⟨key, fun i hi => ?_⟩
 have hi2 : i < (shL N y g ws Q c).length := by omega
 rw [<- key i hi2, List.getD_eq_getElem?_getD, List.getElem?_eq_getElem hi2]
 exact List.getElem_mem hi2
section
variable {a : Wc} {s : Wst} {Y G : List Int}
end
end Go.Proofs.YtnalfnlmaallmaaGreat

namespace Go.Proofs.YtnalfnlmaallmaaGreat
open Go.RowKit W Kp Stl
section
variable {a : Wc} {s s' : Wst} {Y G : List Int} {j : Js}
end
section
variable {a : Wc} {S : Ww} {Y G : List Int}
end
end Go.Proofs.YtnalfnlmaallmaaGreat

namespace Go.Proofs.YtnalfnlmaallmaaGreat
open Go.RowKit W Kp Stl
section
variable {c : Bc} {F : Nat -> Prop} {S : Ww × Wrs} {w : World}
theorem cutB_any (h : (boO c).J F S w) (hq : S.1.q.length + S.1.r.length <= 90000) :
  Calls Tryz.prog 16 #[.pointer (some ⟨c.a.pw, 0, none⟩)] w fun e w' => ∃ F', e = .returned (.int .i64 (S.1.code c.a)) /\ (boO c).J F' (S.1.cut c.a, S.2) w' /\ Tn F w F' w' := by
 obtain ⟨FW, h1, _, h2⟩ := bo_w h
 refine (cutM_any h1 hq).mono ?_
 rintro e w' ⟨F1, rfl, j1, t1⟩
 obtain ⟨F2, m1, m2⟩ := h2 _ _ _ j1 t1
 exact ⟨F2, rfl, m1, m2⟩
theorem usedB_any (h : (boO c).J F S w) : Calls Tryz.prog 27 #[.pointer (some ⟨c.a.p, 0, none⟩)] w fun e w' => e = .returned (.tuple #[.int .i64 S.1.s.y, .int .i64 S.1.s.g]) /\ Below w.heap.size w w' := by
 obtain ⟨FW, h1, _⟩ := bo_w h
 obtain ⟨F0, g1, _⟩ := ws_wod h1
 exact used_any w (wod_arena g1).1
theorem viewB_any (h : (boO c).J F S w) (hq : S.1.q.length <= 90000) :
  Calls Tryz.prog 30 #[.pointer (some ⟨c.a.pw, 0, none⟩)] w fun e w' => ∃ r2 d2 na nn nc, e = .returned (.agg #[.slice r2 12 d2, .slice na nn nc]) /\ Lp w' r2 (vwL c.a.N S.1.s.y S.1.s.g S.1.s.ws S.1.q S.1.s.rs).1 /\ Ln w' na (vwL c.a.N S.1.s.y S.1.s.g S.1.s.ws S.1.q S.1.s.rs).2.2 /\ nn = (vwL c.a.N S.1.s.y S.1.s.g S.1.s.ws S.1.q S.1.s.rs).2.2.length /\ Below w.heap.size w w' := by
 obtain ⟨FW, h1, _⟩ := bo_w h
 obtain ⟨F0, g1, _⟩ := ws_wod h1
 obtain ⟨c0, _, c2, c3, _, rl, _, cr9⟩ := wod_cells g1
 have ha := (wod_arena g1).1
 obtain ⟨F0', ar, cr, ⟨F00, ad, cap, ⟨own, pq, hM, hO⟩, d2, d3, d4, _⟩, r0, r1, hFW⟩ := h1
 have hl : Lq w (some ⟨c.a.nb, 0, none⟩) S.1.s.rs := by
  have hr := hM.rt
  refine ⟨fun _ => ⟨c.a.nb, 0, rfl, lt_of_some hr, fun i hi => ?_⟩, fun _ => ⟨c.a.nb, 0, _, rfl, hr⟩⟩
  rw [Nat.zero_add]
  exact (cr9 i (by rw [<- rl]; exact hi)).1
 have P := view_any (l := S.1.s.rs) (ra := some ⟨c.a.nb, 0, none⟩) (rc := 12) ⟨c0, c2, ha, d2, row_pairs d3, hq⟩ (by rw [rl]; exact c3) hl (by rw [rl]; decide)
 rw [rl] at P
 exact P
end
end Go.Proofs.YtnalfnlmaallmaaGreat

namespace Go.Proofs.YtnalfnlmaallmaaGreat
open Go.RowKit W Kp Stl
section
variable {c : Bc} {F : Nat -> Prop} {S : Ww × Wrs} {w : World} {j : Nat}
theorem aB_two : aB 2 = false := by decide
theorem bo_wbd (h : (boO c).J F S w) : Wbd c.a S.1.s := by
 obtain ⟨FW, h1, _⟩ := bo_w h
 obtain ⟨F0, g1, _⟩ := ws_wod h1
 obtain ⟨_, _, _, _, _, rl, _⟩ := wod_cells g1
 have ha := (wod_arena g1).1
 exact ⟨ha.hN, ha.hN', ha.hO, ha.hy, ha.hg, ha.hl, rl⟩
structure Blk (c : Bc) (s : Wst) (w : World) : Prop where
  at_ : At w c.a.p c.a.q c.a.N c.a.O s.y s.g s.ws
  cd : ∃ pq, Cd w c.a.pc pq c.a.N (nC c.a.O) s.M
  c0 : w.cell? ⟨c.a.pw, 0, none⟩ = some (.pointer (some ⟨c.a.p, 0, none⟩))
  c1 : w.cell? ⟨c.a.pw, 1, none⟩ = some (.pointer (some ⟨c.a.pc, 0, none⟩))
  b0 : w.cell? ⟨c.pb, 0, none⟩ = some (.pointer (some ⟨c.a.pw, 0, none⟩))
theorem bo_blk (h : (boO c).J F S w) : Blk c S.1.s w := by
 obtain ⟨d0, _⟩ := bo_cells h
 obtain ⟨FW, h1, _⟩ := bo_w h
 obtain ⟨F0, g1, _⟩ := ws_wod h1
 obtain ⟨c0, c1, _⟩ := wod_cells g1
 obtain ⟨pq, hc, _⟩ := wod_cards g1
 exact ⟨(wod_arena g1).1, ⟨pq, hc⟩, c0, c1, d0⟩
end
end Go.Proofs.YtnalfnlmaallmaaGreat

namespace Go.Proofs.YtnalfnlmaallmaaGreat
open Go.RowKit W Kp Stl
section
variable {a : Wc} {s : Wst} {Y G : List Int}
end
end Go.Proofs.YtnalfnlmaallmaaGreat

namespace Go.Proofs.YtnalfnlmaallmaaGreat
open Go.RowKit W Kp Stl
end Go.Proofs.YtnalfnlmaallmaaGreat

namespace Go.Proofs.YtnalfnlmaallmaaGreat
open Go.RowKit W Kp Stl
section
variable {k : Jk} {s : Js}
end
section
variable {a : Wc} {S : Ww} {Y G : List Int}
end
end Go.Proofs.YtnalfnlmaallmaaGreat

namespace Go.Proofs.YtnalfnlmaallmaaGreat
open Go.RowKit W Kp Stl
section
variable {k : Jk} {C : Int -> Prop} {s : Js}
end
end Go.Proofs.YtnalfnlmaallmaaGreat

namespace Go.Proofs.YtnalfnlmaallmaaGreat
open Go.RowKit W Kp Stl
section
variable {k : Jk}
end
section
variable {a : Wc} {S : Ww} {Y G : List Int}
end
end Go.Proofs.YtnalfnlmaallmaaGreat

namespace Go.Proofs.YtnalfnlmaallmaaGreat
open Go.RowKit W Kp Stl
section
variable {a : Wc} {S : Ww} {Y G : List Int}
end
end Go.Proofs.YtnalfnlmaallmaaGreat

namespace Go.Proofs.YtnalfnlmaallmaaGreat
open Go.RowKit W Kp Stl
section
variable {a : Wc} {S : Ww} {G : List Int}
end
end Go.Proofs.YtnalfnlmaallmaaGreat

namespace Go.Proofs.YtnalfnlmaallmaaGreat
open Go.RowKit W Kp Stl
section
variable {a : Wc} {S : Ww} {Y G : List Int}
theorem tB_iff {N O y g : Nat} {ws Y G : List Int} (h : Full2 N y g ws Y G) (hN : N <= 256) (hy : y <= N) (hO : O <= 1024) (hg : g <= O) {x : Int} : tB N y g ws x = true ↔ aB x = true /\ (aV x ∈ Y \/ aV x ∈ G) := by
 refine ⟨tB_mem (O := O) h hN hy hO hg, fun ⟨h1, h2⟩ => ?_⟩
 obtain ⟨e1, e2⟩ := h.lists (O := O) hN hy hO hg
 unfold tB
 rw [h1, e1, e2]
 rcases h2 with q | q
 ·rw [List.contains_iff_mem.2 q]
  rfl
 ·rw [List.contains_iff_mem.2 q, Bool.or_true]
  rfl
end
end Go.Proofs.YtnalfnlmaallmaaGreat

namespace Go.Proofs.YtnalfnlmaallmaaGreat
open Go.RowKit W Kp Stl
def Wqa (k : Ck) (s : Cs) (q : List En) : Prop := ∀ e ∈ q, k.al s e.2 = true \/ k.al s e.1 = false
section
variable {k : Ck} {z : C0} {s t u : Cs} {D H : List Int} {q : List En}
theorem al_pg (p : Pg k s t) {x : Int} (h : k.al s x = true) : k.al t x = true := by
 unfold Ck.al Ck.ls at h ⊢
 cases c : k.yg x
 ·rfl
 ·rw [c] at h
  have h1 : s.f (aV x) ≠ -1 := by
   intro e
   rw [e] at h
   simp at h
  rw [p.f _ h1]
  simpa using h1
theorem al_old {x : Int} (h : k.yg x = false) : k.al s x = true := by
 unfold Ck.al Ck.ls
 rw [h]
 rfl
theorem wkl_ok (k : Ck) : ∀ (l : List Nat) (t : (Cs × List En) × Bool), (l.foldl (wkP k.al k.br) t).2 = false -> ∀ i ∈ l, k.al t.1.1 (t.1.2.getD i (0, 0)).2 = true \/ k.al t.1.1 (t.1.2.getD i (0, 0)).1 = false
 | [], _, _, _, hi => by cases hi
 | j :: l, t, h, i, hi => by
  rw [List.foldl_cons] at h
  obtain ⟨_, h2⟩ := wkl_idle k l _ h
  by_cases c : (k.al t.1.1 (t.1.2.getD j (0, 0)).2 || !k.al t.1.1 (t.1.2.getD j (0, 0)).1) = true
  ·have e1 : wkP k.al k.br t j = t := by unfold wkP; rw [if_pos c]
   rw [e1] at h
   rcases List.mem_cons.1 hi with rfl | hi
   ·simpa using c
   ·exact wkl_ok k l t h i hi
  ·unfold wkP at h2
   rw [if_neg c] at h2
   cases h2
theorem spr_wq : ∀ (n : Nat) (t : Cs × List En) (H : List Int), LI k z t.1 H D -> WE k z t.1 H -> CB k t.1 -> k.mu t.1 < n -> Wqa k (k.spr n t).1 (k.spr n t).2
 | 0, t, H, _, _, _, e => absurd e (by omega)
 | n + 1, t, H, h, w, hb, e => by
  obtain ⟨H1, l1, w1, _, _, _⟩ := LI.lbw (k.O + 1) h w
  obtain ⟨c1, c2, c3⟩ := CI.lb h.mi.ci hb (k.O + 1)
  obtain ⟨d1, d2, d3, d4⟩ := CI.kv c1 c2
  obtain ⟨H2, l2, w2, _, _⟩ := l1.kv w1
  unfold Ck.spr
  cases hk : (k.kv (k.lb (k.O + 1) t.1)).1
  ·rw [if_neg (by simp)]
   obtain ⟨f1, f2, f3, f4, f5⟩ := CI.wa (s := ((k.kv (k.lb (k.O + 1) t.1)).2, t.2)) d1 d2
   cases hw : (k.wa ((k.kv (k.lb (k.O + 1) t.1)).2, t.2)).2
   ·rw [if_neg (by simp), wa_idle k _ hw]
    intro d hd
    obtain ⟨i, hi, ei⟩ := List.mem_iff_getElem.1 hd
    have q := wkl_ok k (List.range t.2.length) (((k.kv (k.lb (k.O + 1) t.1)).2, t.2), false) hw i (List.mem_range.2 hi)
    have e2 : t.2.getD i (0, 0) = d := by
     rw [List.getD_eq_getElem?_getD, List.getElem?_eq_getElem hi, ei]
     rfl
    dsimp only at q
    rw [e2] at q
    exact q
   ·rw [if_pos rfl]
    obtain ⟨H3, l3, w3, _, _⟩ := Ru.wa (k := k) (z := z) (D := D) ((k.kv (k.lb (k.O + 1) t.1)).2, t.2) H2 l2 w2
    have h5 := f5 hw
    dsimp only at h5
    exact spr_wq n _ H3 l3 w3 f2 (by omega)
  ·rw [if_pos rfl]
   have h5 := d4 hk
   exact spr_wq n ((k.kv (k.lb (k.O + 1) t.1)).2, t.2) H2 l2 w2 d2 (by dsimp only; omega)
end
section
variable {a : Wc} {S : Ww} {Y G : List Int}
end
end Go.Proofs.YtnalfnlmaallmaaGreat
