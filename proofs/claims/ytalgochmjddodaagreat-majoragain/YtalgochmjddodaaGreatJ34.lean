/- Joined: Ws19, Vb1, Ms2, Mk6, Vb2. -/
import Derived.Test.YtalgochmjddodaaGreatJ33
import Derived.Test.YtalgochmjddodaaGreatJ31
import Derived.Test.YtalgochmjddodaaGreatJ00
import Derived.Test.YtalgochmjddodaaGreatJ24
namespace Go.Proofs.YtalgochmjddodaaGreat
open Go.RowKit W Kp Stl
structure CutR (a : Wc) (S : Ww) (G K D : List Int) : Prop where
  li : LI (S.s.k0 a) (S.s.z0 G) (S.s4 a) K D
  we : WE (S.s.k0 a) (S.s.z0 G) (S.s4 a) K
  he : hB a.N (S.s4 a).g (S.s4 a).nx = false
  hz : ∀ v, (v ∈ (S.s.k0 a).T \/ v ∈ G) -> ∀ i, 0 <= i -> i < pf ((S.s.k0 a).l0 (S.s.z0 G) v) -> aB ((S.s.k0 a).l0 (S.s.z0 G) (v + 1 + i)) = true -> aV ((S.s.k0 a).l0 (S.s.z0 G) (v + 1 + i)) ∈ (S.s.k0 a).T \/ aV ((S.s.k0 a).l0 (S.s.z0 G) (v + 1 + i)) ∈ G
  hc : ∀ v ∈ G, v ∉ D -> ∀ i, 0 <= i -> i < pf ((S.s.k0 a).l0 (S.s.z0 G) v) -> (S.s.k0 a).yg ((S.s.k0 a).l0 (S.s.z0 G) (v + 1 + i)) = false
  rl : (S.s4 a).rs.length = 12
  ry : ∀ i, i < 12 -> (S.s.k0 a).yg ((S.s4 a).rs.getD i 0) = false
  rm : ∀ i, i < 12 -> (S.s.k0 a).ml (S.s4 a) (S.s.rs.getD i 0) ((S.s4 a).rs.getD i 0)
section
variable {a : Wc} {S : Ww} {Y G : List Int}
theorem cut_rest (h : KInv a S.s Y G) (hb : Wbd a S.s) (hr : S.s.y <= a.O - S.s.g) : ∃ K D, CutR a S G K D := by
 have hT : (S.s.k0 a).T = Y := Tw_eq h.inv.full hb.n1 hb.y1 hb.o1 hb.g1
 have L0 := LI.start h.inv.full hb.n0 hb.n1 hb.o1 hb.y1 hb.g1 hb.l1 hr
 have W0 := WE.start a S.s G
 obtain ⟨H1, L1, p1, ⟨H1', e1⟩, l1, y1, _, m1⟩ := L0.kr 12 (by show 12 <= S.s.rs.length; rw [hb.r1]; exact Nat.le_refl _)
 have W1 := W0.kr L0.mi 12 L1.mi p1 ⟨_, e1⟩
 have eth : thO a.N S.s.y (S.s.s1 a).g (S.s.s1 a).ws = G ++ H1 := (L1.mi.full.lists (O := a.O) hb.n1 hb.y1 hb.o1 L1.mi.ci.hg).2
 have enx : (S.s.s1 a).nx = ((S.s.k0 a).N : Int) + (S.s.z0 G).g := (kr_wk (S.s.k0 a) (S.s.s0 a) 12).2.2
 have hzt : Tile ((S.s.k0 a).l0 (S.s.z0 G)) (((S.s.k0 a).N : Int) + (S.s.z0 G).g) (S.s.k0 a).N (S.s.z0 G).G := h.inv.full.to
 obtain ⟨H2, D2, L2, W2, p2, ⟨H2', e2⟩, _, hD⟩ := LI.lmw (nC a.O) S.s.M hzt (G ++ H1) L1 W1 (fun x hx => (List.mem_append.1 hx).imp id (fun d => L1.mi.hlo x d))
 have es2 : (G ++ H1).foldl ((S.s.k0 a).lm1 (((S.s.k0 a).N : Int) + (S.s.z0 G).g) (nC a.O) S.s.M) ((S.s.k0 a).kr (S.s.s0 a) 12) = S.s.s2 a := by
  unfold Wst.s2 Ck.lm
  rw [eth, enx]
  rfl
 have hlen := lm_len (S.s.k0 a) (((S.s.k0 a).N : Int) + (S.s.z0 G).g) (nC a.O) S.s.M (G ++ H1) ((S.s.k0 a).kr (S.s.s0 a) 12)
 rw [es2] at L2 W2 p2 hlen
 have hle : (G ++ H1).length <= 2000 := by
  rw [<- eth]
  exact ths_le _ _
 obtain ⟨q1, q2, q3⟩ := kr_wk (S.s.k0 a) (S.s.s0 a) 12
 have cb : CB (S.s.k0 a) (S.s.s2 a) := by
  obtain ⟨u1, u2, u3, _⟩ := hlen
  rw [q1] at u1
  rw [q2] at u2
  rw [q3] at u3
  have u1 : (S.s.s2 a).wk.length <= 0 + (G ++ H1).length := u1
  have u2 : (S.s.s2 a).ep.length <= 0 + (G ++ H1).length := u2
  have u3 : (S.s.s2 a).nx = (a.N : Int) + S.s.g := u3
  have o1 := hb.o1
  refine ⟨?_, ?_⟩
  ·rw [u3]
   show (S.s.s2 a).wk.length + ((a.N : Int) + a.O + 13 - ((a.N : Int) + S.s.g)).toNat <= 4000
   omega
  ·rw [u3]
   show (S.s.s2 a).ep.length + ((a.N : Int) + a.O + 13 - ((a.N : Int) + S.s.g)).toNat <= 4000
   omega
 have R3 : Rest (S.s.k0 a) (S.s.z0 G) D2 H2 (S.t3 a).1 := by
  have key : ∀ s2 : Cs, LI (S.s.k0 a) (S.s.z0 G) s2 H2 D2 -> WE (S.s.k0 a) (S.s.z0 G) s2 H2 -> CB (S.s.k0 a) s2 -> Rest (S.s.k0 a) (S.s.z0 G) D2 H2 ((S.s.k0 a).sp (s2, S.q)).1 := fun s2 l w b => Rest.sp (t := (s2, S.q)) l w b ⟨[], (List.append_nil _).symm⟩
  unfold Ww.t3
  exact key _ L2 W2 cb
 have R4 : Rest (S.s.k0 a) (S.s.z0 G) D2 H2 (S.s4 a) := by
  unfold Ww.s4
  exact R3.sS S.r
 obtain ⟨K, L4, W4, _, he, ⟨B, e4⟩⟩ := R4
 have ers : (S.s4 a).rs = (S.s.s1 a).rs := by
  unfold Ww.s4
  rw [sS_rs]
  unfold Ww.t3 Ck.sp
  rw [spr_rs]
  exact hlen.2.2.2
 -- what was told of roots is so behind
 have pg : Pg (S.s.k0 a) (S.s.s1 a) (S.s4 a) := by
  have key : ∀ s2 : Cs, LI (S.s.k0 a) (S.s.z0 G) s2 H2 D2 -> WE (S.s.k0 a) (S.s.z0 G) s2 H2 -> Pg (S.s.k0 a) s2 ((S.s.k0 a).sS ((S.s.k0 a).sp (s2, S.q)) S.r).1 := fun s2 l w => by
   obtain ⟨K1, i1, i2, i3, _⟩ := Ru.sp (k := S.s.k0 a) (z := S.s.z0 G) (D := D2) (s2, S.q) H2 l w
   obtain ⟨K2, _, _, j3, _⟩ := Ru.sS (k := S.s.k0 a) (z := S.s.z0 G) (D := D2) ((S.s.k0 a).sp (s2, S.q)) S.r K1 i1 i2
   exact i3.trans j3
  unfold Ww.s4 Ww.t3
  exact p2.trans (key _ L2 W2)
 refine ⟨K, D2, L4, W4, he, fun v hv i i0 i1 ha => ?_, fun v hv hvD i i0 i1 => ?_, ?_, fun i hi => ?_, fun i hi => ?_⟩
 ·rw [hT] at hv ⊢
  exact h.inv.fd v hv i i0 i1 ha
 ·cases hc : (S.s.k0 a).yg ((S.s.k0 a).l0 (S.s.z0 G) (v + 1 + i))
  ·rfl
  ·exfalso
   unfold Ck.yg at hc
   rw [Bool.and_eq_true, hT] at hc
   have hm := h.cd v hv i i0 i1 hc.1 (List.contains_iff_mem.1 hc.2)
   exact hvD (hD v (List.mem_append_left _ hv) hv hm)
 ·rw [ers]
  exact l1.trans hb.r1
 ·rw [ers]
  exact y1 i hi
 ·rw [ers]
  exact pg.ml (m1 i hi)
theorem CutR.root {K D : List Int} (c : CutR a S G K D) (h : KInv a S.s Y G) (hb : Wbd a S.s) : ∀ x ∈ (S.s4 a).rs, Gd (S.s.k0 a) (G ++ K) x := fun x hx ha => by
 have hT : (S.s.k0 a).T = Y := Tw_eq h.inv.full hb.n1 hb.y1 hb.o1 hb.g1
 obtain ⟨i, hi, e⟩ := List.mem_iff_getElem.1 hx
 have hi12 : i < 12 := by rw [<- c.rl]; exact hi
 have e2 : (S.s4 a).rs.getD i 0 = x := by
  rw [List.getD_eq_getElem?_getD, List.getElem?_eq_getElem hi, e]
  rfl
 have hy := c.ry i hi12
 have hm := c.rm i hi12
 rw [e2] at hy hm
 refine ⟨hy, ?_⟩
 rcases hm with d | ⟨g1, g2, g3⟩
 ·have hmem : S.s.rs.getD i 0 ∈ S.s.rs := by
   have hl : i < S.s.rs.length := by rw [hb.r1]; exact hi12
   rw [List.getD_eq_getElem?_getD, List.getElem?_eq_getElem hl]
   exact List.getElem_mem hl
  rw [<- d] at hmem
  rcases h.inv.rt x hmem ha with g | g
  ·unfold Ck.yg at hy
   rw [ha, hT] at hy
   simp at hy
   exact absurd g hy
  ·exact List.mem_append_left _ g
 ·have hT2 : aV (S.s.rs.getD i 0) ∈ (S.s.k0 a).T := by
   unfold Ck.yg at g1
   rw [Bool.and_eq_true] at g1
   simpa using g1.2
  have hH := c.li.mi.fh _ hT2 g2
  have hbd := c.li.mi.bdH hH
  have hN := hb.n1
  have hO := hb.o1
  have hg := c.li.mi.ci.hg
  have eN : (S.s.k0 a).N = a.N := rfl
  have eO : (S.s.k0 a).O = a.O := rfl
  obtain ⟨n, hn⟩ : ∃ n : Nat, (S.s4 a).f (aV (S.s.rs.getD i 0)) = n := ⟨((S.s4 a).f (aV (S.s.rs.getD i 0))).toNat, by omega⟩
  rw [g3, hn, (ew_at n (by omega)).2, <- hn]
  exact List.mem_append_right _ hH
theorem CutR.done {K D : List Int} (c : CutR a S G K D) (h : KInv a S.s Y G) (hb : Wbd a S.s) : WInv a.N 0 (S.s6 a).g (S.s6 a).ws [] (G ++ K) (S.s6 a).rs := by
 have ci := c.li.mi.ci
 have F4 : Fin1 (S.s.k0 a) (G ++ K) (fun b i => (i = 0 /\ b ∈ (S.s4 a).wk) \/ ((i = 0 \/ i = 1) /\ b ∈ (S.s4 a).ep)) (S.s4 a) := by
  refine ⟨c.li.mi.full, ci.len, ci.hy, ci.hg, fun b hb i i0 i1 => ?_, fun b hb i i0 i1 hy ha => ⟨hy, c.li.fy c.hz hb i0 i1 ha hy⟩⟩
  cases ha : aB ((S.s.k0 a).ld (S.s4 a) (b + 1 + i))
  ·exact Or.inl (fun e => by rw [ha] at e; cases e)
  ·rcases c.li.fields c.he c.hz c.hc hb i0 i1 ha with d | ⟨d1, d2, d3⟩ | ⟨d1, d2⟩
   ·exact Or.inl (fun _ => ⟨c.li.mi.noY d, d⟩)
   ·exact Or.inr (Or.inl ⟨d2, d3⟩)
   ·have f2 := pf_two (c.li.mi.bd hb).2.2 (Or.inr (Or.inr d1))
    exact Or.inr (Or.inr ⟨by omega, d2⟩)
 obtain ⟨F5, k5, g5, r5, e5⟩ := Fin1.mw hb.n1 hb.o1 (S.s4 a).wk F4 (fun x hx => c.we.wk x hx) (fun x hx hf => List.mem_append_right _ (c.li.mi.fh x hx hf))
 have F5 : Fin1 (S.s.k0 a) (G ++ K) _ (S.s5 a) := F5
 have e5 : (S.s5 a).ep = (S.s4 a).ep := e5
 have r5 : (S.s5 a).rs = (S.s4 a).rs := r5
 have k5 : ∀ b ∈ G ++ K, (S.s.k0 a).ld (S.s5 a) b = (S.s.k0 a).ld (S.s4 a) b := k5
 obtain ⟨F6, k6, g6, r6⟩ := Fin1.be (S.s5 a).ep F5 (fun x hx => by
  rw [e5] at hx
  obtain ⟨q1, q2⟩ := c.we.ep x hx
  exact ⟨q1, by rw [k5 x q1]; exact q2⟩)
 have r6 : (S.s6 a).rs = (S.s5 a).rs := r6
 have F6 := F6.imp (Q := fun _ _ => False) (fun b i p => by
  obtain ⟨⟨p1, p2⟩, p3⟩ := p
  rw [e5] at p3
  rcases p1 with ⟨d1, d2⟩ | ⟨d1, d2⟩
  ·exact p2 ⟨d2, d1⟩
  ·exact p3 ⟨d2, d1⟩)
 exact F6.done (rs := (S.s6 a).rs) (by rw [r6, r5]; exact c.root h hb)
theorem KInv.cut (h : KInv a S.s Y G) (hb : Wbd a S.s) : ∃ Y' G', KInv a (S.cut a).s Y' G' := by
 unfold Ww.cut
 cases hf : S.full a
 ·have hr : S.s.y <= a.O - S.s.g := by
   unfold Ww.full at hf
   have := of_decide_eq_false hf
   omega
  obtain ⟨K, D, c⟩ := cut_rest h hb hr
  rw [if_neg (by simp)]
  exact ⟨[], G ++ K, c.done h hb, fun v _ i _ _ _ hy => by cases hy⟩
 ·rw [if_pos rfl]
  exact ⟨Y, G, h⟩
end
end Go.Proofs.YtalgochmjddodaaGreat

namespace Go.Proofs.YtalgochmjddodaaGreat
open W
def Wls (WR : Int -> Int -> Prop) : List Int -> List Int -> Prop
 | [], [] => True
 | x :: l, x' :: l' => WR x x' /\ Wls WR l l'
 | _, _ => False
theorem Wls.of {WR : Int -> Int -> Prop} : ∀ {l l' : List Int}, l.length = l'.length -> (∀ i, i < l.length -> WR (l.getD i 0) (l'.getD i 0)) -> Wls WR l l'
 | [], [], _, _ => trivial
 | [], x' :: l', h, _ => by simp at h
 | x :: l, [], h, _ => by simp at h
 | x :: l, x' :: l', h, hi => ⟨by simpa using hi 0 (by simp), Wls.of (by simpa using h) (fun i d => by
  have := hi (i + 1) (by simpa using d)
  simpa using this)⟩
def Wmv (R : Int -> Prop) (f : Int -> Int) (x x' : Int) : Prop := (dk x = 3 /\ dk x' = 3 /\ R (dn x) /\ dn x' = f (dn x)) \/ (dk x ≠ 3 /\ dk x' = dk x /\ dn x' = dn x)
structure Bi (R : Int -> Prop) (f : Int -> Int) (T : List Int) (kd : Int -> Int) (sh : Int -> List Int) (T' : List Int) (kd' : Int -> Int) (sh' : Int -> List Int) : Prop where
  rT : ∀ a, R a -> a ∈ T
  rT' : ∀ a, R a -> f a ∈ T'
  inj : ∀ a b, R a -> R b -> f a = f b -> a = b
  kd : ∀ a, R a -> kd' (f a) = kd a
  sh : ∀ a, R a -> Wls (Wmv R f) (sh a) (sh' (f a))
structure Bs (R : Int -> Prop) (f : Int -> Int) (T T' : List Int) (s s' : Vst) : Prop where
  ok : VOk T s
  ok' : VOk T' s'
  ms : s'.1 = s.1.map f
  nd : s'.2 = s.2
  rs : ∀ a ∈ s.1, R a
section
variable {R : Int -> Prop} {f : Int -> Int} {T T' : List Int} {kd kd' : Int -> Int} {sh sh' : Int -> List Int}
theorem idx_map (inj : ∀ a b, R a -> R b -> f a = f b -> a = b) {d : Int} (hd : R d) : ∀ l : List Int, (∀ a ∈ l, R a) -> (l.map f).idxOf (f d) = l.idxOf d
 | [], _ => rfl
 | x :: l, h => by
  rw [List.map_cons, List.idxOf_cons, List.idxOf_cons, idx_map inj hd l (fun a ha => h a (List.mem_cons_of_mem _ ha))]
  by_cases e : x = d
  ·rw [e, beq_self_eq_true, beq_self_eq_true]
  ·have e2 : f x ≠ f d := fun c => e (inj x d (h x List.mem_cons_self) hd c)
   rw [beq_false_of_ne e, beq_false_of_ne e2]
theorem mem_mapf (inj : ∀ a b, R a -> R b -> f a = f b -> a = b) {d : Int} (hd : R d) {l : List Int} (h : ∀ a ∈ l, R a) : f d ∈ l.map f ↔ d ∈ l := by
 refine ⟨fun c => ?_, fun c => List.mem_map_of_mem c⟩
 obtain ⟨x, h1, h2⟩ := List.mem_map.1 c
 rw [<- inj x d (h x h1) hd h2]
 exact h1
def Bmet (R : Int -> Prop) (f : Int -> Int) (T T' : List Int) (n n' : Nat) (M M' : Vst -> Int -> Vst) : Prop :=
 ∀ s s' a, Bs R f T T' s s' -> R a -> a ∉ s.1 -> T.length <= s.1.length + n -> T'.length <= s'.1.length + n' -> Bs R f T T' (M s a) (M' s' (f a))
theorem vst_bi (B : Bi R f T kd sh T' kd' sh') {n n' : Nat} {M M' : Vst -> Int -> Vst} (hM : Bmet R f T T' n n' M M') {s s' : Vst} (h : Bs R f T T' s s') (hn : T.length <= s.1.length + n) (hn' : T'.length <= s'.1.length + n') {x x' : Int} (hx : Wmv R f x x') :
  (vst M T s x).1 = (vst M' T' s' x').1 /\ Bs R f T T' (vst M T s x).2 (vst M' T' s' x').2 := by
 unfold vst
 rcases hx with ⟨d1, d2, d3, d4⟩ | ⟨d1, d2, d3⟩
 ·rw [if_pos d1, if_pos d2, if_pos (List.contains_iff_mem.2 (B.rT _ d3)), d4, if_pos (List.contains_iff_mem.2 (B.rT' _ d3))]
  have hm := mem_mapf B.inj d3 h.rs
  rw [<- h.ms] at hm
  by_cases c : dn x ∈ s.1
  ·rw [if_pos (List.contains_iff_mem.2 c), if_pos (List.contains_iff_mem.2 (hm.2 c))]
   refine ⟨?_, h⟩
   dsimp only
   rw [h.ms, idx_map B.inj d3 s.1 h.rs]
  ·rw [if_neg (fun e => c (List.contains_iff_mem.1 e)), if_neg (fun e => c (hm.1 (List.contains_iff_mem.1 e)))]
   refine ⟨?_, hM s s' (dn x) h d3 c hn hn'⟩
   dsimp only
   rw [h.ms, List.length_map]
 ·rw [if_neg d1, if_neg (by rw [d2]; exact d1), d2, d3]
  exact ⟨rfl, h⟩
theorem vls_bi (B : Bi R f T kd sh T' kd' sh') {n n' : Nat} {M M' : Vst -> Int -> Vst} (hV : Vmet T kd sh n M) (hV' : Vmet T' kd' sh' n' M') (hM : Bmet R f T T' n n' M M') : ∀ (l l' : List Int) (r r' : List (Int × Int) × Vst), Wls (Wmv R f) l l' -> r.1 = r'.1 -> Bs R f T T' r.2 r'.2 -> T.length <= r.2.1.length + n -> T'.length <= r'.2.1.length + n' ->
  (l.foldl (fun r x => (r.1 ++ [(vst M T r.2 x).1], (vst M T r.2 x).2)) r).1 = (l'.foldl (fun r x => (r.1 ++ [(vst M' T' r.2 x).1], (vst M' T' r.2 x).2)) r').1 /\ Bs R f T T' (l.foldl (fun r x => (r.1 ++ [(vst M T r.2 x).1], (vst M T r.2 x).2)) r).2 (l'.foldl (fun r x => (r.1 ++ [(vst M' T' r.2 x).1], (vst M' T' r.2 x).2)) r').2
 | [], [], r, r', _, e, h, _, _ => ⟨e, h⟩
 | [], x' :: l', r, r', hw, _, _, _, _ => absurd hw (by simp [Wls])
 | x :: l, [], r, r', hw, _, _, _, _ => absurd hw (by simp [Wls])
 | x :: l, x' :: l', r, r', hw, e, h, hn, hn' => by
  obtain ⟨w1, w2⟩ := hw
  obtain ⟨e1, e2⟩ := vst_bi B hM h hn hn' w1
  have g1 := (vst_go hV h.ok hn x).le
  have g2 := (vst_go hV' h.ok' hn' x').le
  rw [List.foldl_cons, List.foldl_cons]
  exact vls_bi B hV hV' hM l l' _ _ w2 (by dsimp only; rw [e, e1]) e2 (by dsimp only; omega) (by dsimp only; omega)
theorem met_bi (B : Bi R f T kd sh T' kd' sh') : ∀ n n' : Nat, Bmet R f T T' n n' (met T kd sh n) (met T' kd' sh' n')
 | 0, _ => fun s s' a h ha hna hn _ => by
  have := h.ok.lt (B.rT a ha) hna
  omega
 | n + 1, 0 => fun s s' a h ha hna _ hn' => by
  have := h.ok'.lt (B.rT' a ha) (fun c => hna ((mem_mapf B.inj ha h.rs).1 (by rw [<- h.ms]; exact c)))
  omega
 | n + 1, n' + 1 => fun s s' a h ha hna hn hn' => by
  have hna' : f a ∉ s'.1 := fun c => hna ((mem_mapf B.inj ha h.rs).1 (by rw [<- h.ms]; exact c))
  have o1 := (met_go (kd := kd) (sh := sh) (n + 1) s a h.ok (B.rT a ha) hna hn).ok
  have o2 := (met_go (kd := kd') (sh := sh') (n' + 1) s' (f a) h.ok' (B.rT' a ha) hna' hn').ok
  have h1 : Bs R f T T' (s.1 ++ [a], s.2 ++ [(kd a, [])]) (s'.1 ++ [f a], s'.2 ++ [(kd' (f a), [])]) := ⟨h.ok.more (B.rT a ha) hna _, h.ok'.more (B.rT' a ha) hna' _, by dsimp only; rw [h.ms]; simp, by dsimp only; rw [h.nd, B.kd a ha], fun c hc => by
   rcases List.mem_append.1 hc with d | d
   ·exact h.rs c d
   ·rw [List.mem_singleton] at d
    rw [d]
    exact ha⟩
  obtain ⟨e1, e2⟩ := vls_bi B (met_go n) (met_go n') (met_bi B n n') (sh a) (sh' (f a)) ([], (s.1 ++ [a], s.2 ++ [(kd a, [])])) ([], (s'.1 ++ [f a], s'.2 ++ [(kd' (f a), [])])) (B.sh a ha) rfl h1 (by simp; omega) (by simp; omega)
  refine ⟨o1, o2, e2.ms, ?_, e2.rs⟩
  have e3 := e2.nd
  show (vls (met T' kd' sh' n') T' (s'.1 ++ [f a], s'.2 ++ [(kd' (f a), [])]) (sh' (f a))).2.2.set s'.1.length (kd' (f a), (vls (met T' kd' sh' n') T' (s'.1 ++ [f a], s'.2 ++ [(kd' (f a), [])]) (sh' (f a))).1) = (vls (met T kd sh n) T (s.1 ++ [a], s.2 ++ [(kd a, [])]) (sh a)).2.2.set s.1.length (kd a, (vls (met T kd sh n) T (s.1 ++ [a], s.2 ++ [(kd a, [])]) (sh a)).1)
  have e1 : (vls (met T kd sh n) T (s.1 ++ [a], s.2 ++ [(kd a, [])]) (sh a)).1 = (vls (met T' kd' sh' n') T' (s'.1 ++ [f a], s'.2 ++ [(kd' (f a), [])]) (sh' (f a))).1 := e1
  have e3 : (vls (met T' kd' sh' n') T' (s'.1 ++ [f a], s'.2 ++ [(kd' (f a), [])]) (sh' (f a))).2.2 = (vls (met T kd sh n) T (s.1 ++ [a], s.2 ++ [(kd a, [])]) (sh a)).2.2 := e3
  rw [e3, <- e1, B.kd a ha, h.ms, List.length_map]
theorem walk_bi (B : Bi R f T kd sh T' kd' sh') {l l' : List Int} (hl : Wls (Wmv R f) l l') {n n' : Nat} (hn : T.length <= n) (hn' : T'.length <= n') : (vls (met T kd sh n) T ([], []) l).1 = (vls (met T' kd' sh' n') T' ([], []) l').1 /\ (vls (met T' kd' sh' n') T' ([], []) l').2.2 = (vls (met T kd sh n) T ([], []) l).2.2 /\ (vls (met T' kd' sh' n') T' ([], []) l').2.1 = (vls (met T kd sh n) T ([], []) l).2.1.map f := by
 obtain ⟨e1, e2⟩ := vls_bi B (met_go n) (met_go n') (met_bi B n n') l l' ([], ([], [])) ([], ([], [])) hl rfl ⟨VOk.start T, VOk.start T', rfl, rfl, fun a ha => by cases ha⟩ (by simpa using hn) (by simpa using hn')
 exact ⟨e1, e2.nd, e2.ms⟩
end
end Go.Proofs.YtalgochmjddodaaGreat

namespace Go.Proofs.YtalgochmjddodaaGreat
open Go.RowKit W Kp Stl
theorem dk_aB {x : Int} (h : dk x = 3) : aB x = true := by
 unfold aB
 have h0 : dc x = 0 := by
  unfold dk at h
  split at h
  ·assumption
  ·omega
 rw [h, h0]
 rfl
theorem aB_dk {x : Int} (h : aB x = true) : dk x = 3 := by
 unfold aB at h
 rw [Bool.and_eq_true] at h
 simpa using h.2
def K12 (a : Wc) (s : Wst) (Y G : List Int) : Prop := ∀ v, (v ∈ Y \/ v ∈ G) -> pk (ld a.N s.y s.g s.ws v) = 1 \/ pk (ld a.N s.y s.g s.ws v) = 2
section
variable {a : Wc} {S : Ww} {Y G K D : List Int}
end
end Go.Proofs.YtalgochmjddodaaGreat

namespace Go.Proofs.YtalgochmjddodaaGreat
open Go.RowKit W Kp Stl
theorem Pos.same {z z' : Int -> Int} {al al' : Int -> Bool} {f f' : Int -> Int} : ∀ {l : List Int} {n m : Int}, (∀ a ∈ l, z a = z' a /\ al a = al' a /\ f a = f' a) -> Pos z al f n l m -> Pos z' al' f' n l m
 | [], n, m, _, h => h
 | a :: l, n, m, he, h => by
  obtain ⟨e1, e2, e3⟩ := he a (by simp)
  have ih : ∀ {n m : Int}, Pos z al f n l m -> Pos z' al' f' n l m := fun h => Pos.same (fun b hb => he b (List.mem_cons_of_mem _ hb)) h
  refine ⟨fun c => ?_, fun c => ?_⟩
  ·obtain ⟨h1, h2⟩ := h.1 (by rw [e2]; exact c)
   rw [<- e3, <- e1]
   exact ⟨h1, ih h2⟩
  ·obtain ⟨h1, h2⟩ := h.2 (by rw [e2]; exact c)
   rw [<- e3]
   exact ⟨h1, ih h2⟩
structure Gc (a : Wc) (s : Wst) (T : List Int) (j : Js) (s' : Wst) : Prop where
  y : s'.y = 0
  M : s'.M = []
  rl : s'.rs.length = 12
  g : s'.g <= a.O
  l : s'.ws.length = a.N + a.O
  pos : Pos (fun c => pf (ld a.N s.y s.g s.ws c)) (fun c => !(j.f c == -1)) j.f a.N T (a.N + s'.g)
  rs : ∀ i, i < 12 -> s'.rs.getD i 0 = (s.j0 a).nw j (s.rs.getD i 0)
  hd : ∀ c ∈ T, j.f c ≠ -1 -> ld a.N 0 s'.g s'.ws (j.f c) = ld a.N s.y s.g s.ws c
  fd : ∀ c ∈ T, j.f c ≠ -1 -> ∀ i, 0 <= i -> i < pf (ld a.N s.y s.g s.ws c) -> ld a.N 0 s'.g s'.ws (j.f c + 1 + i) = (s.j0 a).nw j ((s.j0 a).bkf j c i)
section
variable {a : Wc} {s : Wst} {Y G : List Int}
theorem j0_lists (h : Full2 a.N s.y s.g s.ws Y G) (hb : Wbd a s) : (s.j0 a).Y = Y /\ (s.j0 a).G = G /\ (s.j0 a).T = G ++ Y := by
 have e1 : (s.j0 a).Y = Y := by
  show kpL _ (thY a.N s.y s.g s.ws) = Y
  rw [(h.lists (O := a.O) hb.n1 hb.y1 hb.o1 hb.g1).1]
  exact kpL_none (fun x hx => decide_eq_false (by have := (h.ty.mem x hx).2.1; omega))
 have e2 : (s.j0 a).G = G := by
  show kpL _ (thO a.N s.y s.g s.ws) = G
  rw [(h.lists (O := a.O) hb.n1 hb.y1 hb.o1 hb.g1).2]
  exact kpL_none (fun x hx => decide_eq_false (by have := (h.to.mem x hx).2.1; omega))
 exact ⟨e1, e2, by unfold Jk.T; rw [e1, e2]⟩
theorem j0_whl (h : Full2 a.N s.y s.g s.ws Y G) (hb : Wbd a s) : ∀ c ∈ (s.j0 a).T, Whl (s.j0 a) c := fun c hc => by
 obtain ⟨e1, e2, e3⟩ := j0_lists h hb
 rw [e3] at hc
 rcases List.mem_append.1 hc with d | d
 ·obtain ⟨h1, h2, h3⟩ := h.to.mem c d
  exact ⟨h3, fun i i0 i1 => iB_o (by show (a.N : Int) <= _; omega) (by have i1 : i <= pf (ld a.N s.y s.g s.ws c) := i1; show c + i < (a.N : Int) + s.g; omega)⟩
 ·obtain ⟨h1, h2, h3⟩ := h.ty.mem c d
  exact ⟨h3, fun i i0 i1 => iB_y (by omega) (by have i1 : i <= pf (ld a.N s.y s.g s.ws c) := i1; show c + i < (s.y : Int); omega)⟩
theorem j0_ap (h : Full2 a.N s.y s.g s.ws Y G) (hb : Wbd a s) : ∀ c ∈ (s.j0 a).T, ∀ d ∈ (s.j0 a).T, c < d -> c + (1 + pf ((s.j0 a).ld c)) <= d := fun c hc d hd q => by
 obtain ⟨e1, e2, e3⟩ := j0_lists h hb
 rw [e3] at hc hd
 show c + (1 + pf (ld a.N s.y s.g s.ws c)) <= d
 have hy := hb.y1
 rcases List.mem_append.1 hc with hc | hc <;> rcases List.mem_append.1 hd with hd | hd
 ·exact h.to.apart c hc d hd q
 ·have h1 := (h.to.mem c hc).1
  have h2 := (h.ty.mem d hd).2.1
  have := pf_bd (ld a.N s.y s.g s.ws d)
  omega
 ·have h1 := (h.ty.mem c hc).2.1
  have h2 := (h.to.mem d hd).1
  omega
 ·exact h.ty.apart c hc d hd q
theorem gc_done (h : Full2 a.N s.y s.g s.ws Y G) (hb : Wbd a s) (j3 : Js) (hm : ((s.j0 a).pl j3).2 <= a.N + a.O) :
  Gc a s (G ++ Y) ((s.j0 a).pl j3).1 (((s.j0 a).tlA ((s.j0 a).pl j3).1).sl ((s.j0 a).pl j3).1).s /\ ((((s.j0 a).tlA ((s.j0 a).pl j3).1).sl ((s.j0 a).pl j3).1).s.g : Int) = ((s.j0 a).pl j3).2 - a.N /\
  (∀ c ∈ G ++ Y, ((s.j0 a).pl j3).1.f c = -1 ↔ j3.f c = -1) /\ (∃ F, SlG ((s.j0 a).tlA ((s.j0 a).pl j3).1) ((s.j0 a).pl j3).1 F /\ F 0 ((s.j0 a).tlA ((s.j0 a).pl j3).1, 0)) := by
 obtain ⟨e1, e2, e3⟩ := j0_lists h hb
 have ew := j0_whl h hb
 have eap := j0_ap h hb
 have enda : (s.j0 a).T.Nodup := (JI.start (s := s) hb.n1 hb.o1 hb.y1 hb.g1).nd
 have hz : ∀ c, 0 <= (fun c => pf ((s.j0 a).ld c)) c := fun c => (pf_bd _).1
 obtain ⟨k, hk⟩ : ∃ k, s.j0 a = k := ⟨_, rfl⟩
 have ka : k.a = a := by rw [<- hk]; rfl
 have ks : k.s = s := by rw [<- hk]; rfl
 have kld : ∀ x, k.ld x = ld a.N s.y s.g s.ws x := fun x => by rw [<- hk]; rfl
 have kb : Kbd k := ⟨by rw [ks, ka]; exact hb.l1, by rw [ks, ka]; exact hb.y1, by rw [ks, ka]; exact hb.g1⟩
 obtain ⟨P0, _, _, _⟩ := pl_pos (s.j0 a) (fun c => !(j3.f c == -1)) (s.j0 a).T (j3, a.N) enda (fun c _ => rfl)
 have P0 : Pos (fun c => pf ((s.j0 a).ld c)) (fun c => !(j3.f c == -1)) ((s.j0 a).pl j3).1.f a.N (s.j0 a).T ((s.j0 a).pl j3).2 := P0
 rw [hk] at e1 e2 e3 ew eap enda hz P0 hm ⊢
 obtain ⟨j, hj⟩ : ∃ j, (k.pl j3).1 = j := ⟨_, rfl⟩
 obtain ⟨m, hm'⟩ : ∃ m, (k.pl j3).2 = m := ⟨_, rfl⟩
 rw [hj, hm'] at P0
 rw [hm'] at hm
 rw [hj, hm']
 -- alive are those that have places
 have hal : ∀ c ∈ k.T, (!(j3.f c == -1)) = !(j.f c == -1) := fun c hc => by
  cases q : (!(j3.f c == -1))
  ·rw [P0.no c hc q]
   rfl
  ·have := (P0.bd hz c hc q).1
   rw [beq_false_of_ne (by omega)]
   rfl
 have P : Pos (fun c => pf (k.ld c)) (fun c => !(j.f c == -1)) j.f a.N k.T m := P0.same (fun c hc => ⟨rfl, hal c hc, rfl⟩)
 have hiff : ∀ c ∈ k.T, j.f c = -1 ↔ j3.f c = -1 := fun c hc => by
  have := hal c hc
  constructor
  ·intro q
   rw [q] at this
   simpa using this
  ·intro q
   rw [q] at this
   simpa using this.symm
 obtain ⟨t1, t2, t3, t4, t5, t6, t7, t8, t9, t10⟩ := tlA_ld (s := j) kb (by rw [ks]; exact hb.r1) enda ew eap
 obtain ⟨k5, hk5⟩ : ∃ k5, k.tlA j = k5 := ⟨_, rfl⟩
 rw [hk5] at t1 t2 t3 t4 t5 t6 t7 t8 t9 t10 ⊢
 have z5 : ∀ c ∈ k.T, pf (k5.ld c) = pf (k.ld c) := fun c hc => by rw [t9 c hc]
 have ha5 : k5.a = a := t1.trans ka
 have hG5 : k5.G = G := t3.trans e2
 have hY5 : k5.Y = Y := t2.trans e1
 have hT5 : ∀ c, c ∈ G \/ c ∈ Y -> c ∈ k.T := fun c hc => by rw [e3]; exact List.mem_append.2 hc
 rw [e3] at P
 obtain ⟨m0, PG, PY⟩ := P.app
 have PG5 : Pos (fun c => pf (k5.ld c)) (fun c => !(j.f c == -1)) j.f (k5.a.N + (0 : Int)) G m0 := by
  rw [ha5, Int.add_zero]
  exact PG.same (fun c hc => ⟨(z5 c (hT5 c (Or.inl hc))).symm, rfl, rfl⟩)
 have PY5 : Pos (fun c => pf (k5.ld c)) (fun c => !(j.f c == -1)) j.f m0 Y m := PY.same (fun c hc => ⟨(z5 c (hT5 c (Or.inr hc))).symm, rfl, rfl⟩)
 have hz5 : ∀ c, 0 <= (fun c => pf (k5.ld c)) c := fun c => (pf_bd _).1
 have hmY := PY5.le hz5
 have hmG := PG5.le hz5
 have I0 : SlI k5 (fun c => !(j.f c == -1)) j.f m0 [] G (k5, 0) := by
  refine ⟨Ksm.refl _, rfl, Int.le_refl _, PG5, ⟨a.N, ?_, by rw [ha5]; dsimp only; omega, fun _ _ _ => rfl⟩, fun _ _ _ => rfl, fun c hc => by cases hc⟩
  rw [ha5, t5, ks]
  exact h.to.heads (fun x hx => by rw [t9 x (hT5 x (Or.inl hx)), kld])
 have hs5 : ∀ c ∈ k5.G, (fun c => !(j.f c == -1)) c = !(j.f c == -1) := fun _ _ => rfl
 have SG := SlI.slg (k := k5) (s := j) (m := m0) t6.l t6.y t6.g (by rw [ha5]; exact hb.n1) (by rw [ha5]; exact hb.o1) hs5 (by rw [ha5]; omega)
 have I1 := SlI.all t6.l t6.y t6.g hs5 G [] (k5, 0) (fun c hc => by rw [hG5]; exact hc) I0
 rw [List.nil_append] at I1
 have hP1 : k5.a.N + (ejL (fun _ a => j.f a) (Jk.slS j) (k5, 0) G).2 = m0 := I1.pos
 have eSL : k5.slL j k5.G = ejL (fun _ a => j.f a) (Jk.slS j) (k5, 0) G := by unfold Jk.slL; rw [hG5]
 obtain ⟨u, hu⟩ : ∃ u, ejL (fun _ a => j.f a) (Jk.slS j) (k5, 0) G = u := ⟨_, rfl⟩
 rw [hu] at I1 hP1 eSL
 have u0 := I1.u0
 rw [ha5] at hP1
 have hgo := t6.g
 have hyo := t6.y
 rw [ha5] at hgo hyo
 -- behind Cut
 obtain ⟨k1, hk1⟩ : ∃ k1, k5.sl1 j = k1 := ⟨_, rfl⟩
 have ek1 : k1 = u.1.ar u.1.s.y u.2.toNat u.1.s.ws := by rw [<- hk1]; unfold Jk.sl1; rw [eSL]
 have g1 : (k1.s.g : Int) = u.2 := by rw [ek1]; show (u.2.toNat : Int) = _; omega
 have ua := I1.sm.a
 have uy := I1.sm.y
 have ug := I1.g
 have eld1 : ∀ x : Int, (0 <= x /\ x < k5.s.y) \/ ((a.N : Int) <= x /\ x < a.N + u.2 /\ x < a.N + k5.s.g) -> k1.ld x = u.1.ld x := fun x hx => by
  have i1 : iB u.1.a.N u.1.s.y u.1.s.g x = true := by
   rw [ua, uy, ug, ha5]
   exact (iB_bool _ _ _ _).2 (by omega)
  have i2 : iB u.1.a.N u.1.s.y u.2.toNat x = true := by
   rw [ua, uy, ha5]
   exact (iB_bool _ _ _ _).2 (by omega)
  rw [ek1]
  show ld u.1.a.N u.1.s.y u.2.toNat u.1.s.ws x = ld u.1.a.N u.1.s.y u.1.s.g u.1.s.ws x
  rw [ld_in i1, ld_in i2]
 obtain ⟨b, hbt, hb1, _⟩ := I1.tl
 have hb2 : b = k5.a.N + k5.s.g := hbt
 rw [ha5] at hb1 hb2
 have C0 : CpI k5 (fun c => !(j.f c == -1)) j.f m G Y k1 := by
  refine ⟨⟨by rw [ek1]; exact ua, by rw [ek1]; exact uy, by rw [ek1]; exact I1.sm.rs, by rw [ek1]; exact I1.sm.len⟩, by rw [ha5]; omega, ?_, fun x x0 x1 => ?_, fun c hc hal => ?_⟩
  ·rw [ha5, g1, hP1]
   exact PY5
  ·rw [eld1 x (Or.inl ⟨x0, x1⟩)]
   exact I1.yg x x0 x1
  ·obtain ⟨r1, r2⟩ := I1.rel c hc hal
   have r3 := (PG5.bd hz5 c hc hal).1
   rw [ha5] at r1 r3 ⊢
   refine ⟨by omega, by omega, fun i i0 i1 => ?_⟩
   rw [eld1 _ (Or.inr ⟨by omega, by omega, by omega⟩)]
   exact r2 i i0 i1
 have C1 := CpI.all (s := j) t6.l t6.y (by rw [ha5]; exact hm) Y G k1 (fun c hc => by
  have hcT := hT5 c (Or.inr hc)
  obtain ⟨q1, q2, q3⟩ := h.ty.mem c hc
  rw [t9 c hcT, kld, t4, ks]
  exact ⟨rfl, q1, q2, q3⟩) C0
 obtain ⟨k2, hk2⟩ : ∃ k2, k1.cpL j Y = k2 := ⟨_, rfl⟩
 rw [hk2] at C1
 have e2' : k5.sl2 j = k2 := by unfold Jk.sl2; rw [hk1, hY5]; exact hk2
 have e6 : (k5.sl j).s = ⟨0, k2.s.g, k2.s.ws, [], k2.s.rs⟩ := by unfold Jk.sl; rw [e2']; rfl
 have hg2 : (a.N : Int) + k2.s.g = m := by
  have := C1.pos
  rw [ha5] at this
  exact this
 have h2a : k2.a = a := C1.sm.a.trans ha5
 have h2y : k2.s.y <= a.N := by rw [C1.sm.y]; exact hyo
 have rel : ∀ c ∈ G ++ Y, j.f c ≠ -1 -> (a.N : Int) <= j.f c /\ ∀ i, 0 <= i -> i <= pf (k.ld c) -> ld a.N 0 k2.s.g k2.s.ws (j.f c + i) = k5.ld (c + i) := fun c hc hf => by
  have hcT : c ∈ k.T := by rw [e3]; exact hc
  obtain ⟨r1, r2, r3⟩ := C1.rel c hc (by rw [beq_false_of_ne hf]; rfl)
  rw [ha5] at r1
  refine ⟨r1, fun i i0 i1 => ?_⟩
  rw [ld_old (y := k2.s.y) (by omega) h2y, <- r3 i i0 (by rw [z5 c hcT]; exact i1)]
  show ld a.N k2.s.y k2.s.g k2.s.ws (j.f c + i) = ld k2.a.N k2.s.y k2.s.g k2.s.ws (j.f c + i)
  rw [h2a]
 refine ⟨?_, ?_, fun c hc => hiff c (by rw [e3]; exact hc), ⟨_, SG, ?_⟩⟩
 ·rw [e6]
  refine ⟨rfl, rfl, ?_, ?_, ?_, ?_, fun i hi => ?_, fun c hc hf => ?_, fun c hc hf i i0 i1 => ?_⟩
  ·show k2.s.rs.length = 12
   rw [C1.sm.rs]
   exact t7
  ·show k2.s.g <= a.O
   omega
  ·show k2.s.ws.length = a.N + a.O
   rw [C1.sm.len, t6.l, ha5]
  ·show Pos _ _ _ _ _ ((a.N : Int) + k2.s.g)
   rw [hg2]
   exact P.same (fun c hc => ⟨by rw [kld], rfl, rfl⟩)
  ·show k2.s.rs.getD i 0 = _
   rw [C1.sm.rs, t8 i hi, ks, hk]
  ·have h1 := (rel c hc hf).2 0 (by omega) (pf_bd _).1
   rw [Int.add_zero, Int.add_zero, t9 c (by rw [e3]; exact hc), kld] at h1
   exact h1
  ·have h1 := (rel c hc hf).2 (1 + i) (by omega) (by rw [kld]; omega)
   rw [<- Int.add_assoc, <- Int.add_assoc, t10 c (by rw [e3]; exact hc) hf i i0 (by rw [kld]; exact i1), <- hk] at h1
   exact h1
 ·rw [e6]
  show (k2.s.g : Int) = m - a.N
  omega
 ·show SlI k5 _ j.f m0 (k5.G.take 0) (k5.G.drop 0) (k5, 0)
  rw [List.take_zero, List.drop_zero, hG5]
  exact I0
end
end Go.Proofs.YtalgochmjddodaaGreat

namespace Go.Proofs.YtalgochmjddodaaGreat
open W
section
variable {T : List Int} {kd : Int -> Int} {sh : Int -> List Int}
def Vin (T l : List Int) (x : Int) : Prop := dk x = 3 -> dn x ∈ T -> dn x ∈ l
theorem Vin.mono {l l' : List Int} {x : Int} (h : Vin T l x) (hs : ∀ a ∈ l, a ∈ l') : Vin T l' x := fun h1 h2 => hs _ (h h1 h2)
structure Clo (T : List Int) (sh : Int -> List Int) (s s' : Vst) : Prop where
  sub : ∀ a ∈ s.1, a ∈ s'.1
  new : ∀ a ∈ s'.1, a ∉ s.1 -> ∀ x ∈ sh a, Vin T s'.1 x
theorem Clo.refl (s : Vst) : Clo T sh s s := ⟨fun _ h => h, fun _ h1 h2 => absurd h1 h2⟩
theorem Clo.trans {s s' s'' : Vst} (h : Clo T sh s s') (k : Clo T sh s' s'') : Clo T sh s s'' :=
 ⟨fun a ha => k.sub a (h.sub a ha), fun a h1 h2 x hx => by
  by_cases c : a ∈ s'.1
  ·exact (h.new a c h2 x hx).mono k.sub
  ·exact k.new a h1 c x hx⟩
def Cmet (T : List Int) (sh : Int -> List Int) (n : Nat) (M : Vst -> Int -> Vst) : Prop :=
 ∀ s a, VOk T s -> a ∈ T -> a ∉ s.1 -> T.length <= s.1.length + n -> Clo T sh s (M s a) /\ a ∈ (M s a).1
theorem vst_clo {n : Nat} {M : Vst -> Int -> Vst} (hM : Cmet T sh n M) {s : Vst} (h : VOk T s) (hn : T.length <= s.1.length + n) (x : Int) : Clo T sh s (vst M T s x).2 /\ Vin T (vst M T s x).2.1 x := by
 unfold vst
 by_cases h3 : dk x = 3
 ·rw [if_pos h3]
  by_cases hT : T.contains (dn x) = true
  ·rw [if_pos hT]
   by_cases hs : s.1.contains (dn x) = true
   ·rw [if_pos hs]
    exact ⟨Clo.refl _, fun _ _ => List.contains_iff_mem.1 hs⟩
   ·rw [if_neg hs]
    obtain ⟨h1, h2⟩ := hM s (dn x) h (List.contains_iff_mem.1 hT) (fun c => hs (List.contains_iff_mem.2 c)) hn
    exact ⟨h1, fun _ _ => h2⟩
  ·rw [if_neg hT]
   exact ⟨Clo.refl _, fun _ d => absurd (List.contains_iff_mem.2 d) hT⟩
 ·rw [if_neg h3]
  exact ⟨Clo.refl _, fun d => absurd d h3⟩
theorem vls_clo {n : Nat} {M : Vst -> Int -> Vst} (hV : Vmet T kd sh n M) (hM : Cmet T sh n M) {s : Vst} (h : VOk T s) (hn : T.length <= s.1.length + n) (l : List Int) : Clo T sh s (vls M T s l).2 /\ ∀ x ∈ l, Vin T (vls M T s l).2.1 x := by
 have key : ∀ k, k <= l.length -> Clo T sh s (vls M T s (l.take k)).2 /\ ∀ x ∈ l.take k, Vin T (vls M T s (l.take k)).2.1 x := by
  intro k
  induction k with
  | zero => intro _; exact ⟨Clo.refl _, fun x hx => by simp at hx⟩
  | succ k ih =>
   intro hk
   obtain ⟨i1, i2⟩ := ih (by omega)
   have g := vls_go hV h hn (l.take k)
   have hl := g.le
   obtain ⟨j1, j2⟩ := vst_clo hM g.ok (by omega) l[k]
   rw [List.take_succ_eq_append_getElem (by omega), vls_snoc]
   refine ⟨i1.trans j1, fun x hx => ?_⟩
   rcases List.mem_append.1 hx with hx | hx
   ·exact (i2 x hx).mono j1.sub
   ·rw [List.mem_singleton] at hx
    rw [hx]
    exact j2
 have := key l.length (Nat.le_refl _)
 rwa [List.take_length] at this
theorem met_clo : ∀ n, Cmet T sh n (met T kd sh n)
 | 0 => fun s a h ha hn hl => by
  have := h.lt ha hn
  omega
 | n + 1 => fun s a h ha hna hn => by
  have h1 := h.more ha hna (kd a, [])
  obtain ⟨j1, j2⟩ := vls_clo (met_go n) (met_clo n) h1 (by simp; omega) (sh a)
  have hm : a ∈ (vls (met T kd sh n) T (s.1 ++ [a], s.2 ++ [(kd a, [])]) (sh a)).2.1 := j1.sub a (by simp)
  refine ⟨⟨fun b hb => j1.sub b (by simp [hb]), fun b h2 h3 x hx => ?_⟩, hm⟩
  by_cases e : b = a
  ·rw [e] at hx
   exact j2 x hx
  ·exact j1.new b h2 (fun c => by
    rcases List.mem_append.1 c with c | c
    ·exact h3 c
    ·exact e (List.mem_singleton.1 c)) x hx
theorem walk_clo {n : Nat} (hn : T.length <= n) (l : List Int) : (∀ x ∈ l, Vin T (vls (met T kd sh n) T ([], []) l).2.1 x) /\ ∀ a ∈ (vls (met T kd sh n) T ([], []) l).2.1, ∀ x ∈ sh a, Vin T (vls (met T kd sh n) T ([], []) l).2.1 x := by
 obtain ⟨h1, h2⟩ := vls_clo (kd := kd) (met_go n) (met_clo n) (VOk.start T) (by simpa using hn) l
 exact ⟨h2, fun a ha x hx => h1.new a ha (by simp) x hx⟩
def Smet (C : Int -> Prop) (M : Vst -> Int -> Vst) : Prop := ∀ s a, (∀ b ∈ s.1, C b) -> C a -> ∀ b ∈ (M s a).1, C b
theorem vst_least {C : Int -> Prop} {M : Vst -> Int -> Vst} (hM : Smet C M) {s : Vst} (h : ∀ b ∈ s.1, C b) {x : Int} (hx : dk x = 3 -> dn x ∈ T -> C (dn x)) : ∀ b ∈ (vst M T s x).2.1, C b := by
 unfold vst
 by_cases h3 : dk x = 3
 ·rw [if_pos h3]
  by_cases hT : T.contains (dn x) = true
  ·rw [if_pos hT]
   by_cases hs : s.1.contains (dn x) = true
   ·rw [if_pos hs]
    exact h
   ·rw [if_neg hs]
    exact hM s (dn x) h (hx h3 (List.contains_iff_mem.1 hT))
  ·rw [if_neg hT]
   exact h
 ·rw [if_neg h3]
  exact h
theorem vls_least {C : Int -> Prop} {M : Vst -> Int -> Vst} (hM : Smet C M) {s : Vst} (h : ∀ b ∈ s.1, C b) {l : List Int} (hl : ∀ x ∈ l, dk x = 3 -> dn x ∈ T -> C (dn x)) : ∀ b ∈ (vls M T s l).2.1, C b := by
 have key : ∀ k, k <= l.length -> ∀ b ∈ (vls M T s (l.take k)).2.1, C b := by
  intro k
  induction k with
  | zero => intro _; exact h
  | succ k ih =>
   intro hk
   rw [List.take_succ_eq_append_getElem (by omega), vls_snoc]
   exact vst_least hM (ih (by omega)) (hl _ (List.getElem_mem _))
 have := key l.length (Nat.le_refl _)
 rwa [List.take_length] at this
theorem met_least {C : Int -> Prop} (hC : ∀ a, C a -> ∀ x ∈ sh a, dk x = 3 -> dn x ∈ T -> C (dn x)) : ∀ n, Smet C (met T kd sh n)
 | 0 => fun s a h _ b hb => h b hb
 | n + 1 => fun s a h ha b hb => by
  refine vls_least (met_least hC n) (s := (s.1 ++ [a], s.2 ++ [(kd a, [])])) (fun c hc => ?_) (l := sh a) (fun x hx => hC a ha x hx) b hb
  rcases List.mem_append.1 hc with hc | hc
  ·exact h c hc
  ·rw [List.mem_singleton.1 hc]
   exact ha
theorem walk_least {C : Int -> Prop} (hC : ∀ a, C a -> ∀ x ∈ sh a, dk x = 3 -> dn x ∈ T -> C (dn x)) {n : Nat} {l : List Int} (hl : ∀ x ∈ l, dk x = 3 -> dn x ∈ T -> C (dn x)) : ∀ b ∈ (vls (met T kd sh n) T ([], []) l).2.1, C b :=
 vls_least (met_least hC n) (fun b hb => by cases hb) hl
end
end Go.Proofs.YtalgochmjddodaaGreat
