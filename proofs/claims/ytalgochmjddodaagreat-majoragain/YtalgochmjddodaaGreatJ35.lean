/- Joined: Mk7, Mk8, Ws15, Ws20, Ms3, Mx1, Ws16, Ws17, Mx2. -/
import Derived.Test.YtalgochmjddodaaGreatJ34
import Derived.Test.YtalgochmjddodaaGreatJ30
import Derived.Test.YtalgochmjddodaaGreatJ24
import Derived.Test.YtalgochmjddodaaGreatJ31
namespace Go.Proofs.YtalgochmjddodaaGreat
open Go.RowKit W Kp Stl
theorem view_sum {N O y g : Nat} {ws Y G : List Int} (h : Full2 N y g ws Y G) (hN : N <= 256) (hy : y <= N) (hO : O <= 1024) (hg : g <= O) (Q : List En) (rs : List Int) : szV (vwL N y g ws Q rs).2.2 = sumF (szL (ld N y g ws)) (vwL N y g ws Q rs).2.1 /\ (vwL N y g ws Q rs).2.1.Nodup /\ ∀ a ∈ (vwL N y g ws Q rs).2.1, a ∈ Y ++ G := by
 have hv := vwL_go N y g ws Q rs
 obtain ⟨e1, e2⟩ := h.lists (O := O) hN hy hO hg
 generalize vwL N y g ws Q rs = r at hv ⊢
 obtain ⟨vs, ms, ns⟩ := r
 rw [e1, e2] at hv
 have hok := hv.ok
 have hl : ns.length = ms.length := hok.len
 have hnd : ms.Nodup := hok.nd
 have hsub : ∀ a ∈ ms, a ∈ Y ++ G := hok.sub
 refine ⟨szV_of (kd := fun a => pk (ld N y g ws a)) ns ms hl (fun i hi => ?_), hnd, hsub⟩
 obtain ⟨nd, q1, q2, q3, _⟩ := hv.nw i (Nat.zero_le _) hi
 have q0 : ns.getD i (0, []) = nd := by
  rw [List.getD_eq_getElem?_getD]
  have q1 : ns[i]? = some nd := q1
  rw [q1]
  rfl
 rw [q0]
 dsimp only at q2 q3
 have hm : ms.getD i 0 ∈ ms := by
  rw [List.getD_eq_getElem?_getD, List.getElem?_eq_getElem hi]
  exact List.getElem_mem hi
 have hYG : ms.getD i 0 ∈ Y \/ ms.getD i 0 ∈ G := List.mem_append.1 (hsub _ hm)
 have hp0 : pc (ld N y g ws (ms.getD i 0)) = 0 := by
  rcases hYG with d | d
  ·exact (h.ty.mem _ d).2.2
  ·exact (h.to.mem _ d).2.2
 unfold szL
 by_cases h5 : nd.1 = 5
 ·rw [if_pos h5]
  rw [q2] at h5
  have := pk_all hp0
  omega
 ·rw [if_neg h5, q3]
  rw [q2] at h5
  have := shL_n h hy Q hYG h5
  omega
theorem shL_get {N y g : Nat} {ws Y G : List Int} (h : Full2 N y g ws Y G) (hy : y <= N) (Q : List En) {c : Int} (hc : c ∈ Y \/ c ∈ G) (h5 : pk (ld N y g ws c) ≠ 5) : (∀ i : Nat, i < (shL N y g ws Q c).length -> (shL N y g ws Q c).getD i 0 = ld N y g ws (c + 1 + (i : Int))) /\ (∀ i : Nat, (i : Int) < pf (ld N y g ws c) -> ld N y g ws (c + 1 + (i : Int)) ∈ shL N y g ws Q c) := by
 have hl := shL_n h hy Q hc h5
 have key : ∀ i : Nat, i < (shL N y g ws Q c).length -> (shL N y g ws Q c).getD i 0 = ld N y g ws (c + 1 + (i : Int)) := fun i hi => by
  unfold shL at hi ⊢
  rw [if_neg h5] at hi ⊢
  rw [List.getD_eq_getElem?_getD, List.getElem?_eq_getElem hi]
  simp
 refine ⟨key, fun i hi => ?_⟩
 have hi2 : i < (shL N y g ws Q c).length := by omega
 rw [<- key i hi2, List.getD_eq_getElem?_getD, List.getElem?_eq_getElem hi2]
 exact List.getElem_mem hi2
section
variable {a : Wc} {s : Wst} {Y G : List Int}
theorem k12_of (h : KInv a s Y G) (hk : K12 a s Y G) (hb : Wbd a s) : (s.j0 a).k12 := fun c hc => by
 obtain ⟨_, _, e3⟩ := j0_lists h.inv.full hb
 rw [e3] at hc
 exact hk c ((List.mem_append.1 hc).symm)
theorem jt_of (h : KInv a s Y G) (hb : Wbd a s) {x : Int} : (s.j0 a).jt x = true ↔ dk x = 3 /\ dn x ∈ Y ++ G := by
 obtain ⟨_, _, e3⟩ := j0_lists h.inv.full hb
 unfold Jk.jt
 rw [e3, Bool.and_eq_true]
 constructor
 ·rintro ⟨h1, h2⟩
  have h2 := List.contains_iff_mem.1 h2
  rw [aV_yes x h1] at h2
  exact ⟨aB_dk h1, List.mem_append.2 ((List.mem_append.1 h2).symm)⟩
 ·rintro ⟨h1, h2⟩
  have ha := dk_aB h1
  refine ⟨ha, List.contains_iff_mem.2 ?_⟩
  rw [aV_yes x ha]
  exact List.mem_append.2 ((List.mem_append.1 h2).symm)
theorem jt_aV {x : Int} (hx : (s.j0 a).jt x = true) : aV x = dn x := by
 unfold Jk.jt at hx
 rw [Bool.and_eq_true] at hx
 exact aV_yes x hx.1
theorem marks_12 (h : KInv a s Y G) (hk : K12 a s Y G) (hb : Wbd a s) (Q : List En) : (s.j0 a).sp ((s.j0 a).kr js0 12, []) = ((s.j0 a).LM ((s.j0 a).kr js0 12), []) /\ Mkd (s.j0 a) (fun c => c ∈ (vwL a.N s.y s.g s.ws Q s.rs).2.1) ((s.j0 a).LM ((s.j0 a).kr js0 12)) /\
  ∀ c ∈ (vwL a.N s.y s.g s.ws Q s.rs).2.1, ((s.j0 a).LM ((s.j0 a).kr js0 12)).f c ≠ -1 := by
 obtain ⟨l1, l2, l3⟩ := j0_lists h.inv.full hb
 obtain ⟨e1, e2⟩ := h.inv.full.lists (O := a.O) hb.n1 hb.y1 hb.o1 hb.g1
 have hm5 : ∀ c, c ∈ Y \/ c ∈ G -> pk (ld a.N s.y s.g s.ws c) ≠ 5 := fun c hc => by have := hk c hc; omega
 have hT : ∀ c, c ∈ (s.j0 a).T -> c ∈ Y \/ c ∈ G := fun c hc => by
  rw [l3] at hc
  exact (List.mem_append.1 hc).symm
 obtain ⟨w1, w2⟩ := walk_clo (T := Y ++ G) (kd := fun a_1 => pk (ld a.N s.y s.g s.ws a_1)) (sh := shL a.N s.y s.g s.ws Q) (n := (Y ++ G).length) (Nat.le_refl _) s.rs
 have ev : vwL a.N s.y s.g s.ws Q s.rs = vls (met (Y ++ G) (fun a_1 => pk (ld a.N s.y s.g s.ws a_1)) (shL a.N s.y s.g s.ws Q) (Y ++ G).length) (Y ++ G) ([], []) s.rs := by
  unfold vwL
  rw [e1, e2]
 rw [<- ev] at w1 w2
 have hgd : ∀ i, i < 12 -> s.rs.getD i 0 ∈ s.rs := fun i hi => by
  rw [List.getD_eq_getElem?_getD, List.getElem?_eq_getElem (by rw [hb.r1]; exact hi)]
  exact List.getElem_mem _
 have hC : Jcl (s.j0 a) (fun c => c ∈ (vwL a.N s.y s.g s.ws Q s.rs).2.1) := by
  refine ⟨fun i hi hj => ?_, fun c hc hC i hi hj => ?_⟩
  ·rw [jt_aV hj]
   obtain ⟨q1, q2⟩ := (jt_of h hb).1 hj
   exact w1 _ (hgd i hi) q1 q2
  ·rw [jt_aV hj]
   obtain ⟨q1, q2⟩ := (jt_of h hb).1 hj
   exact w2 c hC _ ((shL_get h.inv.full hb.y1 Q (hT c hc) (hm5 c (hT c hc))).2 i hi) q1 q2
 obtain ⟨m1, m2⟩ := Mk.done (JI.start hb.n1 hb.o1 hb.y1 hb.g1) (k12_of h hk hb) hC
 refine ⟨m1, m2, ?_⟩
 have key := walk_least (T := Y ++ G) (kd := fun a_1 => pk (ld a.N s.y s.g s.ws a_1)) (sh := shL a.N s.y s.g s.ws Q) (n := (Y ++ G).length) (l := s.rs) (C := fun c => (c ∈ Y \/ c ∈ G) /\ ((s.j0 a).LM ((s.j0 a).kr js0 12)).f c ≠ -1) (fun c hc x hx q1 q2 => ?_) (fun x hx q1 q2 => ?_)
 ·rw [<- ev] at key
  exact fun c hc => (key c hc).2
 ·have hj := (jt_of h hb).2 ⟨q1, q2⟩
  obtain ⟨i, hi, e⟩ := List.mem_iff_getElem.1 hx
  have hl := shL_n h.inv.full hb.y1 Q hc.1 (hm5 c hc.1)
  have e2 : x = ld a.N s.y s.g s.ws (c + 1 + (i : Int)) := by
   rw [<- (shL_get h.inv.full hb.y1 Q hc.1 (hm5 c hc.1)).1 i hi, List.getD_eq_getElem?_getD, List.getElem?_eq_getElem hi, e]
   rfl
  have hf := m2.flt c (by rw [l3]; exact List.mem_append.2 hc.1.symm) hc.2 i (by show (i : Int) < pf (ld a.N s.y s.g s.ws c); omega)
  have hf : (s.j0 a).jl ((s.j0 a).LM ((s.j0 a).kr js0 12)) (ld a.N s.y s.g s.ws (c + 1 + (i : Int))) = false := hf
  rw [<- e2, Jk.jl_no hj, jt_aV hj] at hf
  exact ⟨List.mem_append.1 q2, hf⟩
 ·have hj := (jt_of h hb).2 ⟨q1, q2⟩
  obtain ⟨i, hi, e⟩ := List.mem_iff_getElem.1 hx
  have e2 : x = s.rs.getD i 0 := by
   rw [List.getD_eq_getElem?_getD, List.getElem?_eq_getElem hi, e]
   rfl
  have hf := m2.rt i (by rw [<- hb.r1]; exact hi)
  have hf : (s.j0 a).jl ((s.j0 a).LM ((s.j0 a).kr js0 12)) (s.rs.getD i 0) = false := hf
  rw [<- e2, Jk.jl_no hj, jt_aV hj] at hf
  exact ⟨List.mem_append.1 q2, hf⟩
theorem nw_moved {k : Jk} {j : Js} {x : Int} (hx : aB x = true -> aV x ∈ k.T /\ j.f (aV x) ≠ -1) (hf : ∀ c ∈ k.T, j.f c ≠ -1 -> 0 <= j.f c /\ j.f c < 1000000) : Wmv (fun c => c ∈ k.T /\ j.f c ≠ -1) j.f x (k.nw j x) /\ (aB (k.nw j x) = true -> ∃ c ∈ k.T, j.f c ≠ -1 /\ aV (k.nw j x) = j.f c) := by
 cases ha : aB x
 ·have e : k.nw j x = x := by
   unfold Jk.nw Jk.jt
   rw [ha]
   rfl
  rw [e]
  refine ⟨Or.inr ⟨fun h3 => ?_, rfl, rfl⟩, fun h3 => ?_⟩
  ·rw [dk_aB h3] at ha
   cases ha
  ·rw [ha] at h3
   cases h3
 ·obtain ⟨h1, h2⟩ := hx ha
  have e : k.nw j x = ew 3 (j.f (aV x)) := by
   unfold Jk.nw Jk.jt
   rw [ha, List.contains_iff_mem.2 h1, beq_false_of_ne h2]
   rfl
  obtain ⟨b0, b1⟩ := hf _ h1 h2
  obtain ⟨n, hn⟩ : ∃ n : Nat, j.f (aV x) = n := ⟨(j.f (aV x)).toNat, by omega⟩
  obtain ⟨w1, w2⟩ := ew_at n (by omega)
  rw [<- hn, <- e] at w1 w2
  refine ⟨Or.inl ⟨aB_dk ha, aB_dk w1, ⟨by rw [<- aV_yes x ha]; exact h1, by rw [<- aV_yes x ha]; exact h2⟩, ?_⟩, fun _ => ⟨aV x, h1, h2, w2⟩⟩
  rw [<- aV_yes x ha, <- aV_yes _ w1]
  exact w2
end
end Go.Proofs.YtalgochmjddodaaGreat

namespace Go.Proofs.YtalgochmjddodaaGreat
open Go.RowKit W Kp Stl
def Js.lf (j : Js) (T : List Int) : List Int := (T.filter (fun c => !(j.f c == -1))).map j.f
section
variable {a : Wc} {s s' : Wst} {Y G : List Int} {j : Js}
structure Gal (a : Wc) (s : Wst) (T : List Int) (j : Js) : Prop where
  rt : ∀ i, i < 12 -> aB (s.rs.getD i 0) = true -> aV (s.rs.getD i 0) ∈ T /\ j.f (aV (s.rs.getD i 0)) ≠ -1
  fd : ∀ c ∈ T, j.f c ≠ -1 -> ∀ i, 0 <= i -> i < pf (ld a.N s.y s.g s.ws c) -> aB (ld a.N s.y s.g s.ws (c + 1 + i)) = true -> aV (ld a.N s.y s.g s.ws (c + 1 + i)) ∈ T /\ j.f (aV (ld a.N s.y s.g s.ws (c + 1 + i))) ≠ -1
theorem bkf_12 {k : Jk} {c : Int} (h : pk (k.ld c) = 1 \/ pk (k.ld c) = 2) (i : Int) : k.bkf j c i = k.ld (c + 1 + i) := by
 unfold Jk.bkf
 rw [if_neg (fun q => by omega)]
theorem Gc.bd (g : Gc a s (G ++ Y) j s') : ∀ c ∈ G ++ Y, j.f c ≠ -1 -> (a.N : Int) <= j.f c /\ j.f c + (1 + pf (ld a.N s.y s.g s.ws c)) <= a.N + s'.g := fun c hc hf => g.pos.bd (fun c => (pf_bd _).1) c hc (by rw [beq_false_of_ne hf]; rfl)
theorem lf_mem {T : List Int} {x : Int} : x ∈ j.lf T ↔ ∃ c ∈ T, j.f c ≠ -1 /\ j.f c = x := by
 unfold Js.lf
 rw [List.mem_map]
 constructor
 ·rintro ⟨c, h1, h2⟩
  obtain ⟨h3, h4⟩ := List.mem_filter.1 h1
  exact ⟨c, h3, by simpa using h4, h2⟩
 ·rintro ⟨c, h1, h2, h3⟩
  exact ⟨c, List.mem_filter.2 ⟨h1, by rw [beq_false_of_ne h2]; rfl⟩, h3⟩
theorem Gc.full (g : Gc a s (G ++ Y) j s') (h : Full2 a.N s.y s.g s.ws Y G) : Full2 a.N 0 s'.g s'.ws [] (j.lf (G ++ Y)) := by
 refine ⟨rfl, g.pos.tile (fun c => (pf_bd _).1) (fun c hc hal => ?_)⟩
 have hf : j.f c ≠ -1 := by simpa using hal
 rw [g.hd c hc hf]
 refine ⟨?_, rfl⟩
 rcases List.mem_append.1 hc with d | d
 ·exact (h.to.mem c d).2.2
 ·exact (h.ty.mem c d).2.2
theorem Gc.done (g : Gc a s (G ++ Y) j s') (h : KInv a s Y G) (hk : K12 a s Y G) (hb : Wbd a s) (al : Gal a s (G ++ Y) j) : KInv a s' [] (j.lf (G ++ Y)) /\ K12 a s' [] (j.lf (G ++ Y)) /\ Wbd a s' /\
  ∀ Q Q' : List En, (vwL a.N s'.y s'.g s'.ws Q' s'.rs).1 = (vwL a.N s.y s.g s.ws Q s.rs).1 /\ (vwL a.N s'.y s'.g s'.ws Q' s'.rs).2.2 = (vwL a.N s.y s.g s.ws Q s.rs).2.2 := by
 obtain ⟨_, _, e3⟩ := j0_lists h.inv.full hb
 have hF := g.full h.inv.full
 have hbd := g.bd
 have hN := hb.n1
 have hO := hb.o1
 have hgo := g.g
 have hsm : ∀ c ∈ (s.j0 a).T, j.f c ≠ -1 -> 0 <= j.f c /\ j.f c < 1000000 := fun c hc hf => by
  rw [e3] at hc
  have := hbd c hc hf
  have := pf_bd (ld a.N s.y s.g s.ws c)
  omega
 have hx12 : ∀ c, c ∈ G ++ Y -> pk (ld a.N s.y s.g s.ws c) = 1 \/ pk (ld a.N s.y s.g s.ws c) = 2 := fun c hc => hk c (List.mem_append.1 hc).symm
 have hrt : ∀ i, i < 12 -> Wmv (fun c => c ∈ (s.j0 a).T /\ j.f c ≠ -1) j.f (s.rs.getD i 0) (s'.rs.getD i 0) /\ (aB (s'.rs.getD i 0) = true -> aV (s'.rs.getD i 0) ∈ j.lf (G ++ Y)) := fun i hi => by
  rw [g.rs i hi]
  obtain ⟨q1, q2⟩ := nw_moved (k := s.j0 a) (j := j) (x := s.rs.getD i 0) (fun ha => by rw [e3]; exact al.rt i hi ha) hsm
  refine ⟨q1, fun ha => ?_⟩
  obtain ⟨c, c1, c2, c3⟩ := q2 ha
  rw [e3] at c1
  exact lf_mem.2 ⟨c, c1, c2, c3.symm⟩
 have hfd : ∀ c ∈ G ++ Y, j.f c ≠ -1 -> ∀ i, 0 <= i -> i < pf (ld a.N s.y s.g s.ws c) -> Wmv (fun c => c ∈ (s.j0 a).T /\ j.f c ≠ -1) j.f (ld a.N s.y s.g s.ws (c + 1 + i)) (ld a.N 0 s'.g s'.ws (j.f c + 1 + i)) /\ (aB (ld a.N 0 s'.g s'.ws (j.f c + 1 + i)) = true -> aV (ld a.N 0 s'.g s'.ws (j.f c + 1 + i)) ∈ j.lf (G ++ Y)) := fun c hc hf i i0 i1 => by
  have e0 : (s.j0 a).bkf j c i = ld a.N s.y s.g s.ws (c + 1 + i) := bkf_12 (k := s.j0 a) (hx12 c hc) i
  rw [g.fd c hc hf i i0 i1, e0]
  obtain ⟨q1, q2⟩ := nw_moved (k := s.j0 a) (j := j) (x := ld a.N s.y s.g s.ws (c + 1 + i)) (fun ha => by rw [e3]; exact al.fd c hc hf i i0 i1 ha) hsm
  refine ⟨q1, fun ha => ?_⟩
  obtain ⟨d, c1, c2, c3⟩ := q2 ha
  rw [e3] at c1
  exact lf_mem.2 ⟨d, c1, c2, c3.symm⟩
 have hb' : Wbd a s' := ⟨hb.n0, hb.n1, hb.o1, by rw [g.y]; exact Nat.zero_le _, g.g, g.l, g.rl⟩
 have hW : WInv a.N 0 s'.g s'.ws [] (j.lf (G ++ Y)) s'.rs := by
  refine ⟨hF, fun x hx ha => ?_, fun v hv i i0 i1 ha => ?_⟩
  ·obtain ⟨i, hi, e⟩ := List.mem_iff_getElem.1 hx
   have e2 : s'.rs.getD i 0 = x := by
    rw [List.getD_eq_getElem?_getD, List.getElem?_eq_getElem hi, e]
    rfl
   have q := (hrt i (by rw [<- g.rl]; exact hi)).2
   rw [e2] at q
   exact Or.inr (q ha)
  ·rcases hv with hv | hv
   ·cases hv
   ·obtain ⟨c, c1, c2, c3⟩ := lf_mem.1 hv
    rw [<- c3] at i1 ha ⊢
    rw [g.hd c c1 c2] at i1
    exact Or.inr ((hfd c c1 c2 i i0 i1).2 ha)
 have hK' : K12 a s' [] (j.lf (G ++ Y)) := fun v hv => by
  rcases hv with hv | hv
  ·cases hv
  ·obtain ⟨c, c1, c2, c3⟩ := lf_mem.1 hv
   rw [<- c3, g.y, g.hd c c1 c2]
   exact hx12 c c1
 refine ⟨⟨by rw [g.y]; exact hW, fun v _ i _ _ _ hy => by cases hy⟩, hK', hb', fun Q Q' => ?_⟩
 obtain ⟨e1, e2⟩ := h.inv.full.lists (O := a.O) hb.n1 hb.y1 hb.o1 hb.g1
 obtain ⟨e5, e4⟩ := hF.lists (O := a.O) hb.n1 (Nat.zero_le _) hb.o1 g.g
 have B : Bi (fun c => c ∈ (s.j0 a).T /\ j.f c ≠ -1) j.f (Y ++ G) (fun v => pk (ld a.N s.y s.g s.ws v)) (shL a.N s.y s.g s.ws Q) (j.lf (G ++ Y)) (fun v => pk (ld a.N 0 s'.g s'.ws v)) (shL a.N 0 s'.g s'.ws Q') := by
  have hT : ∀ c, c ∈ (s.j0 a).T -> c ∈ G ++ Y := fun c hc => by rw [e3] at hc; exact hc
  refine ⟨fun c hc => List.mem_append.2 (List.mem_append.1 (hT c hc.1)).symm, fun c hc => lf_mem.2 ⟨c, hT c hc.1, hc.2, rfl⟩, fun c d hc hd e => ?_, fun c hc => ?_, fun c hc => ?_⟩
  ·exact g.pos.inj (fun c => (pf_bd _).1) c (hT c hc.1) d (hT d hd.1) (by rw [beq_false_of_ne hc.2]; rfl) (by rw [beq_false_of_ne hd.2]; rfl) e
  ·show pk (ld a.N 0 s'.g s'.ws (j.f c)) = _
   rw [g.hd c (hT c hc.1) hc.2]
  ·have hm := hT c hc.1
   have k1 := hx12 c hm
   have n5 : pk (ld a.N s.y s.g s.ws c) ≠ 5 := by omega
   have hd2 := g.hd c hm hc.2
   have n5' : pk (ld a.N 0 s'.g s'.ws (j.f c)) ≠ 5 := by rw [hd2]; exact n5
   have hv : c ∈ Y \/ c ∈ G := (List.mem_append.1 hm).symm
   have hv' : j.f c ∈ ([] : List Int) \/ j.f c ∈ j.lf (G ++ Y) := Or.inr (lf_mem.2 ⟨c, hm, hc.2, rfl⟩)
   have l1 := shL_n h.inv.full hb.y1 Q hv n5
   have l2 := shL_n hF (Nat.zero_le _) Q' hv' n5'
   rw [hd2] at l2
   refine Wls.of (by omega) (fun i hi => ?_)
   rw [(shL_get h.inv.full hb.y1 Q hv n5).1 i hi, (shL_get hF (Nat.zero_le _) Q' hv' n5').1 i (by omega)]
   exact (hfd c hm hc.2 i (by omega) (by omega)).1
 have hl : Wls (Wmv (fun c => c ∈ (s.j0 a).T /\ j.f c ≠ -1) j.f) s.rs s'.rs := Wls.of (by rw [hb.r1, g.rl]) (fun i hi => (hrt i (by rw [<- hb.r1]; exact hi)).1)
 unfold vwL
 rw [g.y, e1, e2, e5, e4, List.nil_append]
 obtain ⟨b1, b2, _⟩ := walk_bi B hl (n := (Y ++ G).length) (n' := (j.lf (G ++ Y)).length) (Nat.le_refl _) (Nat.le_refl _)
 exact ⟨b1.symm, b2⟩
end
section
variable {a : Wc} {S : Ww} {Y G : List Int}
theorem great_12 (h : KInv a S.s Y G) (hk : K12 a S.s Y G) (hb : Wbd a S.s) (hr : S.r = []) (hq : S.q = []) :
  S.n4 a = (szV (vwL a.N S.s.y S.s.g S.s.ws S.q S.s.rs).2.2 : Int) /\
  (S.jfull a = false -> (∃ F, SlG (S.k5 a) (S.j5 a) F /\ F 0 (S.k5 a, 0)) /\ (S.gcut a).r = [] /\ (S.gcut a).q = [] /\ ((S.gcut a).s.g : Int) = S.n4 a /\ ∃ j, Gc a S.s (G ++ Y) j (S.gcut a).s /\ Gal a S.s (G ++ Y) j /\ ∀ c ∈ G ++ Y, j.f c ≠ -1 ↔ c ∈ (vwL a.N S.s.y S.s.g S.s.ws S.q S.s.rs).2.1) := by
 obtain ⟨m1, m2, m3⟩ := marks_12 h hk hb S.q
 obtain ⟨_, _, l3⟩ := j0_lists h.inv.full hb
 obtain ⟨v1, v2, v3⟩ := view_sum (O := a.O) h.inv.full hb.n1 hb.y1 hb.o1 hb.g1 S.q S.s.rs
 obtain ⟨s3, hs3⟩ : ∃ s3, (S.s.j0 a).LM ((S.s.j0 a).kr js0 12) = s3 := ⟨_, rfl⟩
 rw [hs3] at m1 m2 m3
 have e2 : S.j2 a = (s3, []) := by unfold Ww.j2; rw [hq]; exact m1
 have e3 : S.j3 a = s3 := by unfold Ww.j3; rw [e2, hr]; rfl
 have er : S.r3 a = [] := by unfold Ww.r3; rw [e2, hr]; rfl
 have eq : S.q3 a = [] := by unfold Ww.q3; rw [e2, hr]; rfl
 have e4 : S.j4 a = ((S.s.j0 a).pl s3).1 := by unfold Ww.j4; rw [e3]
 have en : S.n4 a = ((S.s.j0 a).pl s3).2 - a.N := by unfold Ww.n4; rw [e3]
 have e5 : S.j5 a = S.j4 a := by unfold Ww.j5; rw [er, eq]; rfl
 have enda : (S.s.j0 a).T.Nodup := m2.ji.nd
 have hal : ∀ c ∈ (S.s.j0 a).T, s3.f c ≠ -1 ↔ c ∈ (vwL a.N S.s.y S.s.g S.s.ws S.q S.s.rs).2.1 := fun c hc => ⟨m2.snd c hc, m3 c⟩
 refine ⟨?_, fun hf => ?_⟩
 ·obtain ⟨P0, _⟩ := pl_pos (S.s.j0 a) (fun c => !(s3.f c == -1)) (S.s.j0 a).T (s3, a.N) enda (fun c _ => rfl)
  have hs := P0.sum (fun c => (pf_bd _).1)
  have hs : (sumF (szL (ld a.N S.s.y S.s.g S.s.ws)) ((S.s.j0 a).T.filter (fun c => !(s3.f c == -1))) : Int) = ((S.s.j0 a).pl s3).2 - a.N := hs
  have q1 : sumF (szL (ld a.N S.s.y S.s.g S.s.ws)) ((S.s.j0 a).T.filter (fun c => !(s3.f c == -1))) <= sumF (szL (ld a.N S.s.y S.s.g S.s.ws)) (vwL a.N S.s.y S.s.g S.s.ws S.q S.s.rs).2.1 := sumF_sub (enda.filter _) v2 (fun c hc => by
   obtain ⟨c1, c2⟩ := List.mem_filter.1 hc
   exact (hal c c1).1 (by simpa using c2))
  have q2 : sumF (szL (ld a.N S.s.y S.s.g S.s.ws)) (vwL a.N S.s.y S.s.g S.s.ws S.q S.s.rs).2.1 <= sumF (szL (ld a.N S.s.y S.s.g S.s.ws)) ((S.s.j0 a).T.filter (fun c => !(s3.f c == -1))) := sumF_sub v2 (enda.filter _) (fun c hc => by
   refine List.mem_filter.2 ⟨?_, by rw [beq_false_of_ne (m3 c hc)]; rfl⟩
   rw [l3]
   exact List.mem_append.2 (List.mem_append.1 (v3 c hc)).symm)
  rw [en, v1]
  omega
 ·have hm : ((S.s.j0 a).pl s3).2 <= a.N + a.O := by
   unfold Ww.jfull at hf
   have := of_decide_eq_false hf
   omega
  obtain ⟨g1, g2, g3, g4⟩ := gc_done h.inv.full hb s3 hm
  rw [<- e4] at g1 g2 g3 g4
  have e6 : (S.s.j0 a).tlA (S.j4 a) = S.k5 a := rfl
  rw [e6] at g1 g2 g4
  have e7 : (S.k5 a).sl (S.j4 a) = S.k6 a := by unfold Ww.k6; rw [e5]
  rw [e7] at g1 g2
  have eS : S.gcut a = ⟨(S.k6 a).s, [], []⟩ := by
   unfold Ww.gcut
   rw [hf, if_neg (by simp), er, eq]
   rfl
  rw [eS, e5]
  refine ⟨g4, rfl, rfl, by rw [en]; exact g2, S.j4 a, g1, ⟨fun i hi ha => ?_, fun c hc hfc i i0 i1 ha => ?_⟩, fun c hc => ?_⟩
  ·have hgd : S.s.rs.getD i 0 ∈ S.s.rs := by
    rw [List.getD_eq_getElem?_getD, List.getElem?_eq_getElem (by rw [hb.r1]; exact hi)]
    exact List.getElem_mem _
   have hm1 : aV (S.s.rs.getD i 0) ∈ G ++ Y := List.mem_append.2 (h.inv.rt _ hgd ha).symm
   have hj : (S.s.j0 a).jt (S.s.rs.getD i 0) = true := by
    unfold Jk.jt
    rw [ha, l3, List.contains_iff_mem.2 hm1]
    rfl
   have hfl := m2.rt i hi
   have hfl : (S.s.j0 a).jl s3 (S.s.rs.getD i 0) = false := hfl
   rw [Jk.jl_no hj] at hfl
   exact ⟨hm1, fun e => hfl ((g3 _ hm1).1 e)⟩
  ·have hm1 : aV (ld a.N S.s.y S.s.g S.s.ws (c + 1 + i)) ∈ G ++ Y := List.mem_append.2 (h.inv.fd c (List.mem_append.1 hc).symm i i0 i1 ha).symm
   have hj : (S.s.j0 a).jt (ld a.N S.s.y S.s.g S.s.ws (c + 1 + i)) = true := by
    unfold Jk.jt
    rw [ha, l3, List.contains_iff_mem.2 hm1]
    rfl
   have hfl := m2.flt c (by rw [l3]; exact hc) (fun e => hfc ((g3 c hc).2 e)) i.toNat (by show (i.toNat : Int) < pf (ld a.N S.s.y S.s.g S.s.ws c); omega)
   rw [show ((i.toNat : Nat) : Int) = i from by omega] at hfl
   have hfl : (S.s.j0 a).jl s3 (ld a.N S.s.y S.s.g S.s.ws (c + 1 + i)) = false := hfl
   rw [Jk.jl_no hj] at hfl
   exact ⟨hm1, fun e => hfl ((g3 _ hm1).1 e)⟩
  ·rw [<- hal c (by rw [l3]; exact hc)]
   exact not_congr (g3 c hc)
end
end Go.Proofs.YtalgochmjddodaaGreat

namespace Go.Proofs.YtalgochmjddodaaGreat
open Go.RowKit W Kp Stl
section
variable {c : Bc} {F : Nat -> Prop} {S : Ww × Wrs} {w : World}
theorem cutB_any (h : (boO c).J F S w) (hq : S.1.q.length + S.1.r.length <= 90000) :
  Calls Tryz.prog 16 #[.pointer (some ⟨c.a.pw, 0, none⟩)] w fun e w' => ∃ F', e = .returned (.int .i64 (S.1.code c.a)) /\ (boO c).J F' (S.1.cut c.a, S.2) w' /\ Tn F w F' w' := by
 obtain ⟨FW, h1, _, h2⟩ := bo_w h
 refine (cutM_any h1 hq).mono ?_
 rintro e w' ⟨F1, rfl, j1, t1⟩
 obtain ⟨F2, m1, m2⟩ := h2 _ _ _ j1 t1
 exact ⟨F2, rfl, m1, m2⟩
theorem usedB_any (h : (boO c).J F S w) : Calls Tryz.prog 24 #[.pointer (some ⟨c.a.p, 0, none⟩)] w fun e w' => e = .returned (.tuple #[.int .i64 S.1.s.y, .int .i64 S.1.s.g]) /\ Below w.heap.size w w' := by
 obtain ⟨FW, h1, _⟩ := bo_w h
 obtain ⟨F0, g1, _⟩ := ws_wod h1
 exact used_any w (wod_arena g1).1
theorem viewB_any (h : (boO c).J F S w) (hq : S.1.q.length <= 90000) :
  Calls Tryz.prog 23 #[.pointer (some ⟨c.a.pw, 0, none⟩)] w fun e w' => ∃ r2 d2 na nn nc, e = .returned (.agg #[.slice r2 12 d2, .slice na nn nc]) /\ Lp w' r2 (vwL c.a.N S.1.s.y S.1.s.g S.1.s.ws S.1.q S.1.s.rs).1 /\ Ln w' na (vwL c.a.N S.1.s.y S.1.s.g S.1.s.ws S.1.q S.1.s.rs).2.2 /\ nn = (vwL c.a.N S.1.s.y S.1.s.g S.1.s.ws S.1.q S.1.s.rs).2.2.length /\ Below w.heap.size w w' := by
 obtain ⟨FW, h1, _⟩ := bo_w h
 obtain ⟨F0, g1, _⟩ := ws_wod h1
 obtain ⟨c0, _, c2, c3, _, rl, _, cr9⟩ := wod_cells g1
 have ha := (wod_arena g1).1
 obtain ⟨F0', ar, cr, ⟨F00, ad, cap, ⟨own, pq, hM, hO⟩, d2, d3, d4, _⟩, r0, r1, hFW⟩ := h1
 have hl : Lq w (some ⟨c.a.nb, 0, none⟩) S.1.s.rs := by
  have hr := hM.rt
  refine ⟨fun _ => ⟨c.a.nb, 0, rfl, lt_of_some hr, fun i hi => ?_⟩, fun _ => ⟨c.a.nb, 0, _, rfl, hr⟩⟩
  rw [Nat.zero_add]
  exact (cr9 i (by rw [<- rl]; exact hi)).1
 have P := view_any (l := S.1.s.rs) (ra := some ⟨c.a.nb, 0, none⟩) (rc := 12) ⟨c0, c2, ha, d2, row_pairs d3, hq⟩ (by rw [rl]; exact c3) hl (by rw [rl]; decide)
 rw [rl] at P
 exact P
end
end Go.Proofs.YtalgochmjddodaaGreat

namespace Go.Proofs.YtalgochmjddodaaGreat
open Go.RowKit W Kp Stl
structure Bok (c : Bc) (S : Ww × Wrs) (j : Nat) : Prop where
  kv : ∃ Y G, KInv c.a S.1.s Y G
  wok : Wok S.2
  m : S.1.s.M.length <= j
  rq : S.1.r.length + S.1.q.length <= j
  t : S.2.T.length <= j
  rg : S.2.rg.length <= j
  wt : S.2.wt = []
section
variable {c : Bc} {F : Nat -> Prop} {S : Ww × Wrs} {w : World} {j : Nat}
theorem aB_two : aB 2 = false := by decide
theorem Bok.start (c : Bc) (n o : Nat) : Bok c (bo0 n o) 0 := by
 refine ⟨⟨[], [], ⟨Full2.start, fun x hx ha => ?_, fun v hv => ?_⟩, fun v hv => (by cases hv)⟩, Wok.start n o, Nat.le_refl _, Nat.le_refl _, Nat.le_refl _, Nat.le_refl _, rfl⟩
 ·have hx : x ∈ tw 2 12 := hx
  have e : x = 2 := by simpa [tw] using hx
  rw [e, aB_two] at ha
  cases ha
 ·rcases hv with d | d <;> cases d
theorem Bok.do (h : Bok c S j) (hb : Wbd c.a S.1.s) (d A B C : Int) : Bok c (doS c S d A B C) (j + 1) := by
 obtain ⟨Y, G, hk⟩ := h.kv
 obtain ⟨Y', hk'⟩ := doS_wood hk hb d A B C
 obtain ⟨w1, w2, w3, w4⟩ := doS_world (c := c) h.wok d A B C
 obtain ⟨l1, l2⟩ := doS_len c S d A B C
 have e1 := h.m
 have e2 := h.rq
 have e3 := h.t
 have e4 := h.rg
 exact ⟨⟨Y', G, hk'⟩, w1, by omega, by omega, by omega, by omega, w4.trans h.wt⟩
theorem Bok.cut (h : Bok c S j) (hb : Wbd c.a S.1.s) : Bok c (S.1.cut c.a, S.2) (j + 1) := by
 obtain ⟨Y, G, hk⟩ := h.kv
 have l1 := cut_len c.a S.1
 have e1 := h.m
 have e2 := h.rq
 have e3 := h.t
 have e4 := h.rg
 refine ⟨hk.cut hb, h.wok, ?_, by dsimp only; omega, by dsimp only; omega, by dsimp only; omega, h.wt⟩
 dsimp only
 unfold Ww.cut
 split
 ·omega
 ·exact Nat.zero_le _
theorem Bok.rb (h : Bok c S j) (hj : j <= 10000) : RB S.2 := by
 have e3 := h.t
 have e4 := h.rg
 exact h.wok.rb (by omega) (by omega) (by rw [h.wt]; exact Nat.zero_le _)
theorem bo_wbd (h : (boO c).J F S w) : Wbd c.a S.1.s := by
 obtain ⟨FW, h1, _⟩ := bo_w h
 obtain ⟨F0, g1, _⟩ := ws_wod h1
 obtain ⟨_, _, _, _, _, rl, _⟩ := wod_cells g1
 have ha := (wod_arena g1).1
 exact ⟨ha.hN, ha.hN', ha.hO, ha.hy, ha.hg, ha.hl, rl⟩
structure Blk (c : Bc) (s : Wst) (w : World) : Prop where
  at_ : At w c.a.p c.a.q c.a.N c.a.O s.y s.g s.ws
  cd : ∃ pq, Cd w c.a.pc pq c.a.N (nC c.a.O) s.M
  c0 : w.cell? ⟨c.a.pw, 0, none⟩ = some (.pointer (some ⟨c.a.p, 0, none⟩))
  c1 : w.cell? ⟨c.a.pw, 1, none⟩ = some (.pointer (some ⟨c.a.pc, 0, none⟩))
  b0 : w.cell? ⟨c.pb, 0, none⟩ = some (.pointer (some ⟨c.a.pw, 0, none⟩))
theorem bo_blk (h : (boO c).J F S w) : Blk c S.1.s w := by
 obtain ⟨d0, _⟩ := bo_cells h
 obtain ⟨FW, h1, _⟩ := bo_w h
 obtain ⟨F0, g1, _⟩ := ws_wod h1
 obtain ⟨c0, c1, _⟩ := wod_cells g1
 obtain ⟨pq, hc, _⟩ := wod_cards g1
 exact ⟨(wod_arena g1).1, ⟨pq, hc⟩, c0, c1, d0⟩
end
end Go.Proofs.YtalgochmjddodaaGreat

namespace Go.Proofs.YtalgochmjddodaaGreat
open Go.RowKit W Kp Stl
section
variable {a : Wc} {s : Wst} {Y G : List Int}
theorem K12.set (h : KInv a s Y G) (hk : K12 a s Y G) (hb : Wbd a s) (x i z : Int) (M rs : List Int) : K12 a { s with ws := stW a.N s.y s.g s.ws x i z, M := M, rs := rs } Y G := by
 intro v hv
 dsimp only
 by_cases h0 : fcC a.N s.y s.g s.ws x i = 0
 ·obtain ⟨ht, _, i0, i1⟩ := fcC_zero h0
  obtain ⟨_, hx⟩ := tB_mem (O := a.O) h.inv.full hb.n1 hb.y1 hb.o1 hb.g1 ht
  rw [h.inv.full.stands hb.y1 hx] at i1
  unfold stW
  rw [if_pos h0]
  split
  ·rw [(h.inv.full.set (z := z) hb.l1 hb.y1 hb.g1 hx i0 i1).2 v hv]
   exact hk v hv
  ·exact hk v hv
 ·unfold stW
  rw [if_neg h0]
  exact hk v hv
theorem K12.make (h : KInv a s Y G) (hk : K12 a s Y G) (hb : Wbd a s) {k f : Int} (hm : mkB a.N s.y k f = true) (h12 : k = 1 \/ k = 2) (M rs : List Int) : K12 a { s with y := mkY a.N s.y k f, ws := mkW a.N s.y k f s.ws, M := M, rs := rs } (Y ++ [(s.y : Int)]) G := by
 obtain ⟨h1, h2⟩ := mkB_yes hm
 have hf := hc_bd k f h1
 have eY : mkY a.N s.y k f = s.y + 1 + f.toNat := by unfold mkY; rw [if_pos hm]
 have eW : mkW a.N s.y k f s.ws = fil s.ws s.y (hw k f) f.toNat := by unfold mkW; rw [if_pos hm]
 have hlw := hb.l1
 have hlt : s.y + f.toNat < s.ws.length := by omega
 have hyN := hb.y1
 intro v hv
 dsimp only
 rw [eY, eW]
 have hv2 : v ∈ Y \/ v ∈ G \/ v = s.y := by
  rcases hv with d | d
  ·rcases List.mem_append.1 d with d | d
   ·exact Or.inl d
   ·exact Or.inr (Or.inr (by simpa using d))
  ·exact Or.inr (Or.inl d)
 rcases hv2 with d | d | d
 ·have hi := h.inv.full.iy v d
  have e1 : iB a.N (s.y + 1 + f.toNat) s.g v = true := (iB_bool _ _ _ _).2 (Or.inl (by omega))
  have e2 : iB a.N s.y s.g v = true := (iB_bool _ _ _ _).2 (Or.inl (by omega))
  rw [ld_in e1, fil_get _ _ _ _ _ hlt, if_neg (by omega), if_neg (by omega), <- ld_in e2]
  exact hk v (Or.inl d)
 ·have hi := h.inv.full.io v d
  rw [ld_in (iB_o hi.1 hi.2), fil_get _ _ _ _ _ hlt, if_neg (by omega), if_neg (by omega), <- ld_in (y := s.y) (iB_o hi.1 hi.2)]
  exact hk v (Or.inr d)
 ·have e1 : iB a.N (s.y + 1 + f.toNat) s.g v = true := (iB_bool _ _ _ _).2 (Or.inl (by omega))
  rw [ld_in e1, fil_get _ _ _ _ _ hlt, if_pos (by omega), (parts_head k f h1).1]
  exact h12
end
theorem doS_12 {c : Bc} {S : Ww × Wrs} {Y G : List Int} (h : KInv c.a S.1.s Y G) (hk : K12 c.a S.1.s Y G) (hb : Wbd c.a S.1.s) (d A B C : Int) (hd : d = 0 -> A = 1 \/ A = 2) : ∃ Y', KInv c.a (doS c S d A B C).1.s Y' G /\ K12 c.a (doS c S d A B C).1.s Y' G := by
 by_cases e0 : d = 0
 ·cases hm : mkB c.a.N S.1.s.y A B
  ·unfold doS
   rw [if_pos e0]
   have e1 : mkY c.a.N S.1.s.y A B = S.1.s.y := by unfold mkY; rw [hm]; rfl
   have e2 : mkW c.a.N S.1.s.y A B S.1.s.ws = S.1.s.ws := by unfold mkW; rw [hm]; rfl
   have e3 : ¬ 0 <= mkR c.a.N S.1.s.y A B := by unfold mkR; rw [hm, if_neg (by simp)]; omega
   refine ⟨Y, ?_⟩
   unfold boM
   dsimp only
   rw [e1, e2, if_neg e3]
   exact ⟨h, hk⟩
  ·have e3 : mkR c.a.N S.1.s.y A B = S.1.s.y := by unfold mkR; rw [hm]; rfl
   obtain ⟨z1, z2⟩ := ew_at S.1.s.y (by have := hb.y1; have := hb.n1; omega)
   have h1 := h.inv.make (O := c.a.O) hb.l1 hm
   refine ⟨Y ++ [(S.1.s.y : Int)], ?_⟩
   unfold doS
   rw [if_pos e0]
   unfold boM
   dsimp only
   rw [e3, if_pos (by omega)]
   exact ⟨⟨h1.root (rtN C) _ (fun _ => Or.inl (by rw [z2]; simp)), CdI.make h.inv h.cd hb.l1 hm⟩, K12.make h hk hb hm (hd e0) _ _⟩
 ·have key : ∃ Y', KInv c.a (doS c S d A B C).1.s Y' G /\ Y' = Y := by
   unfold doS
   rw [if_neg e0]
   by_cases e1 : d = 1
   ·rw [if_pos e1]
    exact ⟨Y, h.set hb _ _ (rtN_lt A) B (rtN_lt C), rfl⟩
   rw [if_neg e1]
   by_cases e2 : d = 2
   ·rw [if_pos e2]
    refine ⟨Y, ?_, rfl⟩
    unfold boG
    dsimp only
    split
    ·rename_i hfc
     exact h.root _ _ (fun ha => h.get hb _ (rtN_lt A) B hfc ha)
    ·exact h
   rw [if_neg e2]
   by_cases e3 : d = 3
   ·rw [if_pos e3]
    refine ⟨Y, ?_, rfl⟩
    unfold boI
    dsimp only
    split
    ·rename_i hv
     refine h.root _ _ (fun ha => ?_)
     have h1 := (at_enc 1 A hv).1
     rw [h1] at ha
     exact absurd ha (by decide)
    ·exact h
   rw [if_neg e3]
   by_cases e4 : d = 4
   ·rw [if_pos e4]
    exact ⟨Y, h.root _ _ (fun ha => absurd ha (by decide)), rfl⟩
   rw [if_neg e4]
   by_cases e5 : d = 5
   ·rw [if_pos e5]
    refine ⟨Y, ?_, rfl⟩
    unfold boR Ww.rW
    dsimp only
    split
    ·split
     ·exact h
     ·exact h
    ·exact h
   rw [if_neg e5]
   exact ⟨Y, h, rfl⟩
  obtain ⟨Y', k1, k2⟩ := key
  subst k2
  refine ⟨Y', k1, ?_⟩
  unfold doS
  rw [if_neg e0]
  by_cases e1 : d = 1
  ·rw [if_pos e1]
   exact K12.set h hk hb _ _ _ _ _
  rw [if_neg e1]
  by_cases e2 : d = 2
  ·rw [if_pos e2]
   exact hk
  rw [if_neg e2]
  by_cases e3 : d = 3
  ·rw [if_pos e3]
   exact hk
  rw [if_neg e3]
  by_cases e4 : d = 4
  ·rw [if_pos e4]
   exact hk
  rw [if_neg e4]
  by_cases e5 : d = 5
  ·rw [if_pos e5]
   unfold boR Ww.rW
   dsimp only
   split
   ·split
    ·exact hk
    ·exact hk
   ·exact hk
  rw [if_neg e5]
  exact hk
def Sok (a : Wc) (s : Wst) : Prop := ∃ Y G, KInv a s Y G /\ K12 a s Y G
theorem Sok.start (a : Wc) (n o : Nat) : Sok a (bo0 n o).1.s := by
 refine ⟨[], [], ⟨⟨Full2.start, fun x hx ha => ?_, fun v hv => ?_⟩, fun v hv => (by cases hv)⟩, fun v hv => ?_⟩
 ·have hx : x ∈ tw 2 12 := hx
  have e : x = 2 := by simpa [tw] using hx
  rw [e, aB_two] at ha
  cases ha
 ·rcases hv with d | d <;> cases d
 ·rcases hv with d | d <;> cases d
theorem Sok.do {c : Bc} {S : Ww × Wrs} (h : Sok c.a S.1.s) (hb : Wbd c.a S.1.s) (d A B C : Int) (hd : d = 0 -> A = 1 \/ A = 2) : Sok c.a (doS c S d A B C).1.s := by
 obtain ⟨Y, G, h1, h2⟩ := h
 obtain ⟨Y', h3, h4⟩ := doS_12 h1 h2 hb d A B C hd
 exact ⟨Y', G, h3, h4⟩
end Go.Proofs.YtalgochmjddodaaGreat

namespace Go.Proofs.YtalgochmjddodaaGreat
open Go.RowKit W Kp Stl
theorem cutGB_any {c : Bc} {F : Nat -> Prop} {S : Ww × Wrs} {w : World} (h : (boO c).J F S w) (hq : S.1.q.length + S.1.r.length <= 90000) (hsl : S.1.jfull c.a = false -> ∃ G, SlG (S.1.k5 c.a) (S.1.j5 c.a) G /\ G 0 (S.1.k5 c.a, 0)) :
  Calls Tryz.prog 22 #[.pointer (some ⟨c.a.pw, 0, none⟩)] w fun e w' => ∃ F', e = .returned (.int .i64 (S.1.gcode c.a)) /\ (boO c).J F' (S.1.gcut c.a, S.2) w' /\ Tn F w F' w' := by
 obtain ⟨FW, h1, _, h2⟩ := bo_w h
 refine (cutJ_any h1 hq hsl).mono ?_
 rintro e w' ⟨F1, rfl, j1, t1⟩
 obtain ⟨F2, m1, m2⟩ := h2 _ _ _ j1 t1
 exact ⟨F2, rfl, m1, m2⟩
structure So0 (a : Wc) (W : Ww) : Prop where
  k : Sok a W.s
  r : W.r = []
  q : W.q = []
theorem So0.start (a : Wc) (n o : Nat) : So0 a (bo0 n o).1 := ⟨Sok.start a n o, rfl, rfl⟩
theorem rK_12 {a : Wc} {W : Ww} {Y G : List Int} (h : KInv a W.s Y G) (hk : K12 a W.s Y G) (hb : Wbd a W.s) (i k : Nat) : W.rK a i k = false := by
 unfold Ww.rK
 refine decide_eq_false (fun ⟨h1, _, h3⟩ => ?_)
 unfold Ww.kK at h3
 by_cases ht : tB a.N W.s.y W.s.g W.s.ws (W.s.rs.getD k 0) = true
 ·rw [if_pos ht] at h3
  have := hk _ (tB_mem (O := a.O) h.inv.full hb.n1 hb.y1 hb.o1 hb.g1 ht).2
  omega
 ·rw [if_neg ht] at h3
  omega
theorem So0.do {c : Bc} {S : Ww × Wrs} (h : So0 c.a S.1) (hb : Wbd c.a S.1.s) (d A B C : Int) (hd : d = 0 -> A = 1 \/ A = 2) : So0 c.a (doS c S d A B C).1 := by
 have key : (doS c S d A B C).1.r = S.1.r /\ (doS c S d A B C).1.q = S.1.q := by
  obtain ⟨Y, G, h1, h2⟩ := h.k
  have e := rK_12 (W := S.1) h1 h2 hb (rtN A) (rtN C)
  unfold doS
  split
  ·exact ⟨rfl, rfl⟩
  split
  ·exact ⟨rfl, rfl⟩
  split
  ·exact ⟨rfl, rfl⟩
  split
  ·exact ⟨rfl, rfl⟩
  split
  ·exact ⟨rfl, rfl⟩
  split
  ·unfold boR Ww.rW
   rw [e]
   exact ⟨rfl, rfl⟩
  ·exact ⟨rfl, rfl⟩
 exact ⟨h.k.do hb d A B C hd, key.1.trans h.r, key.2.trans h.q⟩
theorem great_strong {a : Wc} {W : Ww} (h : So0 a W) (hb : Wbd a W.s) : (W.jfull a = false -> ∃ G, SlG (W.k5 a) (W.j5 a) G /\ G 0 (W.k5 a, 0)) /\ So0 a (W.gcut a) /\ (W.gcut a).s.M.length <= W.s.M.length /\
  (vwL a.N (W.gcut a).s.y (W.gcut a).s.g (W.gcut a).s.ws (W.gcut a).q (W.gcut a).s.rs).1 = (vwL a.N W.s.y W.s.g W.s.ws W.q W.s.rs).1 /\ (vwL a.N (W.gcut a).s.y (W.gcut a).s.g (W.gcut a).s.ws (W.gcut a).q (W.gcut a).s.rs).2.2 = (vwL a.N W.s.y W.s.g W.s.ws W.q W.s.rs).2.2 /\
  ((W.gcode a = 0 /\ (W.gcut a).s.y = 0 /\ (W.gcut a).s.g = szV (vwL a.N W.s.y W.s.g W.s.ws W.q W.s.rs).2.2 /\ szV (vwL a.N W.s.y W.s.g W.s.ws W.q W.s.rs).2.2 <= a.O) \/ (W.gcode a = 3 /\ (W.gcut a).s.y = W.s.y /\ (W.gcut a).s.g = W.s.g /\ a.O < szV (vwL a.N W.s.y W.s.g W.s.ws W.q W.s.rs).2.2)) := by
 obtain ⟨Y, G, h1, h2⟩ := h.k
 obtain ⟨n1, n2⟩ := great_12 h1 h2 hb h.r h.q
 refine ⟨fun hf => (n2 hf).1, ?_⟩
 cases hf : W.jfull a
 ·obtain ⟨_, g1, g2, g3, j, gc, gal, _⟩ := n2 hf
  obtain ⟨d1, d2, d3, d4⟩ := gc.done h1 h2 hb gal
  obtain ⟨e1, e2⟩ := d4 W.q (W.gcut a).q
  have hn : W.n4 a <= a.O := by
   unfold Ww.jfull at hf
   have := of_decide_eq_false hf
   omega
  refine ⟨⟨⟨[], _, d1, d2⟩, g1, g2⟩, by rw [gc.M]; exact Nat.zero_le _, e1, e2, Or.inl ⟨by unfold Ww.gcode; rw [hf]; rfl, gc.y, by omega, by omega⟩⟩
 ·have hn : (a.O : Int) < W.n4 a := by
   unfold Ww.jfull at hf
   exact of_decide_eq_true hf
  have eG : W.gcut a = W := by unfold Ww.gcut; rw [if_pos hf]
  rw [eG]
  exact ⟨h, Nat.le_refl _, rfl, rfl, Or.inr ⟨by unfold Ww.gcode; rw [if_pos hf], rfl, rfl, by omega⟩⟩
def gbS : Ww := ⟨⟨6, 0, mkW 16 3 1 2 (mkW 16 0 1 2 (List.replicate 24 0)), [], ((tw 2 12).set 0 (ew 3 0)).set 0 (ew 3 3)⟩, [], []⟩
theorem gb_z : szV (vwL 16 gbS.s.y gbS.s.g gbS.s.ws gbS.q gbS.s.rs).2.2 = 3 := by decide +kernel
theorem gb_v : (vwL 16 gbS.s.y gbS.s.g gbS.s.ws gbS.q gbS.s.rs).2.2.length = 1 := by decide +kernel
theorem gb_s : mkY 16 3 1 2 = 6 /\ mkR 16 3 1 2 = 3 := by decide +kernel
end Go.Proofs.YtalgochmjddodaaGreat

namespace Go.Proofs.YtalgochmjddodaaGreat
open Go.RowKit W Kp Stl
def mbS : Ww := ⟨⟨3, 0, mkW 16 0 1 2 (List.replicate 24 0), [], (tw 2 12).set 0 (ew 3 0)⟩, [], []⟩
theorem mb_b : ((bo0 16 8).2.fB 16 1 2 == decide (0 <= mkR 16 0 1 2)) = true := by decide +kernel
theorem mb_r : rtN 0 = 0 := by decide +kernel
theorem mb_s : mkY 16 0 1 2 = 3 /\ mkR 16 0 1 2 = 0 := by decide +kernel
end Go.Proofs.YtalgochmjddodaaGreat

namespace Go.Proofs.YtalgochmjddodaaGreat
open Go.RowKit W Kp Stl
theorem run_nodes (x y : Value) (w : World) : Sem.run Tryz.prog (Instr.field 52 (.agg #[x, y]) 1) w = .ok y w := by
 unfold Instr.field
 simp [go_sem]
 rfl
end Go.Proofs.YtalgochmjddodaaGreat

namespace Go.Proofs.YtalgochmjddodaaGreat
set_option maxRecDepth 100000
set_option maxHeartbeats 4000000
open Go.RowKit W Kp Stl
theorem gb_b : (((bo0 16 8).2.fr 16 0 1 2).fB 16 1 2 == decide (0 <= mkR 16 mbS.s.y 1 2)) = true := by decide +kernel
theorem majorBegun_any (w : World) : Calls Tryz.prog 20 #[] w fun e w' => e = .returned (.bool true) /\ Below w.heap.size w w' := by
 go_enter Tryz.func20, Tryz.ntmps20
 go_wp2_with fail
 refine (start_yes 16 8 w (by omega) (by omega) (by omega)).mono ?_
 rintro e w1 ⟨c, F1, rfl, j1, ⟨k1, k2, k3, k4⟩, g1, b1⟩
 have B0 := Bok.start c 16 8
 have O0 := So0.start c.a 16 8
 have W0 := bo_wbd j1
 have D := do_any j1 ((Wok.start 16 8).rb (by decide) (by decide) (by decide)) (by rw [k3]; decide) (by rw [k3]; decide) (by decide) (by decide) (by decide) 0 1 2 0
 have B1 := B0.do W0 0 1 2 0
 have O1 := O0.do (c := c) (S := bo0 16 8) W0 0 1 2 0 (fun _ => Or.inl rfl)
 have e1 : doB c (bo0 16 8) 0 1 2 0 = true := by
  unfold doB
  rw [if_pos rfl, k3, k1]
  exact mb_b
 have e2 : (doS c (bo0 16 8) 0 1 2 0).1 = mbS := by
  unfold doS
  rw [if_pos rfl]
  unfold boM
  dsimp only
  rw [k1]
  show (⟨⟨mkY 16 0 1 2, 0, mkW 16 0 1 2 (List.replicate (16 + 8) 0), [], if 0 <= mkR 16 0 1 2 then (tw 2 12).set (rtN 0) (ew 3 (mkR 16 0 1 2)) else tw 2 12⟩, [], []⟩ : Ww) = mbS
  rw [mb_s.1, mb_s.2, mb_r]
  rfl
 have e3 : (doS c (bo0 16 8) 0 1 2 0).2 = (bo0 16 8).2.fr 16 0 1 2 := by
  unfold doS
  rw [if_pos rfl]
  unfold boM
  dsimp only
  rw [k3, mb_r]
  rfl
 rw [e1] at D
 generalize hS1 : doS c (bo0 16 8) 0 1 2 0 = S1 at D B1 O1
 rw [hS1] at e2 e3
 have HJ : Hid ((∀ b, F1 b -> w.heap.size <= b) /\ Below w.heap.size w w1 /\ S1.1 = mbS /\ S1.2 = (bo0 16 8).2.fr 16 0 1 2 /\ c.a.N = 16 /\ c.a.O = 8 /\ c.most = 16 /\ Bok c S1 1 /\ So0 c.a S1.1) := ⟨g1, b1, e2, e3, k1, k2, k3, B1, O1⟩
 clear j1 g1 b1 hS1 e1 e2 e3 k1 k2 k3 k4 B0 O0 W0 B1 O1
 go_wp2_with fail
 refine D.mono ?_
 clear D
 rintro e w2 ⟨F2, rfl, j2, t2⟩
 obtain ⟨h1, h2, h3, h3', h4, h5, h6, B1, O1⟩ := HJ.out
 have W1 := bo_wbd j2
 have D := do_any j2 (B1.rb (by omega)) (by rw [h6]; decide) (by rw [h6]; decide) (by have := B1.m; omega) (by have := B1.rq; omega) (by have := B1.rq; omega) 0 1 2 0
 have B2 := B1.do W1 0 1 2 0
 have O2 := O1.do (c := c) (S := S1) W1 0 1 2 0 (fun _ => Or.inl rfl)
 have e1 : doB c S1 0 1 2 0 = true := by
  unfold doB
  rw [if_pos rfl, h6, h4, h3, h3']
  exact gb_b
 have e2 : (doS c S1 0 1 2 0).1 = gbS := by
  unfold doS
  rw [if_pos rfl]
  unfold boM
  dsimp only
  rw [h4, h3]
  show (⟨⟨mkY 16 3 1 2, 0, mkW 16 3 1 2 (mkW 16 0 1 2 (List.replicate 24 0)), [], if 0 <= mkR 16 3 1 2 then ((tw 2 12).set 0 (ew 3 0)).set (rtN 0) (ew 3 (mkR 16 3 1 2)) else (tw 2 12).set 0 (ew 3 0)⟩, [], []⟩ : Ww) = gbS
  rw [gb_s.1, gb_s.2, mb_r]
  rfl
 rw [e1] at D
 generalize hS2 : doS c S1 0 1 2 0 = S2 at D B2 O2
 rw [hS2] at e2
 have b2 := h2.trans (t2.fr.below h2.size h1)
 have g2 : ∀ b, F2 b -> w.heap.size <= b := fun b d => (t2.sub b d).elim (h1 b) (fun d => Nat.le_trans h2.size d)
 obtain ⟨d0, _⟩ := bo_all j2
 have HK : Hid ((∀ b, F2 b -> w.heap.size <= b) /\ Below w.heap.size w w2 /\ S2.1 = gbS /\ c.a.N = 16 /\ c.a.O = 8 /\ Bok c S2 2 /\ So0 c.a S2.1) := ⟨g2, b2, e2, h4, h5, B2, O2⟩
 clear j2 t2 h1 h2 h3 h3' h4 h5 h6 B1 O1 W1 B2 O2 e1 e2 hS2 b2 g2 HJ
 go_wp2_with fail
 refine D.mono ?_
 clear D
 rintro e w3 ⟨F3, rfl, j3, t3⟩
 obtain ⟨h1, h2, h3, h4, h5, B2, O2⟩ := HK.out
 have W2 := bo_wbd j3
 obtain ⟨g1, g2, g3, g4, g5, g6⟩ := great_strong O2 W2
 have P := cutGB_any j3 (by rw [O2.r, O2.q]; decide) g1
 rw [h4, h3, gb_z, h5] at g6
 rw [h4, h3] at g5
 have g7 : S2.1.gcode c.a = 0 /\ (S2.1.gcut c.a).s.y = 0 /\ (S2.1.gcut c.a).s.g = 3 := by
  rw [h3]
  rcases g6 with ⟨q1, q2, q3, _⟩ | ⟨_, _, _, q4⟩
  ·exact ⟨q1, q2, q3⟩
  ·omega
 rw [g7.1] at P
 have b3 := h2.trans (t3.fr.below h2.size h1)
 have g8 : ∀ b, F3 b -> w.heap.size <= b := fun b d => (t3.sub b d).elim (h1 b) (fun d => Nat.le_trans h2.size d)
 obtain ⟨d0, _⟩ := bo_all j3
 have HL : Hid ((∀ b, F3 b -> w.heap.size <= b) /\ Below w.heap.size w w3 /\ (S2.1.gcut c.a).s.y = 0 /\ (S2.1.gcut c.a).s.g = 3 /\ (S2.1.gcut c.a).q = [] /\ (vwL c.a.N (S2.1.gcut c.a).s.y (S2.1.gcut c.a).s.g (S2.1.gcut c.a).s.ws (S2.1.gcut c.a).q (S2.1.gcut c.a).s.rs).2.2.length = 1) := ⟨g8, b3, g7.2.1, g7.2.2, g2.q, by rw [h3, h4, g5]; exact gb_v⟩
 clear j3 t3 h1 h2 h3 h4 h5 B2 O2 W2 g1 g2 g3 g4 g5 g6 g7 g8 b3 HK
 generalize S2.1.gcut c.a = S3 at P HL
 go_wp2_with fail
 refine P.mono ?_
 clear P
 rintro e w4 ⟨F4, rfl, j4, t4⟩
 obtain ⟨h1, h2, h3, h4, h5, h6⟩ := HL.out
 have b4 := h2.trans (t4.fr.below h2.size h1)
 have P := usedB_any j4
 dsimp only at P
 rw [h3, h4] at P
 obtain ⟨d0, _, d2, _⟩ := bo_all j4
 have HM : Hid ((boO c).J F4 (S3, S2.2) w4 /\ Below w.heap.size w w4 /\ S3.q = [] /\ (vwL c.a.N S3.s.y S3.s.g S3.s.ws S3.q S3.s.rs).2.2.length = 1) := ⟨j4, b4, h5, h6⟩
 clear j4 t4 h1 h2 h3 h4 h5 h6 b4 HL
 go_wp2_with fail
 refine P.mono ?_
 clear P
 rintro e w5 ⟨rfl, b5⟩
 obtain ⟨h1, h2, h5, h6⟩ := HM.out
 have j5 := (boO c).below h1 b5
 have b6 := h2.trans (b5.mono h2.size)
 have P := viewB_any j5 (by dsimp only; rw [h5]; decide)
 dsimp only at P
 rw [h6] at P
 obtain ⟨d0, _⟩ := bo_all j5
 have HB : Hid (Below w.heap.size w w5) := b6
 clear h1 h2 h5 h6 j5 b5 b6 HM
 go_wp2_with fail
 refine P.mono ?_
 clear P
 rintro e w6 ⟨r2, d2, na, nn, nc, rfl, _, _, rfl, b5⟩
 have HB5 : Hid (Below w.heap.size w w6) := HB.out.trans (b5.mono HB.out.size)
 clear b5 HB
 have hrn := run_nodes (.slice r2 12 d2) (.slice na 1 nc)
 go_wp2_with fail
 go_ret
 exact ⟨rfl, HB5.out⟩
end Go.Proofs.YtalgochmjddodaaGreat
