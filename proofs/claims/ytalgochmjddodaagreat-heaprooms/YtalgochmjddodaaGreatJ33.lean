/- Joined: Mk8, Ws15, Ws20, Ms3, Mx1, Mg3, Mg4, Mg6, Mg7, Mg8, Mg9. -/
import Derived.Test.YtalgochmjddodaaGreatJ32
import Derived.Test.YtalgochmjddodaaGreatJ28
import Derived.Test.YtalgochmjddodaaGreatJ17
import Derived.Test.YtalgochmjddodaaGreatJ31
import Derived.Test.YtalgochmjddodaaGreatJ29
import Derived.Test.YtalgochmjddodaaGreatJ26
namespace Go.Proofs.YtalgochmjddodaaGreat
open Go.RowKit W Kp Stl
def Js.lf (j : Js) (T : List Int) : List Int := (T.filter (fun c => !(j.f c == -1))).map j.f
section
variable {a : Wc} {s s' : Wst} {Y G : List Int} {j : Js}
structure Gal (a : Wc) (s : Wst) (T : List Int) (j : Js) : Prop where
  rt : ∀ i, i < 12 -> aB (s.rs.getD i 0) = true -> aV (s.rs.getD i 0) ∈ T /\ j.f (aV (s.rs.getD i 0)) ≠ -1
  fd : ∀ c ∈ T, j.f c ≠ -1 -> ∀ i, 0 <= i -> i < pf (ld a.N s.y s.g s.ws c) -> aB (ld a.N s.y s.g s.ws (c + 1 + i)) = true -> aV (ld a.N s.y s.g s.ws (c + 1 + i)) ∈ T /\ j.f (aV (ld a.N s.y s.g s.ws (c + 1 + i))) ≠ -1
theorem bkf_12 {k : Jk} {c : Int} (h : pk (k.ld c) = 1 \/ pk (k.ld c) = 2) (i : Int) : k.bkf j c i = k.ld (c + 1 + i) := by
 unfold Jk.bkf
 rw [if_neg (fun q => by omega)]
theorem Gc.bd (g : Gc a s (G ++ Y) j s') : ∀ c ∈ G ++ Y, j.f c ≠ -1 -> (a.N : Int) <= j.f c /\ j.f c + (1 + pf (ld a.N s.y s.g s.ws c)) <= a.N + s'.g := fun c hc hf => g.pos.bd (fun c => (pf_bd _).1) c hc (by rw [beq_false_of_ne hf]; rfl)
theorem lf_mem {T : List Int} {x : Int} : x ∈ j.lf T ↔ ∃ c ∈ T, j.f c ≠ -1 /\ j.f c = x := by
 unfold Js.lf
 rw [List.mem_map]
 constructor
 ·rintro ⟨c, h1, h2⟩
  obtain ⟨h3, h4⟩ := List.mem_filter.1 h1
  exact ⟨c, h3, by simpa using h4, h2⟩
 ·rintro ⟨c, h1, h2, h3⟩
  exact ⟨c, List.mem_filter.2 ⟨h1, by rw [beq_false_of_ne h2]; rfl⟩, h3⟩
theorem Gc.full (g : Gc a s (G ++ Y) j s') (h : Full2 a.N s.y s.g s.ws Y G) : Full2 a.N 0 s'.g s'.ws [] (j.lf (G ++ Y)) := by
 refine ⟨rfl, g.pos.tile (fun c => (pf_bd _).1) (fun c hc hal => ?_)⟩
 have hf : j.f c ≠ -1 := by simpa using hal
 rw [g.hd c hc hf]
 refine ⟨?_, rfl⟩
 rcases List.mem_append.1 hc with d | d
 ·exact (h.to.mem c d).2.2
 ·exact (h.ty.mem c d).2.2
theorem Gc.done (g : Gc a s (G ++ Y) j s') (h : KInv a s Y G) (hk : K12 a s Y G) (hb : Wbd a s) (al : Gal a s (G ++ Y) j) : KInv a s' [] (j.lf (G ++ Y)) /\ K12 a s' [] (j.lf (G ++ Y)) /\ Wbd a s' /\
  ∀ Q Q' : List En, (vwL a.N s'.y s'.g s'.ws Q' s'.rs).1 = (vwL a.N s.y s.g s.ws Q s.rs).1 /\ (vwL a.N s'.y s'.g s'.ws Q' s'.rs).2.2 = (vwL a.N s.y s.g s.ws Q s.rs).2.2 := by
 obtain ⟨_, _, e3⟩ := j0_lists h.inv.full hb
 have hF := g.full h.inv.full
 have hbd := g.bd
 have hN := hb.n1
 have hO := hb.o1
 have hgo := g.g
 have hsm : ∀ c ∈ (s.j0 a).T, j.f c ≠ -1 -> 0 <= j.f c /\ j.f c < 1000000 := fun c hc hf => by
  rw [e3] at hc
  have := hbd c hc hf
  have := pf_bd (ld a.N s.y s.g s.ws c)
  omega
 have hx12 : ∀ c, c ∈ G ++ Y -> pk (ld a.N s.y s.g s.ws c) = 1 \/ pk (ld a.N s.y s.g s.ws c) = 2 := fun c hc => hk c (List.mem_append.1 hc).symm
 have hrt : ∀ i, i < 12 -> Wmv (fun c => c ∈ (s.j0 a).T /\ j.f c ≠ -1) j.f (s.rs.getD i 0) (s'.rs.getD i 0) /\ (aB (s'.rs.getD i 0) = true -> aV (s'.rs.getD i 0) ∈ j.lf (G ++ Y)) := fun i hi => by
  rw [g.rs i hi]
  obtain ⟨q1, q2⟩ := nw_moved (k := s.j0 a) (j := j) (x := s.rs.getD i 0) (fun ha => by rw [e3]; exact al.rt i hi ha) hsm
  refine ⟨q1, fun ha => ?_⟩
  obtain ⟨c, c1, c2, c3⟩ := q2 ha
  rw [e3] at c1
  exact lf_mem.2 ⟨c, c1, c2, c3.symm⟩
 have hfd : ∀ c ∈ G ++ Y, j.f c ≠ -1 -> ∀ i, 0 <= i -> i < pf (ld a.N s.y s.g s.ws c) -> Wmv (fun c => c ∈ (s.j0 a).T /\ j.f c ≠ -1) j.f (ld a.N s.y s.g s.ws (c + 1 + i)) (ld a.N 0 s'.g s'.ws (j.f c + 1 + i)) /\ (aB (ld a.N 0 s'.g s'.ws (j.f c + 1 + i)) = true -> aV (ld a.N 0 s'.g s'.ws (j.f c + 1 + i)) ∈ j.lf (G ++ Y)) := fun c hc hf i i0 i1 => by
  have e0 : (s.j0 a).bkf j c i = ld a.N s.y s.g s.ws (c + 1 + i) := bkf_12 (k := s.j0 a) (hx12 c hc) i
  rw [g.fd c hc hf i i0 i1, e0]
  obtain ⟨q1, q2⟩ := nw_moved (k := s.j0 a) (j := j) (x := ld a.N s.y s.g s.ws (c + 1 + i)) (fun ha => by rw [e3]; exact al.fd c hc hf i i0 i1 ha) hsm
  refine ⟨q1, fun ha => ?_⟩
  obtain ⟨d, c1, c2, c3⟩ := q2 ha
  rw [e3] at c1
  exact lf_mem.2 ⟨d, c1, c2, c3.symm⟩
 have hb' : Wbd a s' := ⟨hb.n0, hb.n1, hb.o1, by rw [g.y]; exact Nat.zero_le _, g.g, g.l, g.rl⟩
 have hW : WInv a.N 0 s'.g s'.ws [] (j.lf (G ++ Y)) s'.rs := by
  refine ⟨hF, fun x hx ha => ?_, fun v hv i i0 i1 ha => ?_⟩
  ·obtain ⟨i, hi, e⟩ := List.mem_iff_getElem.1 hx
   have e2 : s'.rs.getD i 0 = x := by
    rw [List.getD_eq_getElem?_getD, List.getElem?_eq_getElem hi, e]
    rfl
   have q := (hrt i (by rw [<- g.rl]; exact hi)).2
   rw [e2] at q
   exact Or.inr (q ha)
  ·rcases hv with hv | hv
   ·cases hv
   ·obtain ⟨c, c1, c2, c3⟩ := lf_mem.1 hv
    rw [<- c3] at i1 ha ⊢
    rw [g.hd c c1 c2] at i1
    exact Or.inr ((hfd c c1 c2 i i0 i1).2 ha)
 have hK' : K12 a s' [] (j.lf (G ++ Y)) := fun v hv => by
  rcases hv with hv | hv
  ·cases hv
  ·obtain ⟨c, c1, c2, c3⟩ := lf_mem.1 hv
   rw [<- c3, g.y, g.hd c c1 c2]
   exact hx12 c c1
 refine ⟨⟨by rw [g.y]; exact hW, fun v _ i _ _ _ hy => by cases hy⟩, hK', hb', fun Q Q' => ?_⟩
 obtain ⟨e1, e2⟩ := h.inv.full.lists (O := a.O) hb.n1 hb.y1 hb.o1 hb.g1
 obtain ⟨e5, e4⟩ := hF.lists (O := a.O) hb.n1 (Nat.zero_le _) hb.o1 g.g
 have B : Bi (fun c => c ∈ (s.j0 a).T /\ j.f c ≠ -1) j.f (Y ++ G) (fun v => pk (ld a.N s.y s.g s.ws v)) (shL a.N s.y s.g s.ws Q) (j.lf (G ++ Y)) (fun v => pk (ld a.N 0 s'.g s'.ws v)) (shL a.N 0 s'.g s'.ws Q') := by
  have hT : ∀ c, c ∈ (s.j0 a).T -> c ∈ G ++ Y := fun c hc => by rw [e3] at hc; exact hc
  refine ⟨fun c hc => List.mem_append.2 (List.mem_append.1 (hT c hc.1)).symm, fun c hc => lf_mem.2 ⟨c, hT c hc.1, hc.2, rfl⟩, fun c d hc hd e => ?_, fun c hc => ?_, fun c hc => ?_⟩
  ·exact g.pos.inj (fun c => (pf_bd _).1) c (hT c hc.1) d (hT d hd.1) (by rw [beq_false_of_ne hc.2]; rfl) (by rw [beq_false_of_ne hd.2]; rfl) e
  ·show pk (ld a.N 0 s'.g s'.ws (j.f c)) = _
   rw [g.hd c (hT c hc.1) hc.2]
  ·have hm := hT c hc.1
   have k1 := hx12 c hm
   have n5 : pk (ld a.N s.y s.g s.ws c) ≠ 5 := by omega
   have hd2 := g.hd c hm hc.2
   have n5' : pk (ld a.N 0 s'.g s'.ws (j.f c)) ≠ 5 := by rw [hd2]; exact n5
   have hv : c ∈ Y \/ c ∈ G := (List.mem_append.1 hm).symm
   have hv' : j.f c ∈ ([] : List Int) \/ j.f c ∈ j.lf (G ++ Y) := Or.inr (lf_mem.2 ⟨c, hm, hc.2, rfl⟩)
   have l1 := shL_n h.inv.full hb.y1 Q hv n5
   have l2 := shL_n hF (Nat.zero_le _) Q' hv' n5'
   rw [hd2] at l2
   refine Wls.of (by omega) (fun i hi => ?_)
   rw [(shL_get h.inv.full hb.y1 Q hv n5).1 i hi, (shL_get hF (Nat.zero_le _) Q' hv' n5').1 i (by omega)]
   exact (hfd c hm hc.2 i (by omega) (by omega)).1
 have hl : Wls (Wmv (fun c => c ∈ (s.j0 a).T /\ j.f c ≠ -1) j.f) s.rs s'.rs := Wls.of (by rw [hb.r1, g.rl]) (fun i hi => (hrt i (by rw [<- hb.r1]; exact hi)).1)
 unfold vwL
 rw [g.y, e1, e2, e5, e4, List.nil_append]
 obtain ⟨b1, b2, _⟩ := walk_bi B hl (n := (Y ++ G).length) (n' := (j.lf (G ++ Y)).length) (Nat.le_refl _) (Nat.le_refl _)
 exact ⟨b1.symm, b2⟩
end
section
variable {a : Wc} {S : Ww} {Y G : List Int}
theorem great_12 (h : KInv a S.s Y G) (hk : K12 a S.s Y G) (hb : Wbd a S.s) (hr : S.r = []) (hq : S.q = []) :
  S.n4 a = (szV (vwL a.N S.s.y S.s.g S.s.ws S.q S.s.rs).2.2 : Int) /\
  (S.jfull a = false -> (∃ F, SlG (S.k5 a) (S.j5 a) F /\ F 0 (S.k5 a, 0)) /\ (S.gcut a).r = [] /\ (S.gcut a).q = [] /\ ((S.gcut a).s.g : Int) = S.n4 a /\ ∃ j, Gc a S.s (G ++ Y) j (S.gcut a).s /\ Gal a S.s (G ++ Y) j /\ ∀ c ∈ G ++ Y, j.f c ≠ -1 ↔ c ∈ (vwL a.N S.s.y S.s.g S.s.ws S.q S.s.rs).2.1) := by
 obtain ⟨m1, m2, m3⟩ := marks_12 h hk hb S.q
 obtain ⟨_, _, l3⟩ := j0_lists h.inv.full hb
 obtain ⟨v1, v2, v3⟩ := view_sum (O := a.O) h.inv.full hb.n1 hb.y1 hb.o1 hb.g1 S.q S.s.rs
 obtain ⟨s3, hs3⟩ : ∃ s3, (S.s.j0 a).LM ((S.s.j0 a).kr js0 12) = s3 := ⟨_, rfl⟩
 rw [hs3] at m1 m2 m3
 have e2 : S.j2 a = (s3, []) := by unfold Ww.j2; rw [hq]; exact m1
 have e3 : S.j3 a = s3 := by unfold Ww.j3; rw [e2, hr]; rfl
 have er : S.r3 a = [] := by unfold Ww.r3; rw [e2, hr]; rfl
 have eq : S.q3 a = [] := by unfold Ww.q3; rw [e2, hr]; rfl
 have e4 : S.j4 a = ((S.s.j0 a).pl s3).1 := by unfold Ww.j4; rw [e3]
 have en : S.n4 a = ((S.s.j0 a).pl s3).2 - a.N := by unfold Ww.n4; rw [e3]
 have e5 : S.j5 a = S.j4 a := by unfold Ww.j5; rw [er, eq]; rfl
 have enda : (S.s.j0 a).T.Nodup := m2.ji.nd
 have hal : ∀ c ∈ (S.s.j0 a).T, s3.f c ≠ -1 ↔ c ∈ (vwL a.N S.s.y S.s.g S.s.ws S.q S.s.rs).2.1 := fun c hc => ⟨m2.snd c hc, m3 c⟩
 refine ⟨?_, fun hf => ?_⟩
 ·obtain ⟨P0, _⟩ := pl_pos (S.s.j0 a) (fun c => !(s3.f c == -1)) (S.s.j0 a).T (s3, a.N) enda (fun c _ => rfl)
  have hs := P0.sum (fun c => (pf_bd _).1)
  have hs : (sumF (szL (ld a.N S.s.y S.s.g S.s.ws)) ((S.s.j0 a).T.filter (fun c => !(s3.f c == -1))) : Int) = ((S.s.j0 a).pl s3).2 - a.N := hs
  have q1 : sumF (szL (ld a.N S.s.y S.s.g S.s.ws)) ((S.s.j0 a).T.filter (fun c => !(s3.f c == -1))) <= sumF (szL (ld a.N S.s.y S.s.g S.s.ws)) (vwL a.N S.s.y S.s.g S.s.ws S.q S.s.rs).2.1 := sumF_sub (enda.filter _) v2 (fun c hc => by
   obtain ⟨c1, c2⟩ := List.mem_filter.1 hc
   exact (hal c c1).1 (by simpa using c2))
  have q2 : sumF (szL (ld a.N S.s.y S.s.g S.s.ws)) (vwL a.N S.s.y S.s.g S.s.ws S.q S.s.rs).2.1 <= sumF (szL (ld a.N S.s.y S.s.g S.s.ws)) ((S.s.j0 a).T.filter (fun c => !(s3.f c == -1))) := sumF_sub v2 (enda.filter _) (fun c hc => by
   refine List.mem_filter.2 ⟨?_, by rw [beq_false_of_ne (m3 c hc)]; rfl⟩
   rw [l3]
   exact List.mem_append.2 (List.mem_append.1 (v3 c hc)).symm)
  rw [en, v1]
  omega
 ·have hm : ((S.s.j0 a).pl s3).2 <= a.N + a.O := by
   unfold Ww.jfull at hf
   have := of_decide_eq_false hf
   omega
  obtain ⟨g1, g2, g3, g4⟩ := gc_done h.inv.full hb s3 hm
  rw [<- e4] at g1 g2 g3 g4
  have e6 : (S.s.j0 a).tlA (S.j4 a) = S.k5 a := rfl
  rw [e6] at g1 g2 g4
  have e7 : (S.k5 a).sl (S.j4 a) = S.k6 a := by unfold Ww.k6; rw [e5]
  rw [e7] at g1 g2
  have eS : S.gcut a = ⟨(S.k6 a).s, [], []⟩ := by
   unfold Ww.gcut
   rw [hf, if_neg (by simp), er, eq]
   rfl
  rw [eS, e5]
  refine ⟨g4, rfl, rfl, by rw [en]; exact g2, S.j4 a, g1, ⟨fun i hi ha => ?_, fun c hc hfc i i0 i1 ha => ?_⟩, fun c hc => ?_⟩
  ·have hgd : S.s.rs.getD i 0 ∈ S.s.rs := by
    rw [List.getD_eq_getElem?_getD, List.getElem?_eq_getElem (by rw [hb.r1]; exact hi)]
    exact List.getElem_mem _
   have hm1 : aV (S.s.rs.getD i 0) ∈ G ++ Y := List.mem_append.2 (h.inv.rt _ hgd ha).symm
   have hj : (S.s.j0 a).jt (S.s.rs.getD i 0) = true := by
    unfold Jk.jt
    rw [ha, l3, List.contains_iff_mem.2 hm1]
    rfl
   have hfl := m2.rt i hi
   have hfl : (S.s.j0 a).jl s3 (S.s.rs.getD i 0) = false := hfl
   rw [Jk.jl_no hj] at hfl
   exact ⟨hm1, fun e => hfl ((g3 _ hm1).1 e)⟩
  ·have hm1 : aV (ld a.N S.s.y S.s.g S.s.ws (c + 1 + i)) ∈ G ++ Y := List.mem_append.2 (h.inv.fd c (List.mem_append.1 hc).symm i i0 i1 ha).symm
   have hj : (S.s.j0 a).jt (ld a.N S.s.y S.s.g S.s.ws (c + 1 + i)) = true := by
    unfold Jk.jt
    rw [ha, l3, List.contains_iff_mem.2 hm1]
    rfl
   have hfl := m2.flt c (by rw [l3]; exact hc) (fun e => hfc ((g3 c hc).2 e)) i.toNat (by show (i.toNat : Int) < pf (ld a.N S.s.y S.s.g S.s.ws c); omega)
   rw [show ((i.toNat : Nat) : Int) = i from by omega] at hfl
   have hfl : (S.s.j0 a).jl s3 (ld a.N S.s.y S.s.g S.s.ws (c + 1 + i)) = false := hfl
   rw [Jk.jl_no hj] at hfl
   exact ⟨hm1, fun e => hfl ((g3 _ hm1).1 e)⟩
  ·rw [<- hal c (by rw [l3]; exact hc)]
   exact not_congr (g3 c hc)
end
end Go.Proofs.YtalgochmjddodaaGreat

namespace Go.Proofs.YtalgochmjddodaaGreat
open Go.RowKit W Kp Stl
section
variable {c : Bc} {F : Nat -> Prop} {S : Ww × Wrs} {w : World}
end
end Go.Proofs.YtalgochmjddodaaGreat

namespace Go.Proofs.YtalgochmjddodaaGreat
open Go.RowKit W Kp Stl
section
variable {c : Bc} {F : Nat -> Prop} {S : Ww × Wrs} {w : World} {j : Nat}
theorem aB_two : aB 2 = false := by decide
end
end Go.Proofs.YtalgochmjddodaaGreat

namespace Go.Proofs.YtalgochmjddodaaGreat
open Go.RowKit W Kp Stl
section
variable {a : Wc} {s : Wst} {Y G : List Int}
theorem K12.set (h : KInv a s Y G) (hk : K12 a s Y G) (hb : Wbd a s) (x i z : Int) (M rs : List Int) : K12 a { s with ws := stW a.N s.y s.g s.ws x i z, M := M, rs := rs } Y G := by
 intro v hv
 dsimp only
 by_cases h0 : fcC a.N s.y s.g s.ws x i = 0
 ·obtain ⟨ht, _, i0, i1⟩ := fcC_zero h0
  obtain ⟨_, hx⟩ := tB_mem (O := a.O) h.inv.full hb.n1 hb.y1 hb.o1 hb.g1 ht
  rw [h.inv.full.stands hb.y1 hx] at i1
  unfold stW
  rw [if_pos h0]
  split
  ·rw [(h.inv.full.set (z := z) hb.l1 hb.y1 hb.g1 hx i0 i1).2 v hv]
   exact hk v hv
  ·exact hk v hv
 ·unfold stW
  rw [if_neg h0]
  exact hk v hv
end
theorem cut_12 {a : Wc} {S : Ww} {Y G : List Int} (h : KInv a S.s Y G) (hk : K12 a S.s Y G) (hb : Wbd a S.s) (hf : S.full a = false) :
  (∃ G', KInv a (S.cut a).s [] G' /\ K12 a (S.cut a).s [] G') /\ (S.cut a).s.y = 0 /\ (S.cut a).s.g <= S.s.g + S.s.y /\
  (vwL a.N (S.cut a).s.y (S.cut a).s.g (S.cut a).s.ws (S.cut a).q (S.cut a).s.rs).1 = (vwL a.N S.s.y S.s.g S.s.ws S.q S.s.rs).1 /\ (vwL a.N (S.cut a).s.y (S.cut a).s.g (S.cut a).s.ws (S.cut a).q (S.cut a).s.rs).2.2 = (vwL a.N S.s.y S.s.g S.s.ws S.q S.s.rs).2.2 /\
  szV (vwL a.N S.s.y S.s.g S.s.ws S.q S.s.rs).2.2 <= (S.cut a).s.g := by
 have hr : S.s.y <= a.O - S.s.g := by
  unfold Ww.full at hf
  have := of_decide_eq_false hf
  omega
 obtain ⟨K, D, c⟩ := cut_rest h hb hr
 have hW := c.done h hb
 obtain ⟨v1, v2⟩ := mv_view c h hb hk S.q ((S.s.k0 a).sQ (S.t3 a) S.r)
 have hg : (S.s6 a).g <= a.O := by rw [s6_same c h hb hk]; exact c.li.mi.ci.hg
 have hs := view_size (O := a.O) hW.full hb.n1 (Nat.zero_le _) hb.o1 hg ((S.s.k0 a).sQ (S.t3 a) S.r) (S.s6 a).rs
 rw [v2] at hs
 unfold Ww.cut
 rw [hf, if_neg (by simp)]
 refine ⟨⟨G ++ K, ⟨hW, fun v _ i _ _ _ hy => by cases hy⟩, fun v hv => ?_⟩, rfl, mv_room c h hb hk, v1.symm, v2, by dsimp only; omega⟩
 rcases hv with d | d
 ·cases d
 ·have h1 := mv_12 c h hb hk d
  show pk (ld a.N 0 (S.s6 a).g (S.s6 a).ws v) = 1 \/ pk (ld a.N 0 (S.s6 a).g (S.s6 a).ws v) = 2
  rw [s6_same c h hb hk, ld_old (y := S.s.y) (by have := (c.li.mi.bd d).1; have e : (S.s.k0 a).N = a.N := rfl; omega) hb.y1]
  exact h1
def Sok (a : Wc) (s : Wst) : Prop := ∃ Y G, KInv a s Y G /\ K12 a s Y G
theorem Sok.start (a : Wc) (n o : Nat) : Sok a (bo0 n o).1.s := by
 refine ⟨[], [], ⟨⟨Full2.start, fun x hx ha => ?_, fun v hv => ?_⟩, fun v hv => (by cases hv)⟩, fun v hv => ?_⟩
 ·have hx : x ∈ tw 2 12 := hx
  have e : x = 2 := by simpa [tw] using hx
  rw [e, aB_two] at ha
  cases ha
 ·rcases hv with d | d <;> cases d
 ·rcases hv with d | d <;> cases d
theorem strong_cut {a : Wc} {S : Ww} (h : Sok a S.s) (hb : Wbd a S.s) : Sok a (S.cut a).s /\ (vwL a.N (S.cut a).s.y (S.cut a).s.g (S.cut a).s.ws (S.cut a).q (S.cut a).s.rs).1 = (vwL a.N S.s.y S.s.g S.s.ws S.q S.s.rs).1 /\ (vwL a.N (S.cut a).s.y (S.cut a).s.g (S.cut a).s.ws (S.cut a).q (S.cut a).s.rs).2.2 = (vwL a.N S.s.y S.s.g S.s.ws S.q S.s.rs).2.2 /\
  ((S.code a = 0 /\ (S.cut a).s.y = 0 /\ (S.cut a).s.g <= S.s.g + S.s.y /\ szV (vwL a.N S.s.y S.s.g S.s.ws S.q S.s.rs).2.2 <= (S.cut a).s.g) \/ (S.code a = 3 /\ (S.cut a).s.y = S.s.y /\ (S.cut a).s.g = S.s.g /\ (a.O : Int) - S.s.g < S.s.y)) := by
 obtain ⟨Y, G, h1, h2⟩ := h
 cases hf : S.full a
 ·obtain ⟨⟨G', g1, g2⟩, e1, e2, e3, e4, e5⟩ := cut_12 h1 h2 hb hf
  exact ⟨⟨[], G', g1, g2⟩, e3, e4, Or.inl ⟨by unfold Ww.code; rw [hf, if_neg (by simp)], e1, e2, e5⟩⟩
 ·have ec : S.cut a = S := by unfold Ww.cut; rw [if_pos hf]
  rw [ec]
  refine ⟨⟨Y, G, h1, h2⟩, rfl, rfl, Or.inr ⟨by unfold Ww.code; rw [hf, if_pos rfl], rfl, rfl, ?_⟩⟩
  unfold Ww.full at hf
  have := of_decide_eq_true hf
  have := hb.g1
  omega
end Go.Proofs.YtalgochmjddodaaGreat

namespace Go.Proofs.YtalgochmjddodaaGreat
open Go.RowKit W Kp Stl
structure So0 (a : Wc) (W : Ww) : Prop where
  k : Sok a W.s
  r : W.r = []
  q : W.q = []
theorem So0.start (a : Wc) (n o : Nat) : So0 a (bo0 n o).1 := ⟨Sok.start a n o, rfl, rfl⟩
theorem So0.cut {a : Wc} {W : Ww} (h : So0 a W) (hb : Wbd a W.s) : So0 a (W.cut a) := by
 have h1 := cut_len a W
 rw [h.r, h.q] at h1
 simp only [List.length_nil] at h1
 exact ⟨(strong_cut h.k hb).1, List.eq_nil_of_length_eq_zero (by omega), List.eq_nil_of_length_eq_zero (by omega)⟩
theorem great_strong {a : Wc} {W : Ww} (h : So0 a W) (hb : Wbd a W.s) : (W.jfull a = false -> ∃ G, SlG (W.k5 a) (W.j5 a) G /\ G 0 (W.k5 a, 0)) /\ So0 a (W.gcut a) /\ (W.gcut a).s.M.length <= W.s.M.length /\
  (vwL a.N (W.gcut a).s.y (W.gcut a).s.g (W.gcut a).s.ws (W.gcut a).q (W.gcut a).s.rs).1 = (vwL a.N W.s.y W.s.g W.s.ws W.q W.s.rs).1 /\ (vwL a.N (W.gcut a).s.y (W.gcut a).s.g (W.gcut a).s.ws (W.gcut a).q (W.gcut a).s.rs).2.2 = (vwL a.N W.s.y W.s.g W.s.ws W.q W.s.rs).2.2 /\
  ((W.gcode a = 0 /\ (W.gcut a).s.y = 0 /\ (W.gcut a).s.g = szV (vwL a.N W.s.y W.s.g W.s.ws W.q W.s.rs).2.2 /\ szV (vwL a.N W.s.y W.s.g W.s.ws W.q W.s.rs).2.2 <= a.O) \/ (W.gcode a = 3 /\ (W.gcut a).s.y = W.s.y /\ (W.gcut a).s.g = W.s.g /\ a.O < szV (vwL a.N W.s.y W.s.g W.s.ws W.q W.s.rs).2.2)) := by
 obtain ⟨Y, G, h1, h2⟩ := h.k
 obtain ⟨n1, n2⟩ := great_12 h1 h2 hb h.r h.q
 refine ⟨fun hf => (n2 hf).1, ?_⟩
 cases hf : W.jfull a
 ·obtain ⟨_, g1, g2, g3, j, gc, gal, _⟩ := n2 hf
  obtain ⟨d1, d2, d3, d4⟩ := gc.done h1 h2 hb gal
  obtain ⟨e1, e2⟩ := d4 W.q (W.gcut a).q
  have hn : W.n4 a <= a.O := by
   unfold Ww.jfull at hf
   have := of_decide_eq_false hf
   omega
  refine ⟨⟨⟨[], _, d1, d2⟩, g1, g2⟩, by rw [gc.M]; exact Nat.zero_le _, e1, e2, Or.inl ⟨by unfold Ww.gcode; rw [hf]; rfl, gc.y, by omega, by omega⟩⟩
 ·have hn : (a.O : Int) < W.n4 a := by
   unfold Ww.jfull at hf
   exact of_decide_eq_true hf
  have eG : W.gcut a = W := by unfold Ww.gcut; rw [if_pos hf]
  rw [eG]
  exact ⟨h, Nat.le_refl _, rfl, rfl, Or.inr ⟨by unfold Ww.gcode; rw [if_pos hf], rfl, rfl, by omega⟩⟩
end Go.Proofs.YtalgochmjddodaaGreat

namespace Go.Proofs.YtalgochmjddodaaGreat
open Go.RowKit W Kp Stl
section
variable {k : Jk} {s : Js}
theorem Mg.nw {X : Int -> Prop} (h : Mg k X s) (x : Int) : k.nw s x = x := by
 unfold Jk.nw
 split
 ·rename_i c
  rw [Bool.and_eq_true] at c
  have ht := jt_mem c.1
  have hf : s.f (aV x) ≠ -1 := by simpa using c.2
  have ha : aB x = true := by
   have q := c.1
   unfold Jk.jt at q
   rw [Bool.and_eq_true] at q
   exact q.1
  have h0 : dc x = 0 := by
   have q := ha
   unfold aB at q
   rw [Bool.and_eq_true] at q
   simpa using q.1
  rw [h.self _ ht hf, aV_yes x ha]
  have q := (enc_dec x h0).2
  rw [aB_dk ha] at q
  exact q
 ·rfl
theorem tS_same {t : Js × List En} {r : List En} (h : ∀ e ∈ r, k.al t.1 e.2 = true) : k.tS t r = t := by
 have e : r.filter (fun e => !k.al t.1 e.2) = [] := by
  rw [List.filter_eq_nil_iff]
  intro e he
  rw [h e he]
  simp
 show stS (noSd Js) (fun s x => k.al s.1 x) k.mq t r = t
 unfold stS
 rw [e]
 rfl
end
section
variable {a : Wc} {S : Ww} {Y G : List Int}
theorem r3_alive (hI : JI (S.s.j0 a) js0) : ∀ e ∈ S.r3 a, (S.s.j0 a).al (S.j3 a) e.2 = true := by
 obtain ⟨d1, d2, _⟩ := settled_all (S := S) hI
 intro e he
 have he : e ∈ ((S.r.filter (fun e => (S.s.j0 a).al (S.j2 a).1 e.2)).filter (fun e => (S.s.j0 a).al ((S.s.j0 a).sS (S.j2 a) S.r).1 e.1)).map fun e => ((S.s.j0 a).nw ((S.s.j0 a).sS (S.j2 a) S.r).1 e.1, (S.s.j0 a).nw ((S.s.j0 a).sS (S.j2 a) S.r).1 e.2) := he
 obtain ⟨e0, h1, h2⟩ := List.mem_map.1 he
 have h3 := (List.mem_filter.1 (List.mem_filter.1 h1).1).2
 rw [<- h2]
 have q : (S.s.j0 a).nw (S.j3 a) e0.2 = e0.2 := d1.mg.nw e0.2
 show (S.s.j0 a).al (S.j3 a) ((S.s.j0 a).nw (S.j3 a) e0.2) = true
 rw [q]
 exact al_le d2 h3
structure Gal2 (a : Wc) (s : Wst) (T : List Int) (j : Js) : Prop where
  rt : ∀ i, i < 12 -> aB (s.rs.getD i 0) = true -> aV (s.rs.getD i 0) ∈ T /\ j.f (aV (s.rs.getD i 0)) ≠ -1
  fd : ∀ c ∈ T, j.f c ≠ -1 -> ∀ i, 0 <= i -> i < pf (ld a.N s.y s.g s.ws c) -> aB ((s.j0 a).bkf j c i) = true -> aV ((s.j0 a).bkf j c i) ∈ T /\ j.f (aV ((s.j0 a).bkf j c i)) ≠ -1
theorem Gc.inv {s s' : Wst} {j : Js} (g : Gc a s (G ++ Y) j s') (h : KInv a s Y G) (hb : Wbd a s) (al : Gal2 a s (G ++ Y) j) : KInv a s' [] (j.lf (G ++ Y)) /\ Wbd a s' := by
 obtain ⟨_, _, e3⟩ := j0_lists h.inv.full hb
 have hF := g.full h.inv.full
 have hbd := g.bd
 have hN := hb.n1
 have hO := hb.o1
 have hgo := g.g
 have hsm : ∀ c ∈ (s.j0 a).T, j.f c ≠ -1 -> 0 <= j.f c /\ j.f c < 1000000 := fun c hc hf => by
  rw [e3] at hc
  have := hbd c hc hf
  have := pf_bd (ld a.N s.y s.g s.ws c)
  omega
 have key : ∀ x, (aB x = true -> aV x ∈ G ++ Y /\ j.f (aV x) ≠ -1) -> aB ((s.j0 a).nw j x) = true -> aV ((s.j0 a).nw j x) ∈ j.lf (G ++ Y) := fun x hx ha => by
  obtain ⟨_, q2⟩ := nw_moved (k := s.j0 a) (j := j) (x := x) (fun ha => by rw [e3]; exact hx ha) hsm
  obtain ⟨c, c1, c2, c3⟩ := q2 ha
  rw [e3] at c1
  exact lf_mem.2 ⟨c, c1, c2, c3.symm⟩
 refine ⟨⟨?_, fun v _ i _ _ _ hy => by cases hy⟩, ⟨hb.n0, hb.n1, hb.o1, by rw [g.y]; exact Nat.zero_le _, g.g, g.l, g.rl⟩⟩
 rw [g.y]
 refine ⟨hF, fun x hx ha => ?_, fun v hv i i0 i1 ha => ?_⟩
 ·obtain ⟨i, hi, e⟩ := List.mem_iff_getElem.1 hx
  have e2 : s'.rs.getD i 0 = x := by
   rw [List.getD_eq_getElem?_getD, List.getElem?_eq_getElem hi, e]
   rfl
  have hi12 : i < 12 := by rw [<- g.rl]; exact hi
  rw [<- e2, g.rs i hi12] at ha ⊢
  exact Or.inr (key _ (al.rt i hi12) ha)
 ·obtain ⟨c, c1, c2, c3⟩ := lf_mem.1 (hv.resolve_left (by simp))
  rw [<- c3] at i1 ha ⊢
  rw [g.hd c c1 c2] at i1
  rw [g.fd c c1 c2 i i0 i1] at ha ⊢
  exact Or.inr (key _ (al.fd c c1 c2 i i0 i1) ha)
structure Gin (a : Wc) (S : Ww) (Y G : List Int) (j : Js) : Prop where
  gc : Gc a S.s (G ++ Y) j (S.gcut a).s
  al : Gal2 a S.s (G ++ Y) j
  g : ((S.gcut a).s.g : Int) = S.n4 a
  iff : ∀ c ∈ G ++ Y, j.f c = -1 ↔ (S.j3 a).f c = -1
  j : S.j4 a = j
theorem great_in (h : KInv a S.s Y G) (hb : Wbd a S.s) (hf : S.jfull a = false) : (∃ F, SlG (S.k5 a) (S.j5 a) F /\ F 0 (S.k5 a, 0)) /\ Gin a S Y G (S.j4 a) /\ S.j5 a = S.j4 a := by
 have hI : JI (S.s.j0 a) js0 := JI.start hb.n1 hb.o1 hb.y1 hb.g1
 obtain ⟨d1, d2, d3⟩ := settled_all (S := S) hI
 obtain ⟨l1, l2, l3⟩ := j0_lists h.inv.full hb
 have hm : ((S.s.j0 a).pl (S.j3 a)).2 <= a.N + a.O := by
  unfold Ww.jfull at hf
  have := of_decide_eq_false hf
  unfold Ww.n4 at this
  omega
 obtain ⟨g1, g2, g3, g4⟩ := gc_done h.inv.full hb (S.j3 a) hm
 have e4 : ((S.s.j0 a).pl (S.j3 a)).1 = S.j4 a := rfl
 rw [e4] at g1 g2 g3 g4
 have e6 : (S.s.j0 a).tlA (S.j4 a) = S.k5 a := rfl
 rw [e6] at g1 g2 g4
 have hT5 : (S.k5 a).T = (S.s.j0 a).T := by
  obtain ⟨_, t2, t3, _⟩ := tlA_ld (s := S.j4 a) (k := S.s.j0 a) ⟨hb.l1, hb.y1, hb.g1⟩ hb.r1 hI.nd (j0_whl h.inv.full hb) (j0_ap h.inv.full hb)
  rw [e6] at t2 t3
  unfold Jk.T
  rw [t2, t3]
 have hjl : ∀ x, (S.s.j0 a).jl (S.j4 a) x = (S.s.j0 a).jl (S.j3 a) x := fun x => by
  cases hj : (S.s.j0 a).jt x
  ·unfold Jk.jl
   rw [hj]
   rfl
  ·have hmem := jt_mem hj
   rw [l3] at hmem
   have q := g3 _ hmem
   unfold Jk.jl
   rw [hj, Bool.true_and, Bool.true_and]
   by_cases c : (S.j3 a).f (aV x) = -1
   ·rw [c, q.2 c]
   ·rw [beq_false_of_ne c, beq_false_of_ne (fun d => c (q.1 d))]
 have e5 : S.j5 a = S.j4 a := by
  have q : (S.k5 a).tS (S.j4 a, S.q3 a) (S.r3 a) = (S.j4 a, S.q3 a) := tS_same (fun e he => by
   have q1 := r3_alive (S := S) hI e he
   unfold Jk.al at q1 ⊢
   have q2 : (S.k5 a).jl (S.j4 a) e.2 = (S.s.j0 a).jl (S.j4 a) e.2 := by
    unfold Jk.jl Jk.jt
    rw [hT5]
   dsimp only
   rw [q2, hjl]
   exact q1)
  unfold Ww.j5
  rw [q]
 have e7 : (S.k5 a).sl (S.j4 a) = S.k6 a := by unfold Ww.k6; rw [e5]
 rw [e7] at g1 g2
 have eS : (S.gcut a).s = (S.k6 a).s := by unfold Ww.gcut; rw [hf, if_neg (by simp)]
 have notlost : ∀ x, aB x = true -> aV x ∈ G ++ Y -> (S.s.j0 a).jl (S.j3 a) x = false -> (S.j4 a).f (aV x) ≠ -1 := fun x ha hm hj => by
  have hjt : (S.s.j0 a).jt x = true := by
   unfold Jk.jt
   rw [ha, l3, List.contains_iff_mem.2 hm]
   rfl
  rw [Jk.jl_no hjt] at hj
  exact fun e => hj ((g3 _ hm).1 e)
 rw [e5]
 refine ⟨g4, ⟨by rw [eS]; exact g1, ⟨fun i hi ha => ?_, fun c hc hfc i i0 i1 ha => ?_⟩, by rw [eS]; exact g2, g3, rfl⟩, rfl⟩
 ·have hgd : S.s.rs.getD i 0 ∈ S.s.rs := by
   rw [List.getD_eq_getElem?_getD, List.getElem?_eq_getElem (by rw [hb.r1]; exact hi)]
   exact List.getElem_mem _
  have hm1 : aV (S.s.rs.getD i 0) ∈ G ++ Y := List.mem_append.2 (h.inv.rt _ hgd ha).symm
  exact ⟨hm1, notlost _ ha hm1 (d3 i hi)⟩
 ·have hw := j0_whl h.inv.full hb c (by rw [l3]; exact hc)
  have hp0 : pc (ld a.N S.s.y S.s.g S.s.ws c) = 0 := hw.c
  have hcT : c ∈ (S.s.j0 a).T := by rw [l3]; exact hc
  have hf3 : (S.j3 a).f c ≠ -1 := fun e => hfc ((g3 c hc).2 e)
  have hM : Mgk (S.s.j0 a) (S.j3 a) c := by
   rcases d1.mg.cmp c hcT hf3 with q | q | q
   ·rw [d1.td] at q
    cases q
   ·exact absurd q id
   ·exact q
  have mem : ∀ i, 0 <= i -> i < pf (ld a.N S.s.y S.s.g S.s.ws c) -> aB (ld a.N S.s.y S.s.g S.s.ws (c + 1 + i)) = true -> aV (ld a.N S.s.y S.s.g S.s.ws (c + 1 + i)) ∈ G ++ Y := fun i i0 i1 ha => List.mem_append.2 (h.inv.fd c (List.mem_append.1 hc).symm i i0 i1 ha).symm
  unfold Jk.bkf at ha ⊢
  rw [hjl] at ha ⊢
  by_cases cb : ((pk ((S.s.j0 a).ld c) = 3 \/ pk ((S.s.j0 a).ld c) = 4) /\ (S.s.j0 a).jl (S.j3 a) ((S.s.j0 a).ld (c + 1)) = true) /\ (i = 0 \/ (pk ((S.s.j0 a).ld c) = 4 /\ i = 1))
  ·rw [if_pos cb] at ha
   exact absurd ha (by decide)
  ·rw [if_neg cb] at ha ⊢
   have ha : aB (ld a.N S.s.y S.s.g S.s.ws (c + 1 + i)) = true := ha
   have hm1 := mem i i0 i1 ha
   refine ⟨hm1, notlost _ ha hm1 ?_⟩
   show (S.s.j0 a).jl (S.j3 a) ((S.s.j0 a).ld (c + 1 + i)) = false
   by_cases k12 : pk ((S.s.j0 a).ld c) = 1 \/ pk ((S.s.j0 a).ld c) = 2
   ·have q := hM.p k12 i.toNat (by show (i.toNat : Int) < pf (ld a.N S.s.y S.s.g S.s.ws c); omega)
    rwa [show ((i.toNat : Nat) : Int) = i from by omega] at q
   ·by_cases k3 : pk ((S.s.j0 a).ld c) = 3
    ·have f2 := pf_two hp0 (Or.inr (Or.inl k3))
     by_cases z : i = 0
     ·cases hl : (S.s.j0 a).jl (S.j3 a) ((S.s.j0 a).ld (c + 1))
      ·rw [z, Int.add_zero]
       exact hl
      ·exact absurd ⟨⟨Or.inl k3, hl⟩, Or.inl z⟩ cb
     ·have o : i = 1 := by omega
      rw [o, show c + 1 + 1 = c + 2 from by omega]
      exact hM.w k3
    ·by_cases k4 : pk ((S.s.j0 a).ld c) = 4
     ·have f2 := pf_two hp0 (Or.inr (Or.inr k4))
      have hkey : (S.s.j0 a).jl (S.j3 a) ((S.s.j0 a).ld (c + 1)) = false := by
       cases hl : (S.s.j0 a).jl (S.j3 a) ((S.s.j0 a).ld (c + 1))
       ·rfl
       ·exact absurd ⟨⟨Or.inr k4, hl⟩, by omega⟩ cb
      by_cases z : i = 0
      ·rw [z, Int.add_zero]
       exact hkey
      ·have o : i = 1 := by omega
       rw [o, show c + 1 + 1 = c + 2 from by omega]
       rcases hM.e k4 with q | q
       ·rw [d1.ep c q] at hkey
        cases hkey
       ·exact q
     ·exfalso
      have q1 := pk_all hp0
      have q2 : pf (ld a.N S.s.y S.s.g S.s.ws c) = 0 := by
       have q3 : pk (ld a.N S.s.y S.s.g S.s.ws c) ≠ 1 /\ pk (ld a.N S.s.y S.s.g S.s.ws c) ≠ 2 /\ pk (ld a.N S.s.y S.s.g S.s.ws c) ≠ 3 /\ pk (ld a.N S.s.y S.s.g S.s.ws c) ≠ 4 := ⟨fun e => k12 (Or.inl e), fun e => k12 (Or.inr e), k3, k4⟩
       omega
      omega
theorem gcut_len (a : Wc) (S : Ww) : (S.gcut a).r.length + (S.gcut a).q.length <= S.r.length + S.q.length := by
 unfold Ww.gcut
 split
 ·exact Nat.le_refl _
 ·have h1 := st_len (noSd Js) (fun s x => (S.s.j0 a).al s.1 x) (S.s.j0 a).ke (fun s x => (S.s.j0 a).nw s.1 x) (fun s x => keJ_len (S.s.j0 a) s x) (S.j2 a) S.r
  have h2 : (S.j2 a).2.length = S.q.length := sprJ_len _ _ _
  have h3 : (noSd Js).wt (S.j2 a) = (S.j2 a).2 := rfl
  have h4 : (S.r3 a).length + (S.q3 a).length <= S.r.length + (S.j2 a).2.length := h1
  have h5 := st_len (noSd Js) (fun s x => (S.k5 a).al s.1 x) (S.k5 a).mq (fun s x => (S.k5 a).nw s.1 x) (fun _ _ => rfl) (S.j4 a, S.q3 a) (S.r3 a)
  have h6 : ((S.k5 a).tR (S.j4 a, S.q3 a) (S.r3 a)).length + ((S.k5 a).tQ (S.j4 a, S.q3 a) (S.r3 a)).length <= (S.r3 a).length + (S.q3 a).length := h5
  dsimp only
  omega
theorem KInv.gcut (h : KInv a S.s Y G) (hb : Wbd a S.s) : (S.jfull a = false -> ∃ F, SlG (S.k5 a) (S.j5 a) F /\ F 0 (S.k5 a, 0)) /\ (∃ Y' G', KInv a (S.gcut a).s Y' G') /\ (S.gcut a).s.M.length <= S.s.M.length := by
 refine ⟨fun hf => (great_in h hb hf).1, ?_⟩
 cases hf : S.jfull a
 ·obtain ⟨_, g, _⟩ := great_in h hb hf
  obtain ⟨i1, _⟩ := g.gc.inv h hb g.al
  exact ⟨⟨[], _, i1⟩, by rw [g.gc.M]; exact Nat.zero_le _⟩
 ·have eG : S.gcut a = S := by unfold Ww.gcut; rw [if_pos hf]
  rw [eG]
  exact ⟨⟨Y, G, h⟩, Nat.le_refl _⟩
end
end Go.Proofs.YtalgochmjddodaaGreat

namespace Go.Proofs.YtalgochmjddodaaGreat
open Go.RowKit W Kp Stl
section
variable {k : Jk} {C : Int -> Prop} {s : Js}
end
end Go.Proofs.YtalgochmjddodaaGreat

namespace Go.Proofs.YtalgochmjddodaaGreat
open Go.RowKit W Kp Stl
section
variable {k : Jk}
end
def Eok (k : Jk) (l : List En) : Prop := ∀ e ∈ l, k.jt e.1 = true /\ k.jt e.2 = true
section
variable {a : Wc} {S : Ww} {Y G : List Int}
theorem q5_of (h : KInv a S.s Y G) (hb : Wbd a S.s) (hf : S.jfull a = false) : (S.gcut a).q = (((S.s.j0 a).sS (S.j2 a) S.r).2.filter (fun e => (S.s.j0 a).al (S.j3 a) e.1)).map (fun e => ((S.s.j0 a).nw (S.j4 a) e.1, (S.s.j0 a).nw (S.j4 a) e.2)) := by
 have hI : JI (S.s.j0 a) js0 := JI.start hb.n1 hb.o1 hb.y1 hb.g1
 obtain ⟨d1, d2, d3⟩ := settled_all (S := S) hI
 obtain ⟨_, l2, l3⟩ := j0_lists h.inv.full hb
 obtain ⟨_, g, e5⟩ := great_in h hb hf
 obtain ⟨_, t2, t3, _⟩ := tlA_ld (s := S.j4 a) (k := S.s.j0 a) ⟨hb.l1, hb.y1, hb.g1⟩ hb.r1 hI.nd (j0_whl h.inv.full hb) (j0_ap h.inv.full hb)
 have t2 : (S.k5 a).Y = (S.s.j0 a).Y := t2
 have t3 : (S.k5 a).G = (S.s.j0 a).G := t3
 have hT5 : (S.k5 a).T = (S.s.j0 a).T := by unfold Jk.T; rw [t2, t3]
 have hjl : ∀ x, (S.k5 a).al (S.j4 a) x = (S.s.j0 a).al (S.j3 a) x := fun x => by
  have q0 : (S.k5 a).jl (S.j4 a) x = (S.s.j0 a).jl (S.j4 a) x := by
   unfold Jk.jl Jk.jt
   rw [hT5]
  unfold Jk.al
  rw [q0]
  cases hj : (S.s.j0 a).jt x
  ·unfold Jk.jl
   rw [hj]
   rfl
  ·have hmem := jt_mem hj
   rw [l3] at hmem
   have q := g.iff _ hmem
   unfold Jk.jl
   rw [hj, Bool.true_and, Bool.true_and]
   by_cases c : (S.j3 a).f (aV x) = -1
   ·rw [c, q.2 c]
   ·rw [beq_false_of_ne c, beq_false_of_ne (fun d => c (q.1 d))]
 have q3 : S.q3 a = ((S.s.j0 a).sS (S.j2 a) S.r).2.filter (fun e => (S.s.j0 a).al (S.j3 a) e.1) := by
  show ((((S.s.j0 a).sS (S.j2 a) S.r).2.filter (fun e => (S.s.j0 a).al (S.j3 a) e.1)).map fun e => ((S.s.j0 a).nw (S.j3 a) e.1, (S.s.j0 a).nw (S.j3 a) e.2)) = _
  have : (fun e : En => ((S.s.j0 a).nw (S.j3 a) e.1, (S.s.j0 a).nw (S.j3 a) e.2)) = id := by
   funext e
   rw [d1.mg.nw, d1.mg.nw]
   rfl
  rw [this, List.map_id]
 have eS : (S.k5 a).tS (S.j4 a, S.q3 a) (S.r3 a) = (S.j4 a, S.q3 a) := tS_same (fun e he => by
  show (S.k5 a).al (S.j4 a) e.2 = true
  rw [hjl]
  exact r3_alive (S := S) hI e he)
 unfold Ww.gcut
 rw [hf, if_neg (by simp)]
 show stQ (noSd Js) (fun s x => (S.k5 a).al s.1 x) (S.k5 a).mq (fun s x => (S.k5 a).nw s.1 x) (S.j4 a, S.q3 a) (S.r3 a) = _
 unfold stQ
 have e : stS (noSd Js) (fun s x => (S.k5 a).al s.1 x) (S.k5 a).mq (S.j4 a, S.q3 a) (S.r3 a) = (S.j4 a, S.q3 a) := eS
 rw [e]
 show ((S.q3 a).filter (fun e => (S.k5 a).al (S.j4 a) e.1)).map (fun e => ((S.k5 a).nw (S.j4 a) e.1, (S.k5 a).nw (S.j4 a) e.2)) = _
 have e1 : (S.q3 a).filter (fun e => (S.k5 a).al (S.j4 a) e.1) = S.q3 a := List.filter_eq_self.2 (fun e he => by
  rw [hjl]
  rw [q3] at he
  exact (List.mem_filter.1 he).2)
 rw [e1, q3]
 refine List.map_congr_left (fun e _ => ?_)
 rw [Jk.nw_of (k := S.k5 a) (k0 := S.s.j0 a) _ _ t2 t3, Jk.nw_of (k := S.k5 a) (k0 := S.s.j0 a) _ _ t2 t3]
end
end Go.Proofs.YtalgochmjddodaaGreat

namespace Go.Proofs.YtalgochmjddodaaGreat
open Go.RowKit W Kp Stl
theorem nw_to {k : Jk} {j : Js} {x : Int} (hj : k.jt x = true) (hf : j.f (aV x) ≠ -1) (hb : 0 <= j.f (aV x) /\ j.f (aV x) < 1000000) : k.nw j x = ew 3 (j.f (aV x)) /\ aB (k.nw j x) = true /\ aV (k.nw j x) = j.f (aV x) := by
 have e : k.nw j x = ew 3 (j.f (aV x)) := by
  unfold Jk.nw
  rw [hj, beq_false_of_ne hf]
  rfl
 obtain ⟨n, hn⟩ : ∃ n : Nat, j.f (aV x) = n := ⟨(j.f (aV x)).toNat, by omega⟩
 obtain ⟨w1, w2⟩ := ew_at n (by omega)
 rw [e, hn]
 exact ⟨rfl, w1, w2⟩
section
variable {a : Wc} {S : Ww} {Y G : List Int}
end
end Go.Proofs.YtalgochmjddodaaGreat

namespace Go.Proofs.YtalgochmjddodaaGreat
open Go.RowKit W Kp Stl
section
variable {a : Wc} {S : Ww} {G : List Int}
end
end Go.Proofs.YtalgochmjddodaaGreat

namespace Go.Proofs.YtalgochmjddodaaGreat
open Go.RowKit W Kp Stl
def Eo (a : Wc) (W : Ww) : Prop := ∀ e, (e ∈ W.r \/ e ∈ W.q) -> tB a.N W.s.y W.s.g W.s.ws e.1 = true /\ tB a.N W.s.y W.s.g W.s.ws e.2 = true
section
variable {a : Wc} {S : Ww} {Y G : List Int}
theorem tB_iff {N O y g : Nat} {ws Y G : List Int} (h : Full2 N y g ws Y G) (hN : N <= 256) (hy : y <= N) (hO : O <= 1024) (hg : g <= O) {x : Int} : tB N y g ws x = true ↔ aB x = true /\ (aV x ∈ Y \/ aV x ∈ G) := by
 refine ⟨tB_mem (O := O) h hN hy hO hg, fun ⟨h1, h2⟩ => ?_⟩
 obtain ⟨e1, e2⟩ := h.lists (O := O) hN hy hO hg
 unfold tB
 rw [h1, e1, e2]
 rcases h2 with q | q
 ·rw [List.contains_iff_mem.2 q]
  rfl
 ·rw [List.contains_iff_mem.2 q, Bool.or_true]
  rfl
theorem jt_tB (h : KInv a S.s Y G) (hb : Wbd a S.s) {x : Int} : (S.s.j0 a).jt x = true ↔ tB a.N S.s.y S.s.g S.s.ws x = true := by
 obtain ⟨_, _, l3⟩ := j0_lists h.inv.full hb
 rw [tB_iff (O := a.O) h.inv.full hb.n1 hb.y1 hb.o1 hb.g1]
 unfold Jk.jt
 rw [l3, Bool.and_eq_true]
 constructor
 ·rintro ⟨h1, h2⟩
  exact ⟨h1, (List.mem_append.1 (List.contains_iff_mem.1 h2)).symm⟩
 ·rintro ⟨h1, h2⟩
  exact ⟨h1, List.contains_iff_mem.2 (List.mem_append.2 h2.symm)⟩
theorem Eo.ok (h : Eo a S) (hk : KInv a S.s Y G) (hb : Wbd a S.s) : Eok (S.s.j0 a) S.r /\ Eok (S.s.j0 a) S.q :=
 ⟨fun e he => ⟨(jt_tB hk hb).2 (h e (Or.inl he)).1, (jt_tB hk hb).2 (h e (Or.inl he)).2⟩, fun e he => ⟨(jt_tB hk hb).2 (h e (Or.inr he)).1, (jt_tB hk hb).2 (h e (Or.inr he)).2⟩⟩
theorem waits_ok (hI : JI (S.s.j0 a) js0) (hr : Eok (S.s.j0 a) S.r) (hq : Eok (S.s.j0 a) S.q) : ∀ e ∈ ((S.s.j0 a).sS (S.j2 a) S.r).2, (S.s.j0 a).jt e.1 = true /\ (S.s.j0 a).jt e.2 = true := by
 obtain ⟨h1, _, _⟩ := (Mg.start (X := fun _ => False) hI).kr 12
 obtain ⟨dd1, _, dd3⟩ := Mg.sp (t := ((S.s.j0 a).kr js0 12, S.q)) h1
 have dd3 : (S.j2 a).2 = S.q := dd3
 have dd1 : Dn (S.s.j0 a) (S.j2 a).1 (S.j2 a).2 := dd1
 have key : ∀ (n : Nat) (t : Js × List En) (d : List En), Dn (S.s.j0 a) t.1 t.2 -> Eok (S.s.j0 a) t.2 -> Eok (S.s.j0 a) d -> Eok (S.s.j0 a) (trn (S.s.j0 a).cmJ n t d).1.2 := fun n => by
  have pl : ∀ (l : List En) (u : List En × List En × (Js × List En)), Dn (S.s.j0 a) u.2.2.1 u.2.2.2 -> Eok (S.s.j0 a) u.2.2.2 -> Eok (S.s.j0 a) l -> Eok (S.s.j0 a) (l.foldl (pstep (S.s.j0 a).cmJ) u).2.2.2 := fun l => by
   induction l with
   | nil => intro u _ hu _; exact hu
   | cons e l ih =>
    intro u du hu hl
    rw [List.foldl_cons]
    have kk : (pstep (S.s.j0 a).cmJ u e).2.2 = ((S.s.j0 a).cmJ u.2.2 e).2 := by
     unfold pstep
     split <;> rfl
    have dc := (du.cm e).1
    refine ih _ (by rw [kk]; exact dc) ?_ (fun b hb => hl b (List.mem_cons_of_mem _ hb))
    rw [kk]
    cases c : (S.s.j0 a).al u.2.2.1 e.1
    ·have e1 : (S.s.j0 a).cmJ u.2.2 e = (false, u.2.2) := cm_no (o := noSd Js) (is := fun s x => (S.s.j0 a).al s.1 x) (kp := (S.s.j0 a).ke) (s := u.2.2) (e := e) c
     rw [e1]
     exact hu
    ·obtain ⟨_, _, h3, _⟩ := du.mg.ke e.2
     have e1 : (S.s.j0 a).cmJ u.2.2 e = (true, (((S.s.j0 a).ke u.2.2 e.2).2.1, u.2.2.2 ++ [e])) := by
      refine (cm_yes (o := noSd Js) (is := fun s x => (S.s.j0 a).al s.1 x) (kp := (S.s.j0 a).ke) (s := u.2.2) (e := e) c).trans ?_
      show (true, (((S.s.j0 a).ke u.2.2 e.2).2.1, ((S.s.j0 a).ke u.2.2 e.2).2.2 ++ [(e.1, e.2)])) = _
      rw [h3]
     rw [e1]
     intro b hb
     rcases List.mem_append.1 hb with hb | hb
     ·exact hu b hb
     ·rw [List.mem_singleton.1 hb]
      exact hl e (by simp)
  induction n with
  | zero => intro t d _ ht _; exact ht
  | succ n ih =>
   intro t d dt ht hd
   have p1 : Eok (S.s.j0 a) (pts (S.s.j0 a).cmJ t d).2.2.2 := pl d ([], [], t) dt ht hd
   by_cases c : (pts (S.s.j0 a).cmJ t d).1.length = 0
   ·rw [trn_stop _ _ _ _ c]
    exact p1
   ·rw [trn_go _ _ _ _ c]
    exact ih _ _ (Dn.pl d ([], [], t) dt).1 p1 (fun e he => hd e (pts_mem _ t d e (Or.inr he)))
 exact key _ (S.j2 a) _ dd1 (by rw [dd3]; exact hq) (fun e he => hr e (List.mem_filter.1 he).1)
theorem Eo.gcut (h : Eo a S) (hk : KInv a S.s Y G) (hb : Wbd a S.s) : Eo a (S.gcut a) := by
 cases hf : S.jfull a
 ·have hI : JI (S.s.j0 a) js0 := JI.start hb.n1 hb.o1 hb.y1 hb.g1
  obtain ⟨hr, hq⟩ := h.ok hk hb
  obtain ⟨d1, d2, _⟩ := settled_all (S := S) hI
  obtain ⟨_, _, l3⟩ := j0_lists hk.inv.full hb
  obtain ⟨_, g, e5⟩ := great_in hk hb hf
  obtain ⟨K1, B1⟩ := g.gc.inv hk hb g.al
  have hq3 := waits_ok (S := S) hI hr hq
  have hN := hb.n1
  have hO := hb.o1
  have hgo := g.gc.g
  have bnd : ∀ c ∈ G ++ Y, (S.j4 a).f c ≠ -1 -> 0 <= (S.j4 a).f c /\ (S.j4 a).f c < 1000000 := fun c hc hfc => by
   have q1 := g.gc.bd c hc hfc
   have q2 := pf_bd (ld a.N S.s.y S.s.g S.s.ws c)
   omega
  have alf : ∀ x, (S.s.j0 a).jt x = true -> (S.s.j0 a).al (S.j3 a) x = true -> (S.j4 a).f (aV x) ≠ -1 := fun x hj ha q => by
   have hm := jt_mem hj
   rw [l3] at hm
   unfold Jk.al at ha
   have q2 : (S.s.j0 a).jl (S.j3 a) x = false := by simpa using ha
   exact (Jk.jl_no hj).1 q2 ((g.iff _ hm).1 q)
  have key : ∀ x, (S.s.j0 a).jt x = true -> (S.s.j0 a).al (S.j3 a) x = true -> tB a.N (S.gcut a).s.y (S.gcut a).s.g (S.gcut a).s.ws ((S.s.j0 a).nw (S.j4 a) x) = true := fun x hj ha => by
   have hm := jt_mem hj
   rw [l3] at hm
   have hfx := alf x hj ha
   obtain ⟨_, q2, q3⟩ := nw_to hj hfx (bnd _ hm hfx)
   refine (tB_iff (O := a.O) K1.inv.full B1.n1 B1.y1 B1.o1 B1.g1).2 ⟨q2, Or.inr ?_⟩
   rw [q3]
   exact lf_mem.2 ⟨_, hm, hfx, rfl⟩
  obtain ⟨_, t2, t3, _⟩ := tlA_ld (s := S.j4 a) (k := S.s.j0 a) ⟨hb.l1, hb.y1, hb.g1⟩ hb.r1 hI.nd (j0_whl hk.inv.full hb) (j0_ap hk.inv.full hb)
  have t2 : (S.k5 a).Y = (S.s.j0 a).Y := t2
  have t3 : (S.k5 a).G = (S.s.j0 a).G := t3
  intro e he
  rcases he with he | he
  ·have eG : (S.gcut a).r = (S.k5 a).tR (S.j4 a, S.q3 a) (S.r3 a) := by unfold Ww.gcut; rw [hf, if_neg (by simp)]
   rw [eG] at he
   have he : e ∈ (((S.r3 a).filter (fun e => (S.k5 a).al (S.j4 a) e.2)).filter (fun e => (S.k5 a).al ((S.k5 a).tS (S.j4 a, S.q3 a) (S.r3 a)).1 e.1)).map fun e => ((S.k5 a).nw ((S.k5 a).tS (S.j4 a, S.q3 a) (S.r3 a)).1 e.1, (S.k5 a).nw ((S.k5 a).tS (S.j4 a, S.q3 a) (S.r3 a)).1 e.2) := he
   have e5 : ((S.k5 a).tS (S.j4 a, S.q3 a) (S.r3 a)).1 = S.j4 a := e5
   rw [e5] at he
   obtain ⟨e0, h1, h2⟩ := List.mem_map.1 he
   have h3 := (List.mem_filter.1 (List.mem_filter.1 h1).1).1
   have h3 : e0 ∈ ((S.r.filter (fun e => (S.s.j0 a).al (S.j2 a).1 e.2)).filter (fun e => (S.s.j0 a).al (S.j3 a) e.1)).map fun e => ((S.s.j0 a).nw (S.j3 a) e.1, (S.s.j0 a).nw (S.j3 a) e.2) := h3
   obtain ⟨e1, h4, h5⟩ := List.mem_map.1 h3
   obtain ⟨h6, h7⟩ := List.mem_filter.1 h4
   obtain ⟨h8, h9⟩ := List.mem_filter.1 h6
   rw [d1.mg.nw, d1.mg.nw] at h5
   have h5 : e1 = e0 := h5
   rw [h5] at h7 h8 h9
   obtain ⟨q1, q2⟩ := hr e0 h8
   rw [<- h2, Jk.nw_of (k := S.k5 a) (k0 := S.s.j0 a) _ _ t2 t3, Jk.nw_of (k := S.k5 a) (k0 := S.s.j0 a) _ _ t2 t3]
   exact ⟨key _ q1 h7, key _ q2 (al_le d2 h9)⟩
  ·rw [q5_of hk hb hf] at he
   obtain ⟨e0, h1, h2⟩ := List.mem_map.1 he
   obtain ⟨h3, h4⟩ := List.mem_filter.1 h1
   obtain ⟨q1, q2⟩ := hq3 e0 h3
   rw [<- h2]
   refine ⟨key _ q1 h4, key _ q2 ?_⟩
   rcases d1.wq e0 h3 with q | q
   ·exact q
   ·have h4 : (S.s.j0 a).al (S.j3 a) e0.1 = true := h4
    rw [h4] at q
    cases q
 ·have eG : S.gcut a = S := by unfold Ww.gcut; rw [if_pos hf]
  rw [eG]
  exact h
theorem Eo.more {W : Ww} {s' : Wst} {Y' G' : List Int} (h : Eo a W) (hk : KInv a W.s Y G) (hb : Wbd a W.s) (hF : Full2 a.N s'.y s'.g s'.ws Y' G') (hy : s'.y <= a.N) (hg : s'.g <= a.O) (hs : ∀ v, (v ∈ Y \/ v ∈ G) -> (v ∈ Y' \/ v ∈ G')) : Eo a ⟨s', W.r, W.q⟩ := fun e he => by
 have key : ∀ x, tB a.N W.s.y W.s.g W.s.ws x = true -> tB a.N s'.y s'.g s'.ws x = true := fun x hx => by
  obtain ⟨q1, q2⟩ := (tB_iff (O := a.O) hk.inv.full hb.n1 hb.y1 hb.o1 hb.g1).1 hx
  exact (tB_iff (O := a.O) hF hb.n1 hy hb.o1 hg).2 ⟨q1, hs _ q2⟩
 obtain ⟨q1, q2⟩ := h e he
 exact ⟨key _ q1, key _ q2⟩
end
end Go.Proofs.YtalgochmjddodaaGreat
