/- Joined: Db1, Wv3, Wv4, Db2, Db3, Ws16, Ws17, Mx2, OpenC, Ref, Ref2, Rm. -/
import Derived.Test.YtnalfnlmaallmaaGreatJ50
import Derived.Test.YtnalfnlmaallmaaGreatJ45
import Derived.Test.YtnalfnlmaallmaaGreatGr7
import Derived.Test.YtnalfnlmaallmaaGreatJ23
import Derived.Test.YtnalfnlmaallmaaGreatJ03
import Derived.Test.YtnalfnlmaallmaaGreatJ44
import Derived.Test.YtnalfnlmaallmaaGreatJ40
import Derived.Test.YtnalfnlmaallmaaGreatJ04
import Derived.Lib.SmallJoins
import Derived.Test.YtnalfnlmaallmaaGreatJ01
namespace Go.Proofs.YtnalfnlmaallmaaGreat
open Go.RowKit W Kp Stl
theorem gok_ex {T : List Tw1} {wt : List En} (hW : Wiv T wt) : ∃ g, Gok T wt g := by
 classical
 refine ⟨fun is => (List.range is.length).map (fun i => decide (∀ X : Nat -> Prop, Cls T wt X -> (∀ k, Ls_ is k -> X k) -> X i)), fun is hl hal => ?_⟩
 have key : ∀ i, Ls_ ((List.range is.length).map (fun i => decide (∀ X : Nat -> Prop, Cls T wt X -> (∀ k, Ls_ is k -> X k) -> X i))) i ↔ i < is.length /\ ∀ X : Nat -> Prop, Cls T wt X -> (∀ k, Ls_ is k -> X k) -> X i := by
  intro i
  unfold Ls_
  by_cases hi : i < is.length
  ·rw [getD_mapr (fun i => decide (∀ X : Nat -> Prop, Cls T wt X -> (∀ k, is.getD k false = true -> X k) -> X i)) (List.range is.length) i 0 false (by simpa using hi)]
   have e : (List.range is.length).getD i 0 = i := by
    rw [List.getD_eq_getElem?_getD, List.getElem?_range hi]
    rfl
   rw [e]
   simp [hi]
  ·rw [List.getD_eq_getElem?_getD, List.getElem?_eq_none (by simpa using hi)]
   simp [hi]
 refine ⟨by simp, fun i hi => (key i).2 ⟨?_, fun X _ hX => hX i hi⟩, fun i hi hx v hv h3 => ?_, fun X hX hs i hi => ((key i).1 hi).2 X hX hs⟩
 ·unfold Ls_ at hi
  by_cases h : i < is.length
  ·exact h
  ·rw [List.getD_eq_getElem?_getD, List.getElem?_eq_none (by omega)] at hi
   cases hi
 ·have k2 : ∀ X : Nat -> Prop, Cls T wt X -> (∀ k, Ls_ is k -> X k) -> X v.2.toNat := fun X hX hs => hX i hi (((key i).1 hx).2 X hX hs) v (hv.mono (fun k hk => ((key k).1 hk).2 X hX hs)) h3
  exact (key _).2 ⟨by rw [hl]; exact (k2 (Alv T) hW.cls hal).1, k2⟩
structure Dok (c : Bc) (S : Ww × Wrs) (j : Nat) : Prop where
  rl : ∃ m Y G, Rl c.a S.1 S.2 m Y G
  m : S.1.s.M.length <= j
  rq : S.1.r.length + S.1.q.length <= j
  t : S.2.T.length <= j
section
variable {c : Bc} {F : Nat -> Prop} {S : Ww × Wrs} {w : World} {j : Nat}
theorem Dok.lens (h : Dok c S j) : S.2.rg.length + S.2.wt.length <= j := by
 obtain ⟨m, Y, G, hR⟩ := h.rl
 have h1 := h.rq
 rw [hR.rg, hR.wt, List.length_map, List.length_map] at h1
 exact h1
theorem Dok.t12 (h : Dok c S j) : ∀ t ∈ S.2.T, t.2.1.length <= 12 := fun t ht => by
 obtain ⟨m, Y, G, hR⟩ := h.rl
 obtain ⟨i, hi, e⟩ := List.mem_iff_getElem.1 ht
 have := hR.tl i
 rw [List.getD_eq_getElem?_getD, List.getElem?_eq_getElem hi, e] at this
 exact this
theorem Dok.rb (h : Dok c S j) (hj : j <= 10000) : RB S.2 := by
 have h1 := h.lens
 have h2 := h.t
 have h3 := h.t12
 obtain ⟨m, Y, G, hR⟩ := h.rl
 refine ⟨fun i hi h0 => ?_, h3, by omega, by omega, by omega⟩
 have hv := (hR.root hi).2
 unfold Wrs.th at h0 ⊢
 split at h0
 ·rename_i e
  have e3 : (S.2.rs.getD i (0, 0)).1 = 3 := by simpa using e
  obtain ⟨q0, q1⟩ := hv.t e3
  have := q1.1
  simp only [e3] at *
  split
  ·omega
  ·omega
 ·omega
theorem Dok.wcv (h : Dok c S j) (hj : j <= 1000) : Wcv S.2 := by
 have h1 := h.lens
 have h2 := h.t
 obtain ⟨m, Y, G, hR⟩ := h.rl
 exact hR.wcv (by omega) (by omega) (by omega)
theorem Dok.gok (h : Dok c S j) : ∃ g, Gok S.2.T S.2.wt g := by
 obtain ⟨m, Y, G, hR⟩ := h.rl
 exact gok_ex hR.iv
theorem Dok.start (c : Bc) (n o : Nat) : Dok c (bo0 n o) 0 := ⟨⟨_, _, _, Rl.start c.a n o⟩, Nat.le_refl _, Nat.le_refl _, Nat.le_refl _⟩
theorem doS_T (c : Bc) (S : Ww × Wrs) (d A B C : Int) : (doS c S d A B C).2.T.length <= S.2.T.length + 1 := by
 unfold doS
 split
 ·show (S.2.fr c.most (rtN C) A B).T.length <= _
  unfold Wrs.fr
  split <;> simp
 split
 ·unfold boS
  dsimp only
  split <;> simp [Wrs.sT]
 split
 ·unfold boG
  dsimp only
  split <;> simp
 split
 ·unfold boI
  dsimp only
  split <;> simp
 split
 ·simp
 split
 ·unfold boR
  dsimp only
  split <;> simp
 ·omega
theorem Dok.do (h : Dok c S j) (hb : Wbd c.a S.1.s) (hm : c.most = c.a.N) (d A B C : Int) : doB c S d A B C = true /\ Dok c (doS c S d A B C) (j + 1) := by
 obtain ⟨m, Y, G, hR⟩ := h.rl
 obtain ⟨e, m', Y', hR'⟩ := hR.do hb hm d A B C
 obtain ⟨l1, l2⟩ := doS_len c S d A B C
 have l3 := doS_T c S d A B C
 have e1 := h.m
 have e2 := h.rq
 have e3 := h.t
 exact ⟨e, ⟨m', Y', G, hR'⟩, by omega, by omega, by omega⟩
theorem cutT_len (g : List Bool -> List Bool) (s : Wrs) (grow : Int) (mj : Bool) : (s.cut g grow mj).T.length = s.T.length := by
 unfold Wrs.cut
 split
 ·rfl
 ·exact cuL_len _ _ _
theorem Dok.cut (h : Dok c S j) (hb : Wbd c.a S.1.s) {g : List Bool -> List Bool} (hg : Gok S.2.T S.2.wt g) : S.1.code c.a = S.2.ccd g c.a.O false /\ Dok c (S.1.cut c.a, S.2.cut g c.a.O false) (j + 1) /\ (S.1.code c.a = 0 -> (S.1.cut c.a).s.M = []) := by
 obtain ⟨m, Y, G, hR⟩ := h.rl
 have l1 := cut_len c.a S.1
 have l2 := cutT_len g S.2 c.a.O false
 have e1 := h.m
 have e2 := h.rq
 have e3 := h.t
 refine ⟨hR.scode hb hg, ⟨hR.cut hb hg, ?_, by dsimp only; omega, by dsimp only; omega⟩, fun e => ?_⟩
 ·dsimp only
  unfold Ww.cut
  split
  ·omega
  ·exact Nat.zero_le _
 ·unfold Ww.code at e
  unfold Ww.cut
  split at e
  ·cases e
  ·rename_i hf
   rw [if_neg hf]
theorem Dok.gcut (h : Dok c S j) (hb : Wbd c.a S.1.s) {g : List Bool -> List Bool} (hg : Gok S.2.T S.2.wt g) : S.1.gcode c.a = S.2.ccd g c.a.O true /\ Dok c (S.1.gcut c.a, S.2.cut g c.a.O true) (j + 1) /\ (S.1.gcode c.a = 0 -> (S.1.gcut c.a).s.M = []) /\ (S.1.jfull c.a = false -> ∃ F, SlG (S.1.k5 c.a) (S.1.j5 c.a) F /\ F 0 (S.1.k5 c.a, 0)) := by
 obtain ⟨m, Y, G, hR⟩ := h.rl
 have l1 := gcut_len c.a S.1
 have l2 := cutT_len g S.2 c.a.O true
 have e1 := h.m
 have e2 := h.rq
 have e3 := h.t
 obtain ⟨g1, _, g3⟩ := hR.kv.gcut hb
 refine ⟨hR.gcode hb hg, ⟨hR.gcut hb hg, ?_, by dsimp only; omega, by dsimp only; omega⟩, fun e => ?_, g1⟩
 ·dsimp only
  omega
 ·unfold Ww.gcode at e
  unfold Ww.gcut
  split at e
  ·cases e
  ·rename_i hf
   rw [if_neg hf]
   rfl
theorem cutR_any {S' : Ww} (h' : (boO c).J F (S', S.2) w) (hD : Dok c S j) (hj : j <= 1000) {g : List Bool -> List Bool} (hg : Gok S.2.T S.2.wt g) (hgr : c.grow = c.a.O) (ho : c.a.O <= 1024) (mj : Bool) :
  Calls Tryz.prog 17 #[.pointer (some ⟨c.rp, 0, none⟩), .bool mj] w fun e w' => ∃ F', e = .returned (.int .i64 (S.2.ccd g c.a.O mj)) /\ (boO c).J F' (S', S.2.cut g c.a.O mj) w' /\ Tn F w F' w' := by
 obtain ⟨FR, h1, h2, h3⟩ := bo_r h'
 rw [hgr] at h1
 have hv := hD.wcv hj
 by_cases hf : mj = false /\ (c.a.O : Int) - (usd S.2.T).2 < (usd S.2.T).1
 ·obtain ⟨rfl, hf⟩ := hf
  have hF : S.2.cF g c.a.O false = true := by
   unfold Wrs.cF
   simp [hf]
  refine (cutW_no h1 hv (by omega) (by omega) hf).mono ?_
  rintro e w' ⟨rfl, hb⟩
  refine ⟨F, ?_, ?_, Tn.of hb⟩
  ·unfold Wrs.ccd
   rw [if_pos hF]
  ·have e : S.2.cut g c.a.O false = S.2 := by
    unfold Wrs.cut
    rw [if_pos hF]
   rw [e]
   exact (boO c).below h' hb
 ·refine (cutW_yes h1 hv (by omega) (by omega) mj (fun e c => hf ⟨e, c⟩) _ hg).mono ?_
  rintro e w' ⟨F', rfl, j1, t1⟩
  rw [<- hgr] at j1
  obtain ⟨F2, j2, t2⟩ := h3 _ _ _ j1 t1
  exact ⟨F2, rfl, by rw [<- hgr]; exact j2, t2⟩
end
end Go.Proofs.YtnalfnlmaallmaaGreat

namespace Go.Proofs.YtnalfnlmaallmaaGreat
set_option maxRecDepth 100000
set_option maxHeartbeats 1000000
open Go.RowKit W Kp Stl
theorem sameVals_eq (a b : Option Addr) (ca cb : Nat) (l : List (Int × Int)) (w : World) (hm : l.length <= 100000) (ha : Lp w a l) (hb : Lp w b l) :
  Calls Tryz.prog 84 #[.slice a l.length ca, .slice b l.length cb] w fun e w' => e = .returned (.bool true) /\ Below w.heap.size w w' := by
 have HA : Hid (Lp w a l) := ha
 have HB : Hid (Lp w b l) := hb
 clear ha hb
 go_enter Tryz.func84, Tryz.ntmps84
 go_wp2_with fail
 go_loopw [5] (fun iv wr => ∃ j : Nat, j <= l.length /\ iv = .int .i64 j /\ Below w.heap.size w wr) (fun iv _ => l.length - (intOf iv).toNat)
 case atStart => exact ⟨0, Nat.zero_le _, rfl, Below.refl _ _⟩
 case round =>
  obtain ⟨j, hj, rfl, hb⟩ := hrel
  by_cases hlt : j < l.length
  ·obtain ⟨b0, o0, e0, hb0, hc⟩ := (HA.out.below hb) (by omega)
   obtain ⟨x1, x2⟩ := hc j hlt
   subst e0
   obtain ⟨b2, o2, e2, hb2, hc2⟩ := (HB.out.below hb) (by omega)
   obtain ⟨x3, x4⟩ := hc2 j hlt
   subst e2
   clear hc hc2
   generalize (l.getD j (0, 0)).1 = u at x1 x3
   generalize (l.getD j (0, 0)).2 = v at x2 x4
   have j0 : (0 : Int) <= (j : Int) := by omega
   have j1 : (j : Int) < (l.length : Int) := by omega
   go_wp2_with fail
   go_quiet (fail)
   go_wp2_with fail
   go_roundw
   case rel => exact ⟨j + 1, by omega, by go_num, by first | exact below_drewN hb _ | exact hb.drew | exact hb⟩
   case measure => simp [intOf]; omega
  ·obtain rfl : j = l.length := by omega
   go_wp2_with fail
   go_ret
   exact ⟨rfl, hb⟩
end Go.Proofs.YtnalfnlmaallmaaGreat

namespace Go.Proofs.YtnalfnlmaallmaaGreat
set_option maxRecDepth 100000
set_option maxHeartbeats 2000000
open Go.RowKit W Kp Stl
theorem Ln.at {w : World} {ad : Option Addr} {ns : List (Int × List (Int × Int))} (h : Ln w ad ns) {i : Nat} (hi : i < ns.length) : ∃ b o fa fc, ad = some ⟨b, o, none⟩ /\ b < w.heap.size /\ w.cell? ⟨b, o + i * 2, none⟩ = some (.int .i64 (ns.getD i (0, [])).1) /\ w.cell? ⟨b, o + i * 2 + 1, none⟩ = some (.slice fa (ns.getD i (0, [])).2.length fc) /\ Lp w fa (ns.getD i (0, [])).2 := by
 obtain ⟨m, h1, h2, h3⟩ := h
 have hl : m.length = ns.length := by rw [<- h1]; simp [nds]
 obtain ⟨b, o, e, hb, hc⟩ := h3 (by omega)
 obtain ⟨x, hx⟩ : ∃ x, m[i]? = some x := ⟨_, List.getElem?_eq_getElem (by omega)⟩
 have en : ns.getD i (0, []) = (x.1, x.2.2.2) := by
  subst h1
  rw [List.getD_eq_getElem?_getD, nds, List.getElem?_map, hx]
  rfl
 rw [en]
 exact ⟨b, o, _, _, e, hb, (hc i _ hx).1, (hc i _ hx).2, h2 _ (List.mem_of_getElem? hx)⟩
theorem sameView_eq (r1 r2 n1 n2 : Option Addr) (c1 c2 d1 d2 : Nat) (vs : List (Int × Int)) (ns : List (Int × List (Int × Int))) (w : World) (hm : vs.length <= 100000) (hl : ns.length <= 100000) (hf : ∀ nd ∈ ns, nd.2.length <= 100000) (h1 : Lp w r1 vs) (h2 : Lp w r2 vs) (h3 : Ln w n1 ns) (h4 : Ln w n2 ns) :
  Calls Tryz.prog 29 #[.agg #[.slice r1 vs.length c1, .slice n1 ns.length d1], .agg #[.slice r2 vs.length c2, .slice n2 ns.length d2]] w fun e w' => e = .returned (.bool true) /\ Below w.heap.size w w' := by
 have ba := ((Below.refl w.heap.size w).alloc (Nat.le_refl _) (.cells #[.slice r1 vs.length c1, .slice n1 ns.length d1] 65)).alloc (by simp) (.cells #[.slice r2 vs.length c2, .slice n2 ns.length d2] 65)
 have k0 : ((w.alloc (.cells #[.slice r1 vs.length c1, .slice n1 ns.length d1] 65)).alloc (.cells #[.slice r2 vs.length c2, .slice n2 ns.length d2] 65)).cell? ⟨w.heap.size, 1, none⟩ = some (.slice n1 ns.length d1) := by simp [go_sem]
 have k1 : ((w.alloc (.cells #[.slice r1 vs.length c1, .slice n1 ns.length d1] 65)).alloc (.cells #[.slice r2 vs.length c2, .slice n2 ns.length d2] 65)).cell? ⟨w.heap.size + 1, 1, none⟩ = some (.slice n2 ns.length d2) := by simp [go_sem]
 have hs0 : ((w.alloc (.cells #[.slice r1 vs.length c1, .slice n1 ns.length d1] 65)).alloc (.cells #[.slice r2 vs.length c2, .slice n2 ns.length d2] 65)).heap.size = w.heap.size + 2 := by simp
 have P := sameVals_eq r1 r2 c1 c2 vs _ hm (h1.below ba) (h2.below ba)
 have H3 : Hid (∀ w', Below w.heap.size w w' -> Ln w' n1 ns) := fun w' hb => h3.below hb
 have H4 : Hid (∀ w', Below w.heap.size w w' -> Ln w' n2 ns) := fun w' hb => h4.below hb
 have HF : Hid (∀ nd ∈ ns, nd.2.length <= 100000) := hf
 clear h1 h2 h3 h4 hf
 go_enter Tryz.func29, Tryz.ntmps29
 go_wp2_with fail
 refine P.mono ?_
 clear P
 rintro e w1 ⟨rfl, hb1⟩
 have hB1 := ba.trans (hb1.mono (by omega))
 have hs1 := hb1.size
 rw [hs0] at hs1
 have x0 := (hb1.cell (p := ⟨w.heap.size, 1, none⟩) (by show w.heap.size < _; omega)).trans k0
 have x1 := (hb1.cell (p := ⟨w.heap.size + 1, 1, none⟩) (by show w.heap.size + 1 < _; omega)).trans k1
 clear ba k0 k1 hs0 hb1
 go_wp2_with fail
 go_loopw [5] (fun iv wr => ∃ j : Nat, j <= ns.length /\ iv = .int .i64 j /\ Below w1.heap.size w1 wr) (fun iv _ => ns.length - (intOf iv).toNat)
 case atStart => exact ⟨0, Nat.zero_le _, rfl, Below.refl _ _⟩
 case round =>
  obtain ⟨j, hj, rfl, hb⟩ := hrel
  have hsr := hb.size
  have hBr := hB1.trans (hb.mono (by omega))
  have y0 := (hb.cell (p := ⟨w.heap.size, 1, none⟩) (by show w.heap.size < _; omega)).trans x0
  have y1 := (hb.cell (p := ⟨w.heap.size + 1, 1, none⟩) (by show w.heap.size + 1 < _; omega)).trans x1
  have ly0 : w.heap.size < wr.heap.size := by omega
  have ly1 : w.heap.size + 1 < wr.heap.size := by omega
  by_cases hlt : j < ns.length
  ·obtain ⟨b1, o1, fa1, fc1, e1, l1, z1, z2, z3⟩ := (H3.out wr hBr).at hlt
   obtain ⟨b2, o2, fa2, fc2, e2, l2, z4, z5, z6⟩ := (H4.out wr hBr).at hlt
   subst e1 e2
   have hfl : (ns.getD j (0, [])).2.length <= 100000 := HF.out _ (by rw [List.getD_eq_getElem?_getD, List.getElem?_eq_getElem hlt]; exact List.getElem_mem hlt)
   generalize (ns.getD j (0, [])).1 = kd at z1 z4
   generalize (ns.getD j (0, [])).2 = fs at z2 z3 z5 z6 hfl
   have j0 : (0 : Int) <= (j : Int) := by omega
   have j1 : (j : Int) < (ns.length : Int) := by omega
   have hd := (Below.refl wr.heap.size wr).drew
   have P := sameVals_eq fa1 fa2 fc1 fc2 fs wr.drew hfl (z3.below hd) (z6.below hd)
   clear z3 z6 x0 x1
   go_wp2_with fail
   go_region_held3 (fun w' => w'.cell? ⟨w.heap.size, 1, none⟩ = some (.slice (some ⟨b1, o1, none⟩) ns.length d1) /\ w'.cell? ⟨w.heap.size + 1, 1, none⟩ = some (.slice (some ⟨b2, o2, none⟩) ns.length d2) /\ w'.cell? ⟨b1, o1 + j * 2, none⟩ = some (.int .i64 kd) /\ w'.cell? ⟨b1, o1 + j * 2 + 1, none⟩ = some (.slice fa1 fs.length fc1) /\ w'.cell? ⟨b2, o2 + j * 2, none⟩ = some (.int .i64 kd) /\ w'.cell? ⟨b2, o2 + j * 2 + 1, none⟩ = some (.slice fa2 fs.length fc2)) (first | exact ⟨y0, y1, z1, z2, z4, z5⟩ | exact ⟨u0, u1, u2, u3, u4, u5⟩ | go_keep)
    (first | (go_at_call 84; refine P.mono ?_; rintro e w3 ⟨rfl, hb3'⟩; have hb3 : Below wr.heap.size wr w3 := hd.trans hb3'; have u0 := (hb3.cell (p := ⟨w.heap.size, 1, none⟩) ly0).trans y0; have u1 := (hb3.cell (p := ⟨w.heap.size + 1, 1, none⟩) ly1).trans y1; have u2 := (hb3.cell (p := ⟨b1, o1 + j * 2, none⟩) l1).trans z1; have u3 := (hb3.cell (p := ⟨b1, o1 + j * 2 + 1, none⟩) l1).trans z2; have u4 := (hb3.cell (p := ⟨b2, o2 + j * 2, none⟩) l2).trans z4; have u5 := (hb3.cell (p := ⟨b2, o2 + j * 2 + 1, none⟩) l2).trans z5))
   have hbN : Below w1.heap.size w1 w3 := hb.trans (hb3.mono hsr)
   clear P u0 u1 u2 u3 u4 u5 y0 y1 z1 z2 z4 z5 hb3 hb3' hd
   go_wp2_with fail
   go_roundw
   case rel => exact ⟨j + 1, by omega, by go_num, hbN⟩
   case measure => simp [intOf]; omega
  ·obtain rfl : j = ns.length := by omega
   go_wp2_with fail
   go_ret
   exact ⟨rfl, hBr⟩
end Go.Proofs.YtnalfnlmaallmaaGreat

namespace Go.Proofs.YtnalfnlmaallmaaGreat
set_option maxRecDepth 100000
set_option maxHeartbeats 4000000
open Go.RowKit W Kp Stl
section
variable {c : Bc} {F : Nat -> Prop} {S : Ww × Wrs} {w : World} {j : Nat}
theorem viewR_new (h : (boO c).J F S w) (hD : Dok c S j) (hj : j <= 1000) :
  Calls Tryz.prog 31 #[.pointer (some ⟨c.rp, 0, none⟩)] w fun e w' => ∃ r2 d2 na nc, e = .returned (.agg #[.slice r2 12 d2, .slice na (vwL c.a.N S.1.s.y S.1.s.g S.1.s.ws S.1.q S.1.s.rs).2.2.length nc]) /\ Lp w' r2 (vwL c.a.N S.1.s.y S.1.s.g S.1.s.ws S.1.q S.1.s.rs).1 /\ Ln w' na (vwL c.a.N S.1.s.y S.1.s.g S.1.s.ws S.1.q S.1.s.rs).2.2 /\ Below w.heap.size w w' := by
 have hb := bo_wbd h
 obtain ⟨FR, h1, _⟩ := bo_r h
 have l1 := hD.lens
 have l2 := hD.t
 obtain ⟨m, Y, G, hR⟩ := hD.rl
 obtain ⟨v1, v2⟩ := hR.view hb (by omega)
 obtain ⟨c1, _, _, _, lrb, _, rl, hc⟩ := wr_cells h1
 have e12 : (12 : Nat) = S.2.rs.length := rl.symm
 have hl : Lp w (some ⟨c.rb, 0, none⟩) S.2.rs := fun _ => ⟨c.rb, 0, rfl, lrb, fun i hi => by
  obtain ⟨q0, q1, _⟩ := hc i (by omega)
  rw [Nat.zero_add]
  exact ⟨q0, q1⟩⟩
 have P := Vr4.viewW_any (l := S.2.rs) (rc := 12) (wr_wg h1) (by rw [<- e12]; exact c1) hl (by omega) (hR.wvw (by omega) (by omega)) (fun v hv => (hR.rv v hv).vq (by omega))
 rw [<- e12] at P
 refine P.mono ?_
 rintro e w' ⟨r2, d2, na, nn, nc, rfl, hp, hn, rfl, hb'⟩
 rw [v1, v2]
 exact ⟨r2, d2, na, nc, rfl, hp.1, hn.ln, hb'⟩
theorem right_any (h : (boO c).J F S w) (hD : Dok c S j) (hj : j <= 1000) :
  Calls Tryz.prog 19 #[.pointer (some ⟨c.pb, 0, none⟩)] w fun e w' => e = .returned (.bool true) /\ Below w.heap.size w w' := by
 have hb := bo_wbd h
 have l1 := hD.lens
 have l2 := hD.t
 have l3 := hD.rq
 have us : usd S.2.T = ((S.1.s.y : Int), (S.1.s.g : Int)) := by
  obtain ⟨m, Y, G, hR⟩ := hD.rl
  exact hR.us hb
 obtain ⟨bd1, bd2, bd3⟩ := view_bd c.a.N S.1.s.y S.1.s.g S.1.s.ws S.1.q S.1.s.rs
 rw [hb.r1] at bd1
 have PU := usedB_any h
 have HW : Hid (∀ w', Below w.heap.size w w' -> Calls Tryz.prog 28 #[.pointer (some ⟨c.rp, 0, none⟩)] w' fun e w'' => e = .returned (.tuple #[.int .i64 S.1.s.y, .int .i64 S.1.s.g]) /\ Below w'.heap.size w' w'') := fun w' hbw => by
  obtain ⟨FR, h1, _⟩ := bo_r ((boO c).below h hbw)
  have P := usedW_any h1 hD.t12 (by omega)
  rw [us] at P
  exact P
 have HV1 : Hid (∀ w', Below w.heap.size w w' -> Calls Tryz.prog 30 #[.pointer (some ⟨c.a.pw, 0, none⟩)] w' fun e w'' => ∃ r2 d2 na nn nc, e = .returned (.agg #[.slice r2 12 d2, .slice na nn nc]) /\ Lp w'' r2 (vwL c.a.N S.1.s.y S.1.s.g S.1.s.ws S.1.q S.1.s.rs).1 /\ Ln w'' na (vwL c.a.N S.1.s.y S.1.s.g S.1.s.ws S.1.q S.1.s.rs).2.2 /\ nn = (vwL c.a.N S.1.s.y S.1.s.g S.1.s.ws S.1.q S.1.s.rs).2.2.length /\ Below w'.heap.size w' w'') := fun w' hbw => viewB_any ((boO c).below h hbw) (by omega)
 have HV2 : Hid (∀ w', Below w.heap.size w w' -> Calls Tryz.prog 31 #[.pointer (some ⟨c.rp, 0, none⟩)] w' fun e w'' => ∃ r2 d2 na nc, e = .returned (.agg #[.slice r2 12 d2, .slice na (vwL c.a.N S.1.s.y S.1.s.g S.1.s.ws S.1.q S.1.s.rs).2.2.length nc]) /\ Lp w'' r2 (vwL c.a.N S.1.s.y S.1.s.g S.1.s.ws S.1.q S.1.s.rs).1 /\ Ln w'' na (vwL c.a.N S.1.s.y S.1.s.g S.1.s.ws S.1.q S.1.s.rs).2.2 /\ Below w'.heap.size w' w'') := fun w' hbw => viewR_new ((boO c).below h hbw) hD hj
 have HC : Hid (∀ w', Below w.heap.size w w' -> w'.cell? ⟨c.pb, 0, none⟩ = some (.pointer (some ⟨c.a.pw, 0, none⟩)) /\ w'.cell? ⟨c.pb, 1, none⟩ = some (.pointer (some ⟨c.rp, 0, none⟩)) /\ w'.cell? ⟨c.a.pw, 0, none⟩ = some (.pointer (some ⟨c.a.p, 0, none⟩))) := fun w' hbw => by
  obtain ⟨q0, q1, q2, _⟩ := bo_all ((boO c).below h hbw)
  exact ⟨q0, q1, q2⟩
 obtain ⟨x0, x1, x2⟩ := HC.out w (Below.refl _ _)
 generalize vwL c.a.N S.1.s.y S.1.s.g S.1.s.ws S.1.q S.1.s.rs = R at *
 obtain ⟨vs, ms, ns⟩ := R
 dsimp only at *
 generalize S.1.s.y = y at *
 generalize S.1.s.g = g at *
 have q9 : S.1.q.length <= 1000 := by omega
 clear hb us hD h l1 l2 l3
 go_enter Tryz.func19, Tryz.ntmps19
 go_wp2_with fail
 refine PU.mono ?_
 clear PU
 rintro e w1 ⟨rfl, hb1⟩
 have P2 := HW.out w1 hb1
 obtain ⟨y0, y1, y2⟩ := HC.out w1 hb1
 have HB1 : Hid (Below w.heap.size w w1) := hb1
 clear hb1 HW x0 x1 x2
 go_wp2_with fail
 refine P2.mono ?_
 clear P2
 rintro e w2 ⟨rfl, hb2⟩
 have hb := HB1.out.trans (hb2.mono HB1.out.size)
 obtain ⟨z0, z1, _⟩ := HC.out w2 hb
 have hdr := (Below.refl w2.heap.size w2).drew
 have P3 := HV1.out w2.drew (hb.trans (hdr.mono hb.size))
 have HB2 : Hid (Below w.heap.size w w2 /\ Below w2.heap.size w2 w2.drew) := ⟨hb, hdr⟩
 have y0' : (0 : Int) = 0 := rfl
 have ey : ((y : Int) == (y : Int)) = true := by simp
 have eg : ((g : Int) == (g : Int)) = true := by simp
 clear hb2 hb y0 y1 y2 HB1 hdr HV1
 go_wp2_with fail
 go_region_held3 (fun w' => w'.cell? ⟨c.pb, 0, none⟩ = some (.pointer (some ⟨c.a.pw, 0, none⟩)) /\ w'.cell? ⟨c.pb, 1, none⟩ = some (.pointer (some ⟨c.rp, 0, none⟩))) (go_keep)
  (first
   | (go_at_call 30; refine P3.mono ?_; clear P3; rintro e w3 ⟨r2, d2, na, nn, nc, rfl, hp3, hn3, rfl, hb3⟩; have HB3 : Hid (Below w.heap.size w w3 /\ Lp w3 r2 vs /\ Ln w3 na ns) := ⟨(HB2.out.1.trans (HB2.out.2.mono HB2.out.1.size)).trans (hb3.mono (Nat.le_trans HB2.out.1.size HB2.out.2.size)), hp3, hn3⟩; obtain ⟨t0, t1, _⟩ := HC.out w3 HB3.out.1; clear hp3 hn3 hb3)
   | (go_at_call 31; refine (HV2.out w3 HB3.out.1).mono ?_; rintro e w4 ⟨r3, d3, na3, nc3, rfl, hp4, hn4, hb4⟩; have HB4 : Hid (Below w.heap.size w w4 /\ Lp w4 r2 vs /\ Ln w4 na ns /\ Lp w4 r3 vs /\ Ln w4 na3 ns) := ⟨HB3.out.1.trans (hb4.mono HB3.out.1.size), HB3.out.2.1.below hb4, HB3.out.2.2.below hb4, hp4, hn4⟩; obtain ⟨t2, t3, _⟩ := HC.out w4 HB4.out.1; clear hp4 hn4 hb4)
   | (go_at_call 29; have PS := sameView_eq r2 r3 na na3 d2 d3 nc nc3 vs ns w4 (by omega) (by omega) (fun nd hnd => by have := bd3 nd hnd; omega) HB4.out.2.1 HB4.out.2.2.2.1 HB4.out.2.2.1 HB4.out.2.2.2.2; rw [bd1] at PS; refine PS.mono ?_; clear PS; rintro e w5 ⟨rfl, hb5⟩; have HB5 : Hid (Below w.heap.size w w5) := HB4.out.1.trans (hb5.mono HB4.out.1.size); obtain ⟨t4, t5, _⟩ := HC.out w5 HB5.out; clear hb5))
 all_goals
  go_wp2_with fail
  go_ret
  exact ⟨rfl, HB5.out⟩
end
end Go.Proofs.YtnalfnlmaallmaaGreat

namespace Go.Proofs.YtnalfnlmaallmaaGreat
set_option maxRecDepth 100000
set_option maxHeartbeats 4000000
open Go.RowKit W Kp Stl
section
variable {c : Bc} {F : Nat -> Prop} {S : Ww × Wrs} {w : World} {j : Nat}
theorem cutO_any (h : (boO c).J F S w) (hD : Dok c S j) (hj : j <= 900) (hgr : c.grow = c.a.O) (ho : c.a.O <= 1024) (mj : Bool) :
  Calls Tryz.prog 21 #[.pointer (some ⟨c.pb, 0, none⟩), .bool mj] w fun e w' => ∃ (cd : Int) (S' : Ww × Wrs) (F' : Nat -> Prop), e = .returned (.tuple #[.int .i64 cd, .bool true]) /\ (boO c).J F' S' w' /\ Dok c S' (j + 1) /\ Tn F w F' w' := by
 have hwb := bo_wbd h
 obtain ⟨g, hg⟩ := hD.gok
 have l3 := hD.rq
 have HCE : Hid (∀ F' S' w', (boO c).J F' S' w' -> w'.cell? ⟨c.pb, 0, none⟩ = some (.pointer (some ⟨c.a.pw, 0, none⟩)) /\ w'.cell? ⟨c.pb, 1, none⟩ = some (.pointer (some ⟨c.rp, 0, none⟩))) := fun F' S' w' hJ => ⟨(bo_cells hJ).1, (bo_cells hJ).2.1⟩
 have HRC0 : Hid (∀ S3 F' w', (boO c).J F' (S3, S.2) w' -> Calls Tryz.prog 17 #[.pointer (some ⟨c.rp, 0, none⟩), .bool mj] w' fun e w'' => ∃ F'', e = .returned (.int .i64 (S.2.ccd g c.a.O mj)) /\ (boO c).J F'' (S3, S.2.cut g c.a.O mj) w'' /\ Tn F' w' F'' w'') := fun S3 F' w' hJ => cutR_any (S := S) hJ hD (by omega) hg hgr ho mj
 have HRT0 : Hid (∀ S' F' w', Dok c S' (j + 1) -> (boO c).J F' S' w' -> Calls Tryz.prog 19 #[.pointer (some ⟨c.pb, 0, none⟩)] w' fun e w'' => e = .returned (.bool true) /\ Below w'.heap.size w' w'') := fun S' F' w' hD' hJ => right_any hJ hD' (by omega)
 have HCT : Hid (∀ F' S' w', (boO c).J F' S' w' -> w'.cell? ⟨c.pb, 0, none⟩ = some (.pointer (some ⟨c.a.pw, 0, none⟩)) /\ w'.cell? ⟨c.a.pw, 1, none⟩ = some (.pointer (some ⟨c.a.pc, 0, none⟩)) /\ Calls Tryz.prog 18 #[.pointer (some ⟨c.a.pc, 0, none⟩)] w' fun e w'' => e = .returned (.int .i64 S'.1.s.M.length) /\ w'' = w') := fun F' S' w' hJ => by
  obtain ⟨_, ⟨pq, hcd⟩, _, c1, b0'⟩ := bo_blk hJ
  exact ⟨b0', c1, count_any w' hcd⟩
 obtain ⟨q0, q1⟩ := HCE.out _ _ _ h
 cases mj
 case' false =>
  have PC := cutB_any h (by omega)
  obtain ⟨eC, hN, hM⟩ := hD.cut hwb hg
  generalize S.1.cut c.a = S3 at *
  generalize hcd : S.1.code c.a = cd at *
 case' true =>
  obtain ⟨eC, hN, hM, hsl⟩ := hD.gcut hwb hg
  have PC := cutGB_any h (by omega) hsl
  clear hsl
  generalize S.1.gcut c.a = S3 at *
  generalize hcd : S.1.gcode c.a = cd at *
 all_goals
  rw [<- eC] at HRC0
  have HN : Hid (Dok c (S3, S.2.cut g c.a.O _) (j + 1)) := hN
  generalize S.2.cut g c.a.O _ = W3 at *
  clear eC hN hwb hD hcd hg
  as_aux_lemma =>
  go_enter Tryz.func21, Tryz.ntmps21
  go_wp2_with fail
  refine PC.mono ?_
  clear PC
  rintro e w5 ⟨F5, rfl, j5, t5⟩
  have PR := HRC0.out _ F5 w5 j5
  obtain ⟨z0, z1⟩ := HCE.out _ _ _ j5
  have H5 : Hid (Tn F w F5 w5) := t5
  clear j5 t5 HRC0 q0 q1
  go_wp2_with fail
  refine PR.mono ?_
  clear PR
  rintro e w6 ⟨F6, rfl, j6, t6⟩
  have H6 : Hid ((boO c).J F6 (S3, W3) w6 /\ Tn F w F6 w6) := ⟨j6, H5.out.trans t6⟩
  have PG := HRT0.out _ F6 w6 HN.out j6
  clear j6 t6 HRT0 z0 z1 H5
  have ec : (cd == cd) = true := by simp
  go_wp2_with fail
  refine PG.mono ?_
  clear PG
  rintro e w8 ⟨rfl, hb8⟩
  have H8 : Hid ((boO c).J F6 (S3, W3) w8 /\ Tn F w F6 w8) := ⟨(boO c).below H6.out.1 hb8, H6.out.2.below hb8⟩
  obtain ⟨u0, u1, PT⟩ := HCT.out F6 _ w8 H8.out.1
  clear hb8 H6 HCT
  by_cases hcd : cd = 0
  ·rw [hM hcd] at PT
   clear hM
   subst hcd
   go_wp2_with fail
   refine PT.mono ?_
   clear PT
   rintro e w9 ⟨rfl, rfl⟩
   go_wp2_with fail
   refine bodyPost_ret (v := .tuple #[.int .i64 0, .bool true]) (by simp [results, Tryz.results21, go_sem]) rfl ?_
   exact ⟨0, (S3, W3), F6, rfl, H8.out.1, HN.out, H8.out.2⟩
  ·have hne : (cd != 0) = true := by simpa using hcd
   clear PT
   go_wp2_with fail
   refine bodyPost_ret (v := .tuple #[.int .i64 cd, .bool true]) (by simp [results, Tryz.results21, go_sem]) rfl ?_
   exact ⟨cd, (S3, W3), F6, rfl, H8.out.1, HN.out, H8.out.2⟩
end
end Go.Proofs.YtnalfnlmaallmaaGreat

namespace Go.Proofs.YtnalfnlmaallmaaGreat
open Go.RowKit W Kp Stl
def mbS : Ww := ⟨⟨3, 0, mkW 16 0 1 2 (List.replicate 24 0), [], (tw 2 12).set 0 (ew 3 0)⟩, [], []⟩
theorem mb_b : ((bo0 16 8).2.fB 16 1 2 == decide (0 <= mkR 16 0 1 2)) = true := by decide +kernel
theorem mb_r : rtN 0 = 0 := by decide +kernel
theorem mb_s : mkY 16 0 1 2 = 3 /\ mkR 16 0 1 2 = 0 := by decide +kernel
end Go.Proofs.YtnalfnlmaallmaaGreat

namespace Go.Proofs.YtnalfnlmaallmaaGreat
open Go.RowKit W Kp Stl
theorem run_nodes (x y : Value) (w : World) : Sem.run Tryz.prog (Instr.field 65 (.agg #[x, y]) 1) w = .ok y w := by
 unfold Instr.field
 simp [go_sem]
 rfl
end Go.Proofs.YtnalfnlmaallmaaGreat

namespace Go.Proofs.YtnalfnlmaallmaaGreat
set_option maxRecDepth 100000
set_option maxHeartbeats 4000000
open Go.RowKit W Kp Stl
theorem gb_b : (((bo0 16 8).2.fr 16 0 1 2).fB 16 1 2 == decide (0 <= mkR 16 mbS.s.y 1 2)) = true := by decide +kernel
theorem majorBegun_any (w : World) : Calls Tryz.prog 20 #[] w fun e w' => e = .returned (.bool true) /\ Below w.heap.size w w' := by
 go_enter Tryz.func20, Tryz.ntmps20
 go_wp2_with fail
 refine (start_yes 16 8 w (by omega) (by omega) (by omega)).mono ?_
 rintro e w1 ⟨c, F1, rfl, j1, ⟨k1, k2, k3, k4⟩, g1, b1⟩
 have B0 := Bok.start c 16 8
 have O0 := So0.start c.a 16 8
 have W0 := bo_wbd j1
 have D := do_any j1 ((Wok.start 16 8).rb (by decide) (by decide) (by decide)) (by rw [k3]; decide) (by rw [k3]; decide) (by decide) (by decide) (by decide) 0 1 2 0
 have B1 := B0.do W0 0 1 2 0
 have O1 := O0.do (c := c) (S := bo0 16 8) W0 0 1 2 0 (fun _ => Or.inl rfl)
 have e1 : doB c (bo0 16 8) 0 1 2 0 = true := by
  unfold doB
  rw [if_pos rfl, k3, k1]
  exact mb_b
 have e2 : (doS c (bo0 16 8) 0 1 2 0).1 = mbS := by
  unfold doS
  rw [if_pos rfl]
  unfold boM
  dsimp only
  rw [k1]
  show (⟨⟨mkY 16 0 1 2, 0, mkW 16 0 1 2 (List.replicate (16 + 8) 0), [], if 0 <= mkR 16 0 1 2 then (tw 2 12).set (rtN 0) (ew 3 (mkR 16 0 1 2)) else tw 2 12⟩, [], []⟩ : Ww) = mbS
  rw [mb_s.1, mb_s.2, mb_r]
  rfl
 have e3 : (doS c (bo0 16 8) 0 1 2 0).2 = (bo0 16 8).2.fr 16 0 1 2 := by
  unfold doS
  rw [if_pos rfl]
  unfold boM
  dsimp only
  rw [k3, mb_r]
  rfl
 rw [e1] at D
 generalize hS1 : doS c (bo0 16 8) 0 1 2 0 = S1 at D B1 O1
 rw [hS1] at e2 e3
 have HJ : Hid ((∀ b, F1 b -> w.heap.size <= b) /\ Below w.heap.size w w1 /\ S1.1 = mbS /\ S1.2 = (bo0 16 8).2.fr 16 0 1 2 /\ c.a.N = 16 /\ c.a.O = 8 /\ c.most = 16 /\ Bok c S1 1 /\ So0 c.a S1.1) := ⟨g1, b1, e2, e3, k1, k2, k3, B1, O1⟩
 clear j1 g1 b1 hS1 e1 e2 e3 k1 k2 k3 k4 B0 O0 W0 B1 O1
 go_wp2_with fail
 refine D.mono ?_
 clear D
 rintro e w2 ⟨F2, rfl, j2, t2⟩
 obtain ⟨h1, h2, h3, h3', h4, h5, h6, B1, O1⟩ := HJ.out
 have W1 := bo_wbd j2
 have D := do_any j2 (B1.rb (by omega)) (by rw [h6]; decide) (by rw [h6]; decide) (by have := B1.m; omega) (by have := B1.rq; omega) (by have := B1.rq; omega) 0 1 2 0
 have B2 := B1.do W1 0 1 2 0
 have O2 := O1.do (c := c) (S := S1) W1 0 1 2 0 (fun _ => Or.inl rfl)
 have e1 : doB c S1 0 1 2 0 = true := by
  unfold doB
  rw [if_pos rfl, h6, h4, h3, h3']
  exact gb_b
 have e2 : (doS c S1 0 1 2 0).1 = gbS := by
  unfold doS
  rw [if_pos rfl]
  unfold boM
  dsimp only
  rw [h4, h3]
  show (⟨⟨mkY 16 3 1 2, 0, mkW 16 3 1 2 (mkW 16 0 1 2 (List.replicate 24 0)), [], if 0 <= mkR 16 3 1 2 then ((tw 2 12).set 0 (ew 3 0)).set (rtN 0) (ew 3 (mkR 16 3 1 2)) else (tw 2 12).set 0 (ew 3 0)⟩, [], []⟩ : Ww) = gbS
  rw [gb_s.1, gb_s.2, mb_r]
  rfl
 rw [e1] at D
 generalize hS2 : doS c S1 0 1 2 0 = S2 at D B2 O2
 rw [hS2] at e2
 have b2 := h2.trans (t2.fr.below h2.size h1)
 have g2 : ∀ b, F2 b -> w.heap.size <= b := fun b d => (t2.sub b d).elim (h1 b) (fun d => Nat.le_trans h2.size d)
 obtain ⟨d0, _⟩ := bo_all j2
 have HK : Hid ((∀ b, F2 b -> w.heap.size <= b) /\ Below w.heap.size w w2 /\ S2.1 = gbS /\ c.a.N = 16 /\ c.a.O = 8 /\ Bok c S2 2 /\ So0 c.a S2.1) := ⟨g2, b2, e2, h4, h5, B2, O2⟩
 clear j2 t2 h1 h2 h3 h3' h4 h5 h6 B1 O1 W1 B2 O2 e1 e2 hS2 b2 g2 HJ
 go_wp2_with fail
 refine D.mono ?_
 clear D
 rintro e w3 ⟨F3, rfl, j3, t3⟩
 obtain ⟨h1, h2, h3, h4, h5, B2, O2⟩ := HK.out
 have W2 := bo_wbd j3
 obtain ⟨g1, g2, g3, g4, g5, g6⟩ := great_strong O2 W2
 have P := cutGB_any j3 (by rw [O2.r, O2.q]; decide) g1
 rw [h4, h3, gb_z, h5] at g6
 rw [h4, h3] at g5
 have g7 : S2.1.gcode c.a = 0 /\ (S2.1.gcut c.a).s.y = 0 /\ (S2.1.gcut c.a).s.g = 3 := by
  rw [h3]
  rcases g6 with ⟨q1, q2, q3, _⟩ | ⟨_, _, _, q4⟩
  ·exact ⟨q1, q2, q3⟩
  ·omega
 rw [g7.1] at P
 have b3 := h2.trans (t3.fr.below h2.size h1)
 have g8 : ∀ b, F3 b -> w.heap.size <= b := fun b d => (t3.sub b d).elim (h1 b) (fun d => Nat.le_trans h2.size d)
 obtain ⟨d0, _⟩ := bo_all j3
 have HL : Hid ((∀ b, F3 b -> w.heap.size <= b) /\ Below w.heap.size w w3 /\ (S2.1.gcut c.a).s.y = 0 /\ (S2.1.gcut c.a).s.g = 3 /\ (S2.1.gcut c.a).q = [] /\ (vwL c.a.N (S2.1.gcut c.a).s.y (S2.1.gcut c.a).s.g (S2.1.gcut c.a).s.ws (S2.1.gcut c.a).q (S2.1.gcut c.a).s.rs).2.2.length = 1) := ⟨g8, b3, g7.2.1, g7.2.2, g2.q, by rw [h3, h4, g5]; exact gb_v⟩
 clear j3 t3 h1 h2 h3 h4 h5 B2 O2 W2 g1 g2 g3 g4 g5 g6 g7 g8 b3 HK
 generalize S2.1.gcut c.a = S3 at P HL
 go_wp2_with fail
 refine P.mono ?_
 clear P
 rintro e w4 ⟨F4, rfl, j4, t4⟩
 obtain ⟨h1, h2, h3, h4, h5, h6⟩ := HL.out
 have b4 := h2.trans (t4.fr.below h2.size h1)
 have P := usedB_any j4
 dsimp only at P
 rw [h3, h4] at P
 obtain ⟨d0, _, d2, _⟩ := bo_all j4
 have HM : Hid ((boO c).J F4 (S3, S2.2) w4 /\ Below w.heap.size w w4 /\ S3.q = [] /\ (vwL c.a.N S3.s.y S3.s.g S3.s.ws S3.q S3.s.rs).2.2.length = 1) := ⟨j4, b4, h5, h6⟩
 clear j4 t4 h1 h2 h3 h4 h5 h6 b4 HL
 go_wp2_with fail
 refine P.mono ?_
 clear P
 rintro e w5 ⟨rfl, b5⟩
 obtain ⟨h1, h2, h5, h6⟩ := HM.out
 have j5 := (boO c).below h1 b5
 have b6 := h2.trans (b5.mono h2.size)
 have P := viewB_any j5 (by dsimp only; rw [h5]; decide)
 dsimp only at P
 rw [h6] at P
 obtain ⟨d0, _⟩ := bo_all j5
 have HB : Hid (Below w.heap.size w w5) := b6
 clear h1 h2 h5 h6 j5 b5 b6 HM
 go_wp2_with fail
 refine P.mono ?_
 clear P
 rintro e w6 ⟨r2, d2, na, nn, nc, rfl, _, _, rfl, b5⟩
 have HB5 : Hid (Below w.heap.size w w6) := HB.out.trans (b5.mono HB.out.size)
 clear b5 HB
 have hrn := run_nodes (.slice r2 12 d2) (.slice na 1 nc)
 go_wp2_with fail
 go_ret
 exact ⟨rfl, HB5.out⟩
end Go.Proofs.YtnalfnlmaallmaaGreat

namespace Go.Proofs.YtnalfnlmaallmaaGreat
set_option maxRecDepth 100000
open Go.ChangeShapes Go.WideShapes Go.ChangeAt Go.RowKit Go.Joins Go.Deep W Stl
theorem cellsStepC : Tryz.prog.cellsOf 31 = 4 := by kernel_rfl
theorem cellsIC : Tryz.prog.cellsOf 3 = 1 := by kernel_rfl
abbrev S4 := Int × Int × Int × Int
def J64 (a : Int) : Prop := -9223372036854775808 <= a /\ a <= 9223372036854775807
def L4 (w : World) (ad : Option Addr) (l : List S4) : Prop :=
 0 < l.length -> ∃ b o, ad = some ⟨b, o, none⟩ /\ b < w.heap.size /\ ∀ i, i < l.length -> (w.cell? ⟨b, o + i * 4, none⟩ = some (.int .i64 (l.getD i (0, 0, 0, 0)).1) /\ w.cell? ⟨b, o + i * 4 + 1, none⟩ = some (.int .i64 (l.getD i (0, 0, 0, 0)).2.1) /\ w.cell? ⟨b, o + i * 4 + 2, none⟩ = some (.int .i64 (l.getD i (0, 0, 0, 0)).2.2.1) /\ w.cell? ⟨b, o + i * 4 + 3, none⟩ = some (.int .i64 (l.getD i (0, 0, 0, 0)).2.2.2)) /\
  J64 (l.getD i (0, 0, 0, 0)).2.1 /\ J64 (l.getD i (0, 0, 0, 0)).2.2.2
theorem trod_struct4 {H : Type} {enc : TypeId × Value -> H} {P : Program} {w : World} {base : Nat} {spare : Nat -> Bool} {held : Bool} {t : TypeId} {f0 f1 f2 f3 : Field} {fuel : Nat} {cs : List Value} {x : DataW H × List MemPlace} (ht : P.underlying t = some (.struct #[f0, f1, f2, f3])) (h : DataW.trod enc P w base spare held fuel t cs = some x) :
  ∃ y0 y1 y2 y3 n, cs.length = P.cellsOf t /\ DataW.trod enc P w base spare held n f0.type ((cs.drop f0.offset).take (P.cellsOf f0.type)) = some y0 /\
   DataW.trod enc P w base spare held n f1.type ((cs.drop f1.offset).take (P.cellsOf f1.type)) = some y1 /\ DataW.trod enc P w base spare held n f2.type ((cs.drop f2.offset).take (P.cellsOf f2.type)) = some y2 /\
   DataW.trod enc P w base spare held n f3.type ((cs.drop f3.offset).take (P.cellsOf f3.type)) = some y3 := by
 obtain ⟨xs, n, _, rfl, hl, hlen, hf⟩ := DataW.trod_struct ht h
 match xs, hlen with
 | [y0, y1, y2, y3], _ => exact ⟨y0, y1, y2, y3, n, hl, by simpa using hf 0 f0 rfl, by simpa using hf 1 f1 rfl, by simpa using hf 2 f2 rfl, by simpa using hf 3 f3 rfl⟩
theorem list4 {α : Type} {cs : List α} (h : cs.length = 4) : ∃ c0 c1 c2 c3, cs = [c0, c1, c2, c3] := by
 match cs, h with
 | [c0, c1, c2, c3], _ => exact ⟨c0, c1, c2, c3, rfl⟩
theorem bnd64 {a : Int} (h : (Lit.int .i64 a).wf = true) : J64 a := by
 have : IntKind.i64.min <= a /\ a <= 9223372036854775807 := by simpa [Lit.wf] using h
 exact ⟨this.1, this.2⟩
theorem open_step4 {H : Type} {enc : TypeId × Value -> H} {W : World} {sp : Nat -> Bool} {held : Bool} {fuel : Nat} {cs : List Value} {x : DataW H × List MemPlace}
  (hf : DataW.trod enc Tryz.prog W 0 sp held fuel 31 cs = some x) : ∃ d a b c : Int, cs = [.int .i64 d, .int .i64 a, .int .i64 b, .int .i64 c] /\ J64 a /\ J64 c := by
 obtain ⟨y0, y1, y2, y3, n, hl, t0, t1, t2, t3⟩ := trod_struct4 Tryz.underlying31 hf
 rw [cellsStepC] at hl
 obtain ⟨c0, c1, c2, c3, rfl⟩ := list4 hl
 obtain ⟨d, ed, _⟩ := DataW.trod_int Tryz.underlying3 t0
 obtain ⟨a, ea, _, wa⟩ := DataW.trod_int Tryz.underlying3 t1
 obtain ⟨b, eb, _⟩ := DataW.trod_int Tryz.underlying3 t2
 obtain ⟨c, ec, _, wc⟩ := DataW.trod_int Tryz.underlying3 t3
 simp [cellsIC] at ed ea eb ec
 exact ⟨d, a, b, c, by rw [ed, ea, eb, ec], bnd64 wa, bnd64 wc⟩
theorem open_cuts {H : Type} {enc : TypeId × Value -> H} {W : World} {sp : Nat -> Bool} {held : Bool} {fuel len cap : Nat} {ad : Option Addr} {x : DataW H × List MemPlace}
  (hf : DataW.trod enc Tryz.prog W 0 sp held fuel 22 [.slice ad len cap] = some x) : ∃ l : List S4, l.length = len /\ L4 W ad l := by
 rcases open_slice Tryz.underlying22 hf with ⟨hcs, _⟩ | ⟨z, l, c, m, n, D, Pl, hcs, hb, hl, hm, hmm, _, hall⟩
 ·simp at hcs
  obtain ⟨rfl, rfl, rfl⟩ := hcs
  exact ⟨[], rfl, fun h => by simp at h⟩
 ·simp at hcs
  obtain ⟨rfl, rfl, rfl⟩ := hcs
  have hlm : len <= m := by rw [hmm]; split <;> omega
  have key : ∀ i, i < len -> ∃ s : S4, (W.cell? (z.add (i * 4)) = some (.int .i64 s.1) /\ W.cell? (z.add (i * 4 + 1)) = some (.int .i64 s.2.1) /\ W.cell? (z.add (i * 4 + 2)) = some (.int .i64 s.2.2.1) /\ W.cell? (z.add (i * 4 + 3)) = some (.int .i64 s.2.2.2)) /\ J64 s.2.1 /\ J64 s.2.2.2 := by
   intro i hi
   obtain ⟨cs', h1, h2⟩ := hall i (by omega)
   rw [cellsStepC] at h1
   obtain ⟨_, _, hcell⟩ := World.cells?_some h1
   obtain ⟨d, a, b, c, rfl, ha, hc⟩ := open_step4 h2
   refine ⟨(d, a, b, c), ⟨?_, ?_, ?_, ?_⟩, ha, hc⟩
   ·have := hcell 0 (by omega); rw [add_add] at this; simpa using this
   ·have := hcell 1 (by omega); rw [add_add] at this; simpa using this
   ·have := hcell 2 (by omega); rw [add_add] at this; simpa using this
   ·have := hcell 3 (by omega); rw [add_add] at this; simpa using this
  obtain ⟨S, hS⟩ := choose_lt key
  refine ⟨(List.range len).map S, by simp, fun hp => ?_⟩
  simp only [List.length_map, List.length_range] at hp ⊢
  obtain ⟨b, o, spot⟩ := z
  have h0 := (hS 0 hp).1.1
  have hspot : spot = none := by simpa [Addr.add] using World.cell?_spot h0
  subst hspot
  refine ⟨b, o, rfl, World.block_lt_of_cell? W (⟨b, o, none⟩ : Addr) (by simpa [Addr.add] using h0), fun i hi => ?_⟩
  obtain ⟨⟨k0, k1, k2, k3⟩, k5⟩ := hS i hi
  have ea : ∀ j, (⟨b, o, none⟩ : Addr).add j = ⟨b, o + j, none⟩ := fun j => by simp [Addr.add]
  rw [ea] at k0 k1 k2 k3
  have eg : ((List.range len).map S).getD i (0, 0, 0, 0) = S i := by simp [hi]
  rw [eg]
  exact ⟨⟨k0, by rw [Nat.add_assoc]; exact k1, by rw [Nat.add_assoc]; exact k2, by rw [Nat.add_assoc]; exact k3⟩, k5⟩
end Go.Proofs.YtnalfnlmaallmaaGreat

namespace Go.Proofs.YtnalfnlmaallmaaGreat
open Go.RowKit W
end Go.Proofs.YtnalfnlmaallmaaGreat

namespace Go.Proofs.YtnalfnlmaallmaaGreat
open Go.RowKit W
end Go.Proofs.YtnalfnlmaallmaaGreat

namespace Go.Proofs.YtnalfnlmaallmaaGreat
set_option maxRecDepth 100000
set_option maxHeartbeats 400000
open Go.RowKit W
theorem f_any (c a : Int) (w : World) :
  Calls Tryz.prog 48 #[.int .i64 c, .int .i64 a] w fun e w' => e = .returned (.agg #[.int .i64 c, .int .i64 a]) /\ Below w.heap.size w w' := by
 go_enter Tryz.func48, Tryz.ntmps48
 go_wp2_with fail
 exact bodyPost_ret (v := .agg #[.int .i64 c, .int .i64 a]) (by simp [results, Tryz.results48, go_sem]) rfl ⟨rfl, (Below.refl _ _).alloc (Nat.le_refl _) _⟩
end Go.Proofs.YtnalfnlmaallmaaGreat
