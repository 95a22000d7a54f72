/- Joined: Wr7, Hg, Wr10. -/
import Derived.Test.YtnalfnlmaallmaaGreatJ15
import Derived.OrdersHeld
import Derived.Deep.RegionHeld3
import Derived.Deep.AppendLies
namespace Go.Proofs.YtnalfnlmaallmaaGreat
set_option maxRecDepth 100000
set_option maxHeartbeats 1000000
open Go.RowKit W Kp Stl
abbrev stpV (k R A B I n : Int) : Value := .agg #[.int .i64 k, .int .i64 R, .int .i64 A, .int .i64 B, .int .i64 I, .int .i64 n]
abbrev stpC (k R A B I n : Int) : Obj := .cells #[.int .i64 k, .int .i64 R, .int .i64 A, .int .i64 B, .int .i64 I, .int .i64 n] 56
def Wrs.gc (s : Wrs) (A : Nat) (I : Int) : Int := if s.th A < 0 \/ (s.T.getD (s.th A).toNat (0, [], false, false)).1 = 5 then 2 else if I < 0 \/ ((s.T.getD (s.th A).toNat (0, [], false, false)).2.1.length : Int) <= I then 1 else 0
def Wrs.gf (s : Wrs) (A : Nat) (I : Int) : Int × Int := (s.T.getD (s.th A).toNat (0, [], false, false)).2.1.getD I.toNat (0, 0)
section
variable {rp rb : Nat} {most grow : Int} {F : Nat -> Prop} {s : Wrs} {w : World}
theorem wr_ne (h : (wrO rp rb most grow).J F s w) : rb ≠ rp /\ F rb /\ F rp := by
 obtain ⟨own, m2, vT2, v22, v32, hM, hF⟩ := h
 refine ⟨fun e => ?_, (hF rb).2 (by rw [hM.r1]; decide), (hF rp).2 (by rw [hM.b1]; decide)⟩
 have h1 := hM.r1
 rw [e, hM.b1] at h1
 omega
theorem doInt_any (h : (wrO rp rb most grow).J F s w) (R : Nat) (hR : R < 12) (n : Int) :
  Calls Tryz.prog 26 #[.pointer (some ⟨rp, 0, none⟩), stpV 1 R 0 0 0 n] w fun e w' => e = .returned (.int .i64 (rc n (-1152921504606846976))) /\ (wrO rp rb most grow).J F (if rc n (-1152921504606846976) = 0 then { s with rs := s.rs.set R (1, n) } else s) w' /\ Tn F w F w' := by
 have hb0 := (Below.refl w.heap.size w).alloc (Nat.le_refl _) (stpC 1 R 0 0 0 n)
 have P := stepFault_any 1 R 0 0 0 n (Or.inl rfl) ⟨by omega, by omega⟩ ⟨by omega, by omega⟩ ⟨by omega, by omega⟩ (w.alloc (stpC 1 R 0 0 0 n))
 have e1 : sfC 1 n = rc n (-1152921504606846976) := rfl
 rw [e1] at P
 have HJ : Hid ((wrO rp rb most grow).J F s w /\ Below w.heap.size w (w.alloc (stpC 1 R 0 0 0 n))) := ⟨h, hb0⟩
 have hrc : rc n (-1152921504606846976) = 0 \/ rc n (-1152921504606846976) = 1 := by
  unfold rc
  split
  ·exact Or.inr rfl
  ·split
   ·exact Or.inr rfl
   ·exact Or.inl rfl
 clear h hb0 e1
 rcases hrc with hz | hz
 ·rw [hz] at P ⊢
  rw [if_pos rfl]
  clear hz
  go_enter Tryz.func26, Tryz.ntmps26
  go_wp2_with fail
  refine P.mono ?_
  clear P
  rintro e w1 ⟨rfl, hb1⟩
  have hb := HJ.out.2.trans (hb1.mono (by simp))
  have hJ1 := (wrO rp rb most grow).below HJ.out.1 hb
  have hx : w1.heap[w.heap.size]? = some (stpC 1 R 0 0 0 n) := (hb1.block _ (by simp)).trans (heap_alloc_new _ _)
  have q0 : w1.cell? ⟨w.heap.size, 0, none⟩ = some (.int .i64 1) := by simp [World.cell?, hx]
  have q1 : w1.cell? ⟨w.heap.size, 1, none⟩ = some (.int .i64 R) := by simp [World.cell?, hx]
  have q5 : w1.cell? ⟨w.heap.size, 5, none⟩ = some (.int .i64 n) := by simp [World.cell?, hx]
  obtain ⟨c1, _, _, lrp, lrb, cz, hrl, cr⟩ := wr_cells hJ1
  obtain ⟨x0, x1, y0, y1⟩ := cr R hR
  obtain ⟨nrb, hFb, hFp⟩ := wr_ne hJ1
  have lb := (wrO rp rb most grow).lt HJ.out.1 rb hFb
  have lp := (wrO rp rb most grow).lt HJ.out.1 rp hFp
  have nx1 : rb ≠ w.heap.size := by omega
  have nx2 : rp ≠ w.heap.size := by omega
  have HJ1 : Hid ((wrO rp rb most grow).J F s w1 /\ Tn F w F w1) := ⟨hJ1, Tn.of hb⟩
  have r0 : (0 : Int) <= (R : Int) := by omega
  have r1 : (R : Int) < 12 := by omega
  clear hJ1 hb hb1 hx cr cz HJ
  go_wp2_with fail
  go_region_held3 (fun w' => w'.cell? ⟨rp, 1, none⟩ = some (.slice (some ⟨rb, 0, none⟩) 12 12) /\ w'.cell? ⟨w.heap.size, 1, none⟩ = some (.int .i64 R) /\ w'.cell? ⟨w.heap.size, 5, none⟩ = some (.int .i64 n)) (go_keep) (fail)
  obtain ⟨hJ2, hT2⟩ := wr_root HJ1.out.1 R (1, n)
  have HJ2 : Hid (_ /\ _) := ⟨(wrO rp rb most grow).below hJ2 (Below.refl _ _).drew, (HJ1.out.2.trans hT2).below (Below.refl _ _).drew⟩
  clear hJ2 hT2
  go_wp2_with fail
  go_ret
  exact ⟨rfl, HJ2.out.1, HJ2.out.2⟩
 ·rw [hz] at P ⊢
  rw [if_neg (by decide)]
  clear hz
  go_enter Tryz.func26, Tryz.ntmps26
  go_wp2_with fail
  refine P.mono ?_
  clear P
  rintro e w1 ⟨rfl, hb1⟩
  have hb := HJ.out.2.trans (hb1.mono (by simp))
  go_wp2_with fail
  go_ret
  exact ⟨rfl, (wrO rp rb most grow).below HJ.out.1 hb, Tn.of hb⟩
theorem doNil_any (h : (wrO rp rb most grow).J F s w) (R : Nat) (hR : R < 12) :
  Calls Tryz.prog 26 #[.pointer (some ⟨rp, 0, none⟩), stpV 2 R 0 0 0 0] w fun e w' => e = .returned (.int .i64 0) /\ (wrO rp rb most grow).J F { s with rs := s.rs.set R (0, 0) } w' /\ Tn F w F w' := by
 have hb0 := (Below.refl w.heap.size w).alloc (Nat.le_refl _) (stpC 2 R 0 0 0 0)
 have P := stepFault_any 2 R 0 0 0 0 (Or.inr (Or.inl rfl)) ⟨by omega, by omega⟩ ⟨by omega, by omega⟩ ⟨by omega, by omega⟩ (w.alloc (stpC 2 R 0 0 0 0))
 have e1 : sfC 2 0 = 0 := rfl
 rw [e1] at P
 have HJ : Hid ((wrO rp rb most grow).J F s w /\ Below w.heap.size w (w.alloc (stpC 2 R 0 0 0 0))) := ⟨h, hb0⟩
 clear h hb0 e1
 go_enter Tryz.func26, Tryz.ntmps26
 go_wp2_with fail
 refine P.mono ?_
 clear P
 rintro e w1 ⟨rfl, hb1⟩
 have hb := HJ.out.2.trans (hb1.mono (by simp))
 have hJ1 := (wrO rp rb most grow).below HJ.out.1 hb
 have hx : w1.heap[w.heap.size]? = some (stpC 2 R 0 0 0 0) := (hb1.block _ (by simp)).trans (heap_alloc_new _ _)
 have q0 : w1.cell? ⟨w.heap.size, 0, none⟩ = some (.int .i64 2) := by simp [World.cell?, hx]
 have q1 : w1.cell? ⟨w.heap.size, 1, none⟩ = some (.int .i64 R) := by simp [World.cell?, hx]
 obtain ⟨c1, _, _, lrp, lrb, cz, hrl, cr⟩ := wr_cells hJ1
 obtain ⟨x0, x1, y0, y1⟩ := cr R hR
 obtain ⟨nrb, hFb, hFp⟩ := wr_ne hJ1
 have lb := (wrO rp rb most grow).lt HJ.out.1 rb hFb
 have lp := (wrO rp rb most grow).lt HJ.out.1 rp hFp
 have nx1 : rb ≠ w.heap.size := by omega
 have nx2 : rp ≠ w.heap.size := by omega
 have HJ1 : Hid ((wrO rp rb most grow).J F s w1 /\ Tn F w F w1) := ⟨hJ1, Tn.of hb⟩
 have r0 : (0 : Int) <= (R : Int) := by omega
 have r1 : (R : Int) < 12 := by omega
 clear hJ1 hb hb1 hx cr cz HJ
 go_wp2_with fail
 go_region_held3 (fun w' => w'.cell? ⟨rp, 1, none⟩ = some (.slice (some ⟨rb, 0, none⟩) 12 12) /\ w'.cell? ⟨w.heap.size, 1, none⟩ = some (.int .i64 R)) (go_keep) (fail)
 obtain ⟨hJ2, hT2⟩ := wr_root HJ1.out.1 R (0, 0)
 have HJ2 : Hid (_ /\ _) := ⟨(wrO rp rb most grow).below hJ2 (Below.refl _ _).drew, (HJ1.out.2.trans hT2).below (Below.refl _ _).drew⟩
 clear hJ2 hT2
 go_wp2_with fail
 go_ret
 exact ⟨rfl, HJ2.out.1, HJ2.out.2⟩
end
end Go.Proofs.YtnalfnlmaallmaaGreat

namespace Go.Proofs.YtnalfnlmaallmaaGreat
open Go
section
variable {P : Program} {ops : Array Oper} {Q : Exit -> Act -> World -> Prop} {md : Region.Mode} {T S : World -> Prop} {St : List Nat}
def came (St : List Nat) (listed : Array Bool) : Prop := ∃ s ∈ St, listed.getD s false = true
def anyG (P : Program) (md : Region.Mode) (ops : Array Oper) (Q : Exit -> Act -> World -> Prop) (T S : World -> Prop) (St : List Nat) : Nat -> Array Bool -> Act -> World -> Prop
 | 0, listed, a, w => Region.ready md ops listed = [] /\ Q .normal a w
 | fuel + 1, listed, a, w => (Region.ready md ops listed = [] -> Q .normal a w) /\
  ∀ i ∈ Region.ready md ops listed, wpOp P ops Q i (fun a' w' => (T w' /\ (came St (listed.setIfInBounds i true) \/ S w')) /\ anyG P md ops Q T S St fuel (listed.setIfInBounds i true) a' w') a w
theorem any_of_G : ∀ (fuel : Nat) (listed : Array Bool) (a : Act) (w : World), anyG P md ops Q T S St fuel listed a w -> wpAny P md ops Q fuel listed a w
 | 0, _, _, _, h => h
 | fuel + 1, _, _, _, h => ⟨h.1, fun i hi => wpOp_mono (fun a' w' h' => any_of_G fuel _ a' w' h'.2) (h.2 i hi)⟩
def waits (md : Region.Mode) (ops : Array Oper) (St : List Nat) (i : Nat) : Bool :=
 St.all fun s => match ops[s]? with
  | some o => o.after.any fun e => Region.binds md e && e.on == i
  | none => false
theorem no_store {i j : Nat} {listed : Array Bool} (hw : waits md ops St i = true) (hi : i ∈ Region.ready md ops listed) (hj : j ∈ Region.ready md ops listed) : j ∉ St := by
 intro hs
 have h1 := List.all_eq_true.1 hw j hs
 obtain ⟨h0, o, ho, hall⟩ := mem_ready.1 hj
 rw [ho] at h1
 obtain ⟨e, he, hb⟩ := Array.any_eq_true'.1 h1
 rw [Bool.and_eq_true, beq_iff_eq] at hb
 have h2 := hall e he hb.1
 rw [hb.2] at h2
 have h3 := (mem_ready.1 hi).1
 rcases Nat.lt_or_ge i listed.size with h' | h'
 ·simp [h'] at h2 h3
  rw [h3] at h2
  cases h2
 ·simp [Array.getElem?_eq_none h'] at h2
theorem came_set {i : Nat} {listed : Array Bool} (hn : ¬ came St listed) (hi : i ∉ St) : ¬ came St (listed.setIfInBounds i true) := by
 rintro ⟨s, hs, h⟩
 have hne : i ≠ s := fun e => hi (by rw [e]; exact hs)
 exact hn ⟨s, hs, by rw [getD_set_ne false hne] at h; exact h⟩
theorem G_first {i : Nat} {oi : Oper} {v : Value} (hi : ops[i]? = some oi) (hiS : i ∉ St) (hwt : waits md ops St i = true) (hsel : ∀ (j : Nat) (o : Oper) cs b, ops[j]? = some o -> o.op ≠ .select cs b)
  (hQ : ∀ c a w, Q (.panic c) (a.put oi.dst v) w -> Q (.panic c) a w) :
  ∀ (fuel : Nat) (listed : Array Bool) (a : Act) (w : World),
   (∀ j oj, ops[j]? = some oj -> j ≠ i -> listed.getD j true = false -> (∀ e ∈ oj.after, Region.binds md e = true -> e.on ≠ i) -> oi.apart ops oj = true) ->
   i ∈ Region.ready md ops listed -> ¬ came St listed -> YieldsIf P ops (fun w => T w /\ S w) oi v a -> T w /\ S w ->
   anyG P md ops Q T S St fuel (listed.setIfInBounds i true) (a.put oi.dst v) w -> anyG P md ops Q T S St (fuel + 1) listed a w := by
 intro fuel
 induction fuel with
 | zero =>
  intro listed a w _ hr _ hy hS H
  refine ⟨fun h => absurd hr (by rw [h]; simp), fun j hj => ?_⟩
  by_cases hji : j = i
  ·rw [hji]
   exact hy.wpOp hi hS ⟨⟨hS.1, Or.inr hS.2⟩, H⟩
  ·have hm := ready_mono hj hji
   rw [H.1] at hm
   simp at hm
 | succ fuel ih =>
  intro listed a w hfree hr hnc hy hS H
  refine ⟨fun h => absurd hr (by rw [h]; simp), fun j hj => ?_⟩
  by_cases hji : j = i
  ·rw [hji]
   exact hy.wpOp hi hS ⟨⟨hS.1, Or.inr hS.2⟩, H⟩
  ·have hjS := no_store hwt hr hj
   have hstep := H.2 j (ready_mono hj hji)
   obtain ⟨hjun, oj, hoj, hall⟩ := mem_ready.1 hj
   have hapart : oi.apart ops oj = true := hfree j oj hoj hji hjun (fun e he hb heq => by
    have h2 := hall e he hb
    rw [heq] at h2
    have h3 := (mem_ready.1 hr).1
    rcases Nat.lt_or_ge i listed.size with h' | h'
    ·simp [h'] at h2 h3
     rw [h3] at h2
     cases h2
    ·simp [Array.getElem?_eq_none h'] at h2)
   refine wpOp_mono (fun a' w' h => ?_) (wpOp_putIf hoj hapart (fun cs b => hsel i oi cs b hi) (fun cs b => hsel j oj cs b hoj) hQ hy hstep)
   obtain ⟨hy', hSw, hG⟩ := h
   have hnc' := came_set hnc hjS
   have hSw' : T w' /\ S w' := ⟨hSw.1, hSw.2.resolve_left (came_set (came_set hnc hiS) hjS)⟩
   refine ⟨⟨hSw'.1, Or.inr hSw'.2⟩, ih (listed.setIfInBounds j true) a' w' (fun k ok hk hki hun hno => hfree k ok hk hki ?_ hno) (ready_mono hr (Ne.symm hji)) hnc' hy' hSw' ?_⟩
   ·by_cases hjk : j = k
    ·rw [<- hjk]; exact hjun
    ·rwa [getD_set_ne true hjk] at hun
   ·rwa [Array.setIfInBounds_comm _ _ hji]
theorem G_always {i : Nat} {oi : Oper} {v : Value} (hi : ops[i]? = some oi) (hiS : i ∉ St) (hsel : ∀ (j : Nat) (o : Oper) cs b, ops[j]? = some o -> o.op ≠ .select cs b)
  (hQ : ∀ c a w, Q (.panic c) (a.put oi.dst v) w -> Q (.panic c) a w) :
  ∀ (fuel : Nat) (listed : Array Bool) (a : Act) (w : World),
   (∀ j oj, ops[j]? = some oj -> j ≠ i -> listed.getD j true = false -> (∀ e ∈ oj.after, Region.binds md e = true -> e.on ≠ i) -> oi.apart ops oj = true) ->
   i ∈ Region.ready md ops listed -> YieldsIf P ops T oi v a -> T w -> (came St listed \/ S w) ->
   anyG P md ops Q T S St fuel (listed.setIfInBounds i true) (a.put oi.dst v) w -> anyG P md ops Q T S St (fuel + 1) listed a w := by
 have up : ∀ {listed : Array Bool} {k : Nat}, came St listed -> came St (listed.setIfInBounds k true) := fun ⟨s, hs, h⟩ => ⟨s, hs, getD_set_true h⟩
 intro fuel
 induction fuel with
 | zero =>
  intro listed a w _ hr hy hT hc H
  refine ⟨fun h => absurd hr (by rw [h]; simp), fun j hj => ?_⟩
  by_cases hji : j = i
  ·rw [hji]
   exact hy.wpOp hi hT ⟨⟨hT, hc.imp up id⟩, H⟩
  ·have hm := ready_mono hj hji
   rw [H.1] at hm
   simp at hm
 | succ fuel ih =>
  intro listed a w hfree hr hy hT hc H
  refine ⟨fun h => absurd hr (by rw [h]; simp), fun j hj => ?_⟩
  by_cases hji : j = i
  ·rw [hji]
   exact hy.wpOp hi hT ⟨⟨hT, hc.imp up id⟩, H⟩
  ·have hstep := H.2 j (ready_mono hj hji)
   obtain ⟨hjun, oj, hoj, hall⟩ := mem_ready.1 hj
   have hapart : oi.apart ops oj = true := hfree j oj hoj hji hjun (fun e he hb heq => by
    have h2 := hall e he hb
    rw [heq] at h2
    have h3 := (mem_ready.1 hr).1
    rcases Nat.lt_or_ge i listed.size with h' | h'
    ·simp [h'] at h2 h3
     rw [h3] at h2
     cases h2
    ·simp [Array.getElem?_eq_none h'] at h2)
   refine wpOp_mono (fun a' w' h => ?_) (wpOp_putIf hoj hapart (fun cs b => hsel i oi cs b hi) (fun cs b => hsel j oj cs b hoj) hQ hy hstep)
   obtain ⟨hy', hSw, hG⟩ := h
   have hc' : came St (listed.setIfInBounds j true) \/ S w' := hSw.2.imp (fun ⟨s, hs, h⟩ => by
    have hne : i ≠ s := fun e => hiS (by rw [e]; exact hs)
    refine ⟨s, hs, ?_⟩
    rw [Array.setIfInBounds_comm _ _ (Ne.symm hji), getD_set_ne false hne] at h
    exact h) id
   refine ⟨⟨hSw.1, hc'⟩, ih (listed.setIfInBounds j true) a' w' (fun k ok hk hki hun hno => hfree k ok hk hki ?_ hno) (ready_mono hr (Ne.symm hji)) hy' hSw.1 hc' ?_⟩
   ·by_cases hjk : j = k
    ·rw [<- hjk]; exact hjun
    ·rwa [getD_set_ne true hjk] at hun
   ·rwa [Array.setIfInBounds_comm _ _ hji]
theorem G_take {i : Nat} {oi : Oper} {v : Value} {fuel : Nat} {listed : Array Bool} {a : Act} {w : World} (hi : ops[i]? = some oi)
  (hs : Region.noSelect ops = true) (hf : Region.free md ops listed i = true) (hr : (Region.ready md ops listed).contains i = true) (hiS : St.contains i = false) (hwt : waits md ops St i = true) (hnc : (St.all fun s => !listed.getD s false) = true)
  (hQ : ∀ c a w, Q (.panic c) (a.put oi.dst v) w -> Q (.panic c) a w) (hy : YieldsIf P ops (fun w => T w /\ S w) oi v a) (hS : T w /\ S w)
  (h : anyG P md ops Q T S St fuel (listed.setIfInBounds i true) (a.put oi.dst v) w) : anyG P md ops Q T S St (fuel + 1) listed a w :=
 G_first hi (fun h => by rw [List.contains_iff_mem.2 h] at hiS; cases hiS) hwt (Region.noSelect_spec hs) hQ fuel listed a w (Region.free_spec hi hf) (by simpa using hr) (fun ⟨s, hs, hc⟩ => by
  have := List.all_eq_true.1 hnc s hs
  rw [hc] at this
  cases this) hy hS h
theorem G_takeA {i : Nat} {oi : Oper} {v : Value} {fuel : Nat} {listed : Array Bool} {a : Act} {w : World} (hi : ops[i]? = some oi)
  (hs : Region.noSelect ops = true) (hf : Region.free md ops listed i = true) (hr : (Region.ready md ops listed).contains i = true) (hiS : St.contains i = false)
  (hQ : ∀ c a w, Q (.panic c) (a.put oi.dst v) w -> Q (.panic c) a w) (hy : YieldsIf P ops T oi v a) (hT : T w) (hc : came St listed \/ S w)
  (h : anyG P md ops Q T S St fuel (listed.setIfInBounds i true) (a.put oi.dst v) w) : anyG P md ops Q T S St (fuel + 1) listed a w :=
 G_always hi (fun h => by rw [List.contains_iff_mem.2 h] at hiS; cases hiS) (Region.noSelect_spec hs) hQ fuel listed a w (Region.free_spec hi hf) (by simpa using hr) hy hT hc h
theorem wpOp_of_wp {i : Nat} {o : Oper} {K : Act -> World -> Prop} {a : Act} {w : World} (hi : ops[i]? = some o) (hg : o.guard = none) (h : o.wp P a w K Q) : wpOp P ops Q i K a w := by
 unfold wpOp
 rw [hi]
 dsimp only
 rw [if_pos (by simp [Region.wanted, hg])]
 exact Or.inl h
theorem wpOp_of_wpG {i : Nat} {o : Oper} {K : Act -> World -> Prop} {a : Act} {w : World} (hi : ops[i]? = some o) (hg : Region.wanted o (yielded ops a.tmps) = true) (h : o.wp P a w K Q) : wpOp P ops Q i K a w := by
 unfold wpOp
 rw [hi]
 dsimp only
 rw [if_pos hg]
 exact Or.inl h
theorem G_one {i : Nat} {fuel : Nat} {listed : Array Bool} {a : Act} {w : World} (hr : Region.ready md ops listed = [i])
  (h : wpOp P ops Q i (fun a' w' => (T w' /\ (came St (listed.setIfInBounds i true) \/ S w')) /\ anyG P md ops Q T S St fuel (listed.setIfInBounds i true) a' w') a w) : anyG P md ops Q T S St (fuel + 1) listed a w :=
 ⟨fun h0 => (by rw [hr] at h0; cases h0), fun j hj => (by rw [hr] at hj; rw [List.mem_singleton] at hj; rw [hj]; exact h)⟩
theorem G_done {listed : Array Bool} {a : Act} {w : World} (hr : Region.ready md ops listed = []) (h : Q .normal a w) : ∀ fuel, anyG P md ops Q T S St fuel listed a w
 | 0 => ⟨hr, h⟩
 | _ + 1 => ⟨fun _ => h, by rw [hr]; simp⟩
end
end Go.Proofs.YtnalfnlmaallmaaGreat

namespace Go.Proofs.YtnalfnlmaallmaaGreat
set_option maxRecDepth 100000
set_option maxHeartbeats 2000000
open Go.RowKit W Kp Stl
theorem infoREn : (Tryz.prog.info? 124).map (fun i => (i.zero, i.size, i.bytes)) = some (some (.agg #[.int .i64 0, .int .i64 0]), 2, 16) := by kernel_rfl
def Wrs.rc (s : Wrs) (A B : Nat) : Int := if s.th A < 0 \/ s.gd B < 0 then 2 else if 24 <= s.rg.length + s.wt.length then 3 else 0
section
variable {rp rb : Nat} {most grow : Int} {F : Nat -> Prop} {s : Wrs} {w : World}
theorem doReg_any (h : (wrO rp rb most grow).J F s w) (A B : Nat) (hA : A < 12) (hB : B < 12) (hth : 0 <= s.th B -> s.th B < s.T.length) (hrg : s.rg.length <= 10000) (hwt : s.wt.length <= 10000) :
    Calls Tryz.prog 26 #[.pointer (some ⟨rp, 0, none⟩), stpV 9 0 A B 0 0] w fun e w' => ∃ F', e = .returned (.int .i64 (s.rc A B)) /\ (wrO rp rb most grow).J F' (if s.rc A B = 0 then { s with rg := s.rg ++ [(s.gd B, s.th A)] } else s) w' /\ Tn F w F' w' := by
  have hb0 := (Below.refl w.heap.size w).alloc (Nat.le_refl _) (stpC 9 0 A B 0 0)
  have P := stepFault_any 9 0 A B 0 0 (Or.inr (Or.inr (Or.inl rfl))) ⟨by omega, by omega⟩ ⟨by omega, by omega⟩ ⟨by omega, by omega⟩ (w.alloc (stpC 9 0 A B 0 0))
  have e1 : sfC 9 0 = 0 := rfl
  rw [e1] at P
  have HJ : Hid ((wrO rp rb most grow).J F s w /\ Below w.heap.size w (w.alloc (stpC 9 0 A B 0 0))) := ⟨h, hb0⟩
  have HRC : Hid (s.rc A B = if s.th A < 0 \/ s.gd B < 0 then 2 else if 24 <= s.rg.length + s.wt.length then 3 else 0) := rfl
  have PT : Hid (∀ w', (wrO rp rb most grow).J F s w' -> Calls Tryz.prog 82 #[.pointer (some ⟨rp, 0, none⟩), .int .i64 A] w' fun e w'' => e = .returned (.int .i64 (s.th A)) /\ w'' = w') := fun w' hh => thingW_any hh A hA
  have PG : Hid (∀ w', (wrO rp rb most grow).J F s w' -> Calls Tryz.prog 83 #[.pointer (some ⟨rp, 0, none⟩), .int .i64 B] w' fun e w'' => e = .returned (.int .i64 (s.gd B)) /\ w'' = w') := fun w' hh => guardW_any hh B hB hth
  have hrp : rp < w.heap.size := (wr_cells h).2.2.2.1
  have ltF : Hid (∀ b, F b -> b < w.heap.size) := (wrO rp rb most grow).lt h
  clear h hb0 e1 hth
  generalize s.rc A B = z at HRC ⊢
  generalize s.th A = a at *
  generalize s.gd B = g at *
  obtain ⟨i0, hi0, hz0, hz1, hz2⟩ := info_parts infoREn
  go_enter Tryz.func26, Tryz.ntmps26
  go_wp2_with fail
  refine P.mono ?_
  clear P
  rintro e w1 ⟨rfl, hb1⟩
  have hb := HJ.out.2.trans (hb1.mono (by simp))
  have hJ1 := (wrO rp rb most grow).below HJ.out.1 hb
  have hx : w1.heap[w.heap.size]? = some (stpC 9 0 A B 0 0) := (hb1.block _ (by simp)).trans (heap_alloc_new _ _)
  have q0 : w1.cell? ⟨w.heap.size, 0, none⟩ = some (.int .i64 9) := by simp [World.cell?, hx]
  have q2 : w1.cell? ⟨w.heap.size, 2, none⟩ = some (.int .i64 A) := by simp [World.cell?, hx]
  have q3 : w1.cell? ⟨w.heap.size, 3, none⟩ = some (.int .i64 B) := by simp [World.cell?, hx]
  have lx := lt_of_some hx
  obtain ⟨_, _, _, lrp, _, cz, _, _⟩ := wr_cells hJ1
  have z2 := cz 2
  obtain ⟨v2, v3, d2, d3, hr2, hr3, rne, hup⟩ := wr_regs hJ1
  obtain ⟨a2, k2, e2⟩ := row_slice hr2
  obtain ⟨a3, k3, e3⟩ := row_slice hr3
  subst e2 e3
  have HJ1 : Hid ((wrO rp rb most grow).J F s w1 /\ Tn F w F w1) := ⟨hJ1, Tn.of hb⟩
  have HR : Hid (w1.ownsRow 0 124 2 (.slice a2 s.rg.length k2) s.rg.length (ev s.rg) /\ (∀ (l : List En) (v1 : Value) (w' : World), Fr (fun b => some b = (Value.slice a2 s.rg.length k2).ownBlock) w1 w' -> w'.ownsRow 0 124 2 v1 l.length (ev l) -> (∀ b, some b = v1.ownBlock -> some b = (Value.slice a2 s.rg.length k2).ownBlock \/ w1.heap.size <= b) ->
      (wrO rp rb most grow).J (fun b => F b \/ some b = v1.ownBlock) { s with rg := l } (w'.setCell ⟨rp, 2, none⟩ v1) /\ Fr F w1 (w'.setCell ⟨rp, 2, none⟩ v1)) /\ ∀ b, some b = (Value.slice a2 s.rg.length k2).ownBlock -> F b) := ⟨hr2, hup, fun b e => by
    obtain ⟨own, m2, vT2, v22, v32, hM, hF⟩ := hJ1
    have h1 := hM.blk
    have e4 : v22 = .slice a2 s.rg.length k2 := by simpa [World.cell?, h1] using d2
    exact (hF b).2 (by rw [hM.g2o b (by rw [e4]; exact e)]; decide)⟩
  clear hJ1 hb hb1 hx cz HJ hr2 hr3 hup
  go_wp2_with fail
  refine (PT.out w1 HJ1.out.1).mono ?_
  rintro e w2 ⟨rfl, hw2⟩
  have hw2 := hw2.symm
  subst hw2
  by_cases ha : a < 0
  · have hz : z = 2 := by rw [HRC.out, if_pos (Or.inl ha)]
    go_wp2_with fail
    go_ret
    exact ⟨rfl, F, HJ1.out.1, HJ1.out.2⟩
  · go_wp2_with fail
    refine (PG.out w1 HJ1.out.1).mono ?_
    rintro e w2 ⟨rfl, hw2⟩
    have hw2 := hw2.symm
    subst hw2
    by_cases hg : g < 0
    · have hz : z = 2 := by rw [HRC.out, if_pos (Or.inr hg)]
      go_wp2_with fail
      go_ret
      exact ⟨rfl, F, HJ1.out.1, HJ1.out.2⟩
    · have hn24 : ∃ n : Nat, n = s.rg.length + s.wt.length := ⟨_, rfl⟩
      by_cases hf : 24 <= s.rg.length + s.wt.length
      · have hz : z = 3 := by rw [HRC.out, if_neg (by omega), if_pos hf]
        have hf1 : (24 : Int) <= (s.rg.length : Int) + (s.wt.length : Int) := by omega
        go_upto_region 30 with fail
        go_quiet (fail)
        go_wp2_with fail
        go_ret
        have hb := below_drewN (Below.refl w1.heap.size w1) nq
        exact ⟨rfl, F, (wrO rp rb most grow).below HJ1.out.1 hb, HJ1.out.2.below hb⟩
      · have hz : z = 0 := by rw [HRC.out, if_neg (by omega), if_neg hf]
        have hf1 : ¬ (24 : Int) <= (s.rg.length : Int) + (s.wt.length : Int) := by omega
        go_upto_region 30 with fail
        go_quiet (fail)
        have hb := below_drewN (Below.refl w1.heap.size w1) nq
        generalize w1.drewN nq = w2 at *
        have hJ2 := (wrO rp rb most grow).below HJ1.out.1 hb
        have p2 := (hb.cell (p := ⟨w.heap.size, 2, none⟩) lx).trans q2
        have p3 := (hb.cell (p := ⟨w.heap.size, 3, none⟩) lx).trans q3
        have e2 := (hb.cell (p := ⟨rp, 2, none⟩) lrp).trans d2
        have y2 := (hb.frozen (p := ⟨rp, 2, none⟩) lrp).trans z2
        have lr2 : rp < w2.heap.size := by have := hb.size; omega
        have lx2 : w.heap.size < w2.heap.size := by have := hb.size; omega
        have hbd := (Below.refl w2.heap.size w2).drew
        have hba := ((Below.refl w2.heap.size w2).alloc (Nat.le_refl _) (.cells #[.int .i64 g, .int .i64 a] 124)).drew
        have HSd : Hid ((w2.alloc (.cells #[.int .i64 g, .int .i64 a] 124)).drew.ownsRow 0 124 2 (.slice a2 s.rg.length k2) s.rg.length (ev s.rg)) := row_keep (row_alloc (row_keep HR.out.1 (fun b e => hb.block b (row_lt HR.out.1 b e).2)) _) (fun _ _ => rfl)
        have hba2 := ((Below.refl w2.heap.size w2).drew).alloc (Nat.le_refl _) (.cells #[.int .i64 g, .int .i64 a] 124)
        have HSd2 : Hid ((w2.drew.alloc (.cells #[.int .i64 g, .int .i64 a] 124)).ownsRow 0 124 2 (.slice a2 s.rg.length k2) s.rg.length (ev s.rg)) := row_keep (w := w2) (row_keep HR.out.1 (fun b e => hb.block b (row_lt HR.out.1 b e).2)) (fun b e => hba2.block b (by have h1 := (row_lt HR.out.1 b e).2; have := hb.size; omega))
        have C1 := PT.out w2.drew ((wrO rp rb most grow).below hJ2 hbd)
        have C2 := PG.out w2.drew ((wrO rp rb most grow).below hJ2 hbd)
        have HB : Hid (Below w1.heap.size w1 w2) := hb
        clear q2 q3 d2 d3 z2 hJ2 hb PT PG q0 HRC
        go_wp2_with fail
        have nx1 : rp ≠ w.heap.size := by omega
        have rnx : some w.heap.size ≠ (Value.slice a2 s.rg.length k2).ownBlock := fun e => by have := ltF.out _ (HR.out.2.2 _ e); omega
        refine wp_region_noPanic ?_
        refine wp_region_any (by kernel_rfl) ?_
        have hTS : (w2.drew.cell? ⟨w.heap.size, 2, none⟩ = some (.int .i64 A) /\ w2.drew.cell? ⟨w.heap.size, 3, none⟩ = some (.int .i64 B)) /\ w2.drew.cell? ⟨rp, 2, none⟩ = some (.slice a2 s.rg.length k2) := ⟨⟨p2, p3⟩, e2⟩
        refine any_of_G (T := fun w' => w'.cell? ⟨w.heap.size, 2, none⟩ = some (.int .i64 A) /\ w'.cell? ⟨w.heap.size, 3, none⟩ = some (.int .i64 B)) (S := fun w' => w'.cell? ⟨rp, 2, none⟩ = some (.slice a2 s.rg.length k2)) (St := [18]) _ _ _ _ ?_
        refine G_takeA (i := 0) (v := ?_) rfl (by kernel_rfl) (by kernel_rfl) (by kernel_rfl) (by kernel_rfl) (fun _ _ _ h => h) (Or.inl ⟨by rfl, ?_⟩) hTS.1 (Or.inr hTS.2) ?_
        rotate_left
        · intro w hS
          go_simp
          try rfl
        try simp only [Act.put, List.getElem_toArray, List.getElem_cons_zero, List.setIfInBounds_toArray, List.set_cons_zero, List.set_cons_succ]
        refine G_takeA (i := 1) (v := ?_) rfl (by kernel_rfl) (by kernel_rfl) (by kernel_rfl) (by kernel_rfl) (fun _ _ _ h => h) (Or.inl ⟨by rfl, ?_⟩) hTS.1 (Or.inr hTS.2) ?_
        rotate_left
        · intro w hS
          go_simp
          try rfl
        try simp only [Act.put, List.getElem_toArray, List.getElem_cons_succ, List.getElem_cons_zero, List.setIfInBounds_toArray, List.set_cons_zero, List.set_cons_succ]
        refine G_takeA (i := 2) (v := ?_) rfl (by kernel_rfl) (by kernel_rfl) (by kernel_rfl) (by kernel_rfl) (fun _ _ _ h => h) (Or.inl ⟨by rfl, ?_⟩) hTS.1 (Or.inr hTS.2) ?_
        rotate_left
        · intro w hS
          go_simp
          try rfl
        try simp only [Act.put, List.getElem_toArray, List.getElem_cons_succ, List.getElem_cons_zero, List.setIfInBounds_toArray, List.set_cons_zero, List.set_cons_succ]
        refine G_takeA (i := 3) (v := ?_) rfl (by kernel_rfl) (by kernel_rfl) (by kernel_rfl) (by kernel_rfl) (fun _ _ _ h => h) (Or.inl ⟨by rfl, ?_⟩) hTS.1 (Or.inr hTS.2) ?_
        rotate_left
        · intro w hS
          go_simp
          try rfl
        try simp only [Act.put, List.getElem_toArray, List.getElem_cons_succ, List.getElem_cons_zero, List.setIfInBounds_toArray, List.set_cons_zero, List.set_cons_succ]
        refine G_take (i := 4) (v := ?_) rfl (by kernel_rfl) (by kernel_rfl) (by kernel_rfl) (by kernel_rfl) (by kernel_rfl) (by kernel_rfl) (fun _ _ _ h => h) (Or.inl ⟨by rfl, ?_⟩) hTS ?_
        rotate_left
        · intro w hS
          have hS1 := hS.2
          go_simp
          try rfl
        try simp only [Act.put, List.getElem_toArray, List.getElem_cons_succ, List.getElem_cons_zero, List.setIfInBounds_toArray, List.set_cons_zero, List.set_cons_succ]
        refine G_takeA (i := 5) (v := ?_) rfl (by kernel_rfl) (by kernel_rfl) (by kernel_rfl) (by kernel_rfl) (fun _ _ _ h => h) (Or.inl ⟨by rfl, ?_⟩) hTS.1 (Or.inr hTS.2) ?_
        rotate_left
        · intro w hS
          go_simp
          try rfl
        try simp only [Act.put, List.getElem_toArray, List.getElem_cons_succ, List.getElem_cons_zero, List.setIfInBounds_toArray, List.set_cons_zero, List.set_cons_succ]
        refine G_takeA (i := 6) (v := ?_) rfl (by kernel_rfl) (by kernel_rfl) (by kernel_rfl) (by kernel_rfl) (fun _ _ _ h => h) (Or.inl ⟨by rfl, ?_⟩) hTS.1 (Or.inr hTS.2) ?_
        rotate_left
        · intro w hS
          go_simp
          try rfl
        try simp only [Act.put, List.getElem_toArray, List.getElem_cons_succ, List.getElem_cons_zero, List.setIfInBounds_toArray, List.set_cons_zero, List.set_cons_succ]
        refine G_takeA (i := 7) (v := ?_) rfl (by kernel_rfl) (by kernel_rfl) (by kernel_rfl) (by kernel_rfl) (fun _ _ _ h => h) (Or.inl ⟨by rfl, ?_⟩) hTS.1 (Or.inr hTS.2) ?_
        rotate_left
        · intro w hS
          have hS1 := hS.1
          have hS2 := hS.2
          go_simp
          try rfl
        try simp only [Act.put, List.getElem_toArray, List.getElem_cons_succ, List.getElem_cons_zero, List.setIfInBounds_toArray, List.set_cons_zero, List.set_cons_succ]
        refine G_takeA (i := 9) (v := ?_) rfl (by kernel_rfl) (by kernel_rfl) (by kernel_rfl) (by kernel_rfl) (fun _ _ _ h => h) (Or.inl ⟨by rfl, ?_⟩) hTS.1 (Or.inr hTS.2) ?_
        rotate_left
        · intro w hS
          go_simp
          try rfl
        try simp only [Act.put, List.getElem_toArray, List.getElem_cons_succ, List.getElem_cons_zero, List.setIfInBounds_toArray, List.set_cons_zero, List.set_cons_succ]
        refine G_takeA (i := 10) (v := ?_) rfl (by kernel_rfl) (by kernel_rfl) (by kernel_rfl) (by kernel_rfl) (fun _ _ _ h => h) (Or.inl ⟨by rfl, ?_⟩) hTS.1 (Or.inr hTS.2) ?_
        rotate_left
        · intro w hS
          go_simp
          try rfl
        try simp only [Act.put, List.getElem_toArray, List.getElem_cons_succ, List.getElem_cons_zero, List.setIfInBounds_toArray, List.set_cons_zero, List.set_cons_succ]
        refine G_takeA (i := 11) (v := ?_) rfl (by kernel_rfl) (by kernel_rfl) (by kernel_rfl) (by kernel_rfl) (fun _ _ _ h => h) (Or.inl ⟨by rfl, ?_⟩) hTS.1 (Or.inr hTS.2) ?_
        rotate_left
        · intro w hS
          have hS1 := hS.1
          have hS2 := hS.2
          go_simp
          try rfl
        try simp only [Act.put, List.getElem_toArray, List.getElem_cons_succ, List.getElem_cons_zero, List.setIfInBounds_toArray, List.set_cons_zero, List.set_cons_succ]
        refine G_one (i := 8) (by kernel_rfl) ?_
        refine wpOp_of_wp rfl rfl ?_
        simp only [List.getElem_toArray, List.getElem_cons_succ, List.getElem_cons_zero]
        go_simp
        refine C2.mono ?_
        rintro e w4 ⟨rfl, hw4⟩
        have hw4 := hw4.symm
        subst hw4
        dsimp only
        refine ⟨⟨hTS.1, Or.inr hTS.2⟩, ?_⟩
        try simp only [Act.put, List.getElem_toArray, List.getElem_cons_succ, List.getElem_cons_zero, List.setIfInBounds_toArray, List.set_cons_zero, List.set_cons_succ]
        refine G_one (i := 12) (by kernel_rfl) ?_
        refine wpOp_of_wp rfl rfl ?_
        simp only [List.getElem_toArray, List.getElem_cons_succ, List.getElem_cons_zero]
        go_simp
        refine C1.mono ?_
        rintro e w4 ⟨rfl, hw4⟩
        have hw4 := hw4.symm
        subst hw4
        dsimp only
        refine ⟨⟨hTS.1, Or.inr hTS.2⟩, ?_⟩
        try simp only [Act.put, List.getElem_toArray, List.getElem_cons_succ, List.getElem_cons_zero, List.setIfInBounds_toArray, List.set_cons_zero, List.set_cons_succ]
        refine G_takeA (i := 13) (v := ?_) rfl (by kernel_rfl) (by kernel_rfl) (by kernel_rfl) (by kernel_rfl) (fun _ _ _ h => h) (Or.inl ⟨by rfl, ?_⟩) hTS.1 (Or.inr hTS.2) ?_
        rotate_left
        · intro w hS
          go_simp
          try rfl
        try simp only [Act.put, List.getElem_toArray, List.getElem_cons_succ, List.getElem_cons_zero, List.setIfInBounds_toArray, List.set_cons_zero, List.set_cons_succ]
        refine G_one (i := 14) (by kernel_rfl) ?_
        refine wpOp_of_wp rfl rfl ?_
        simp only [List.getElem_toArray, List.getElem_cons_succ, List.getElem_cons_zero]
        go_simp
        refine G_one (i := 15) (by kernel_rfl) ?_
        refine wpOp_of_wp rfl rfl ?_
        refine wp_append_lies _ (.tmp 149) (.tmp 159) 119 rfl 0 124 i0 (.agg #[.int .i64 0, .int .i64 0]) 2 16 Tryz.underlying119 hi0 hz0 hz1 hz2 rfl (by decide) (.slice a2 s.rg.length k2) s.rg.length (ev s.rg) (by simp [Act.eval]) HSd.out ⟨w2.heap.size, 0, none⟩ 1 1 [.int .i64 g, .int .i64 a] (by simp [Act.eval]) rfl ?_ ?_ (by decide) (by unfold maxLen; omega) (by omega) (by simp) _ rfl ?_
        · (intro j u hj; match j, hj with | 0, hj => (simp at hj; subst hj; simp [Addr.add]) | 1, hj => (simp at hj; subst hj; simp [Addr.add]))
        · (intro u hu; simp at hu; rcases hu with hu | hu <;> (subst hu; rfl))
        intro b4 cap4 w4 hown4 hgrow4 hat4 hlt4
        have d4 := hgrow4.cell (a := ⟨rp, 2, none⟩) (v := .slice a2 s.rg.length k2) ((hba.cell (p := ⟨rp, 2, none⟩) lr2).trans e2) rne
        have f4 : w4.frozen? ⟨rp, 2, none⟩ = false := (World.frozen?_of_block (a := ⟨rp, 2, none⟩) (hgrow4.block _ (Nat.lt_of_lt_of_le lr2 hba.size) rne)).trans ((hba.frozen (p := ⟨rp, 2, none⟩) lr2).trans y2)
        have d42 := hgrow4.cell (a := ⟨w.heap.size, 2, none⟩) ((hba.cell (p := ⟨w.heap.size, 2, none⟩) lx2).trans p2) rnx
        have d43 := hgrow4.cell (a := ⟨w.heap.size, 3, none⟩) ((hba.cell (p := ⟨w.heap.size, 3, none⟩) lx2).trans p3) rnx
        refine ⟨⟨⟨d42, d43⟩, Or.inr d4⟩, ?_⟩
        try simp only [Act.put, List.getElem_toArray, List.getElem_cons_succ, List.getElem_cons_zero, List.setIfInBounds_toArray, List.set_cons_zero, List.set_cons_succ]
        have HF : Hid ((wrO rp rb most grow).J (fun b => F b \/ some b = (Value.slice (some ⟨b4, 0, none⟩) (s.rg.length + 1) cap4).ownBlock) { s with rg := s.rg ++ [(g, a)] } (w4.setCell ⟨rp, 2, none⟩ (.slice (some ⟨b4, 0, none⟩) (s.rg.length + 1) cap4)) /\ Tn F w (fun b => F b \/ some b = (Value.slice (some ⟨b4, 0, none⟩) (s.rg.length + 1) cap4).ownBlock) (w4.setCell ⟨rp, 2, none⟩ (.slice (some ⟨b4, 0, none⟩) (s.rg.length + 1) cap4))) := by
          have hsz4 := hgrow4.size
          simp at hsz4
          have hs2 := HB.out.size
          have hat : some b4 = (Value.slice a2 s.rg.length k2).ownBlock \/ w1.heap.size <= b4 := hat4.imp Eq.symm (fun e => by
            have e1 : b4 = w2.heap.size + 1 := by simpa using e
            omega)
          have hfr4 : Fr (fun b => some b = (Value.slice a2 s.rg.length k2).ownBlock) w1 w4 := (((Fr.of (X := fun b => some b = (Value.slice a2 s.rg.length k2).ownBlock) HB.out).alloc _).drew).grown hgrow4 (fun b e => Or.inl e.symm)
          obtain ⟨h1, h2⟩ := HR.out.2.1 (s.rg ++ [(g, a)]) (.slice (some ⟨b4, 0, none⟩) (s.rg.length + 1) cap4) w4 hfr4 (by
            rw [ev_append, List.length_append]
            simpa [ev] using hown4) (fun b e => by
            simp [Value.ownBlock] at e
            subst e
            exact hat)
          refine ⟨h1, ⟨HJ1.out.2.fr.trans h2 HJ1.out.2.sub, fun b d => ?_⟩⟩
          rcases d with d | d
          · exact Or.inl d
          · simp [Value.ownBlock] at d
            subst d
            rcases hat with e4 | e4
            · exact Or.inl (HR.out.2.2 _ e4)
            · exact Or.inr (by omega)
        clear hown4 hgrow4 hat4 HR HSd HSd2
        refine G_takeA (i := 16) (v := ?_) rfl (by kernel_rfl) (by kernel_rfl) (by kernel_rfl) (by kernel_rfl) (fun _ _ _ h => h) (Or.inl ⟨by rfl, ?_⟩) ⟨d42, d43⟩ (Or.inr d4) ?_
        rotate_left
        · intro w hS
          go_simp
          try rfl
        try simp only [Act.put, List.getElem_toArray, List.getElem_cons_succ, List.getElem_cons_zero, List.setIfInBounds_toArray, List.set_cons_zero, List.set_cons_succ]
        refine G_takeA (i := 17) (v := ?_) rfl (by kernel_rfl) (by kernel_rfl) (by kernel_rfl) (by kernel_rfl) (fun _ _ _ h => h) (Or.inl ⟨by rfl, ?_⟩) ⟨d42, d43⟩ (Or.inr d4) ?_
        rotate_left
        · intro w hS
          go_simp
          try rfl
        try simp only [Act.put, List.getElem_toArray, List.getElem_cons_succ, List.getElem_cons_zero, List.setIfInBounds_toArray, List.set_cons_zero, List.set_cons_succ]
        refine G_one (i := 18) (by kernel_rfl) ?_
        refine wpOp_of_wp rfl rfl ?_
        simp only [List.getElem_toArray, List.getElem_cons_succ, List.getElem_cons_zero]
        go_simp
        refine ⟨⟨18, by simp, by kernel_rfl⟩, ?_⟩
        refine G_done (by kernel_rfl) ?_ _
        refine NoPanic.normal ?_
        clear C1 C2 p2 p3 e2 y2 d4 f4 d42 d43
        go_wp2_with fail
        go_ret
        exact ⟨rfl, _, HF.out.1, HF.out.2⟩
end
end Go.Proofs.YtnalfnlmaallmaaGreat
