/- Joined: Hg, Mn9, Mn12. -/
import Derived.OrdersHeld
import Derived.Test.YtalgochmjddodaaGreatJ12
namespace Go.Proofs.YtalgochmjddodaaGreat
open Go
section
variable {P : Program} {ops : Array Oper} {Q : Exit -> Act -> World -> Prop} {md : Region.Mode} {T S : World -> Prop} {St : List Nat}
def came (St : List Nat) (listed : Array Bool) : Prop := ∃ s ∈ St, listed.getD s false = true
def anyG (P : Program) (md : Region.Mode) (ops : Array Oper) (Q : Exit -> Act -> World -> Prop) (T S : World -> Prop) (St : List Nat) : Nat -> Array Bool -> Act -> World -> Prop
 | 0, listed, a, w => Region.ready md ops listed = [] /\ Q .normal a w
 | fuel + 1, listed, a, w => (Region.ready md ops listed = [] -> Q .normal a w) /\
  ∀ i ∈ Region.ready md ops listed, wpOp P ops Q i (fun a' w' => (T w' /\ (came St (listed.setIfInBounds i true) \/ S w')) /\ anyG P md ops Q T S St fuel (listed.setIfInBounds i true) a' w') a w
theorem any_of_G : ∀ (fuel : Nat) (listed : Array Bool) (a : Act) (w : World), anyG P md ops Q T S St fuel listed a w -> wpAny P md ops Q fuel listed a w
 | 0, _, _, _, h => h
 | fuel + 1, _, _, _, h => ⟨h.1, fun i hi => wpOp_mono (fun a' w' h' => any_of_G fuel _ a' w' h'.2) (h.2 i hi)⟩
def waits (md : Region.Mode) (ops : Array Oper) (St : List Nat) (i : Nat) : Bool :=
 St.all fun s => match ops[s]? with
  | some o => o.after.any fun e => Region.binds md e && e.on == i
  | none => false
theorem no_store {i j : Nat} {listed : Array Bool} (hw : waits md ops St i = true) (hi : i ∈ Region.ready md ops listed) (hj : j ∈ Region.ready md ops listed) : j ∉ St := by
 intro hs
 have h1 := List.all_eq_true.1 hw j hs
 obtain ⟨h0, o, ho, hall⟩ := mem_ready.1 hj
 rw [ho] at h1
 obtain ⟨e, he, hb⟩ := Array.any_eq_true'.1 h1
 rw [Bool.and_eq_true, beq_iff_eq] at hb
 have h2 := hall e he hb.1
 rw [hb.2] at h2
 have h3 := (mem_ready.1 hi).1
 rcases Nat.lt_or_ge i listed.size with h' | h'
 ·simp [h'] at h2 h3
  rw [h3] at h2
  cases h2
 ·simp [Array.getElem?_eq_none h'] at h2
theorem came_set {i : Nat} {listed : Array Bool} (hn : ¬ came St listed) (hi : i ∉ St) : ¬ came St (listed.setIfInBounds i true) := by
 rintro ⟨s, hs, h⟩
 have hne : i ≠ s := fun e => hi (by rw [e]; exact hs)
 exact hn ⟨s, hs, by rw [getD_set_ne false hne] at h; exact h⟩
theorem G_first {i : Nat} {oi : Oper} {v : Value} (hi : ops[i]? = some oi) (hiS : i ∉ St) (hwt : waits md ops St i = true) (hsel : ∀ (j : Nat) (o : Oper) cs b, ops[j]? = some o -> o.op ≠ .select cs b)
  (hQ : ∀ c a w, Q (.panic c) (a.put oi.dst v) w -> Q (.panic c) a w) :
  ∀ (fuel : Nat) (listed : Array Bool) (a : Act) (w : World),
   (∀ j oj, ops[j]? = some oj -> j ≠ i -> listed.getD j true = false -> (∀ e ∈ oj.after, Region.binds md e = true -> e.on ≠ i) -> oi.apart ops oj = true) ->
   i ∈ Region.ready md ops listed -> ¬ came St listed -> YieldsIf P ops (fun w => T w /\ S w) oi v a -> T w /\ S w ->
   anyG P md ops Q T S St fuel (listed.setIfInBounds i true) (a.put oi.dst v) w -> anyG P md ops Q T S St (fuel + 1) listed a w := by
 intro fuel
 induction fuel with
 | zero =>
  intro listed a w _ hr _ hy hS H
  refine ⟨fun h => absurd hr (by rw [h]; simp), fun j hj => ?_⟩
  by_cases hji : j = i
  ·rw [hji]
   exact hy.wpOp hi hS ⟨⟨hS.1, Or.inr hS.2⟩, H⟩
  ·have hm := ready_mono hj hji
   rw [H.1] at hm
   simp at hm
 | succ fuel ih =>
  intro listed a w hfree hr hnc hy hS H
  refine ⟨fun h => absurd hr (by rw [h]; simp), fun j hj => ?_⟩
  by_cases hji : j = i
  ·rw [hji]
   exact hy.wpOp hi hS ⟨⟨hS.1, Or.inr hS.2⟩, H⟩
  ·have hjS := no_store hwt hr hj
   have hstep := H.2 j (ready_mono hj hji)
   obtain ⟨hjun, oj, hoj, hall⟩ := mem_ready.1 hj
   have hapart : oi.apart ops oj = true := hfree j oj hoj hji hjun (fun e he hb heq => by
    have h2 := hall e he hb
    rw [heq] at h2
    have h3 := (mem_ready.1 hr).1
    rcases Nat.lt_or_ge i listed.size with h' | h'
    ·simp [h'] at h2 h3
     rw [h3] at h2
     cases h2
    ·simp [Array.getElem?_eq_none h'] at h2)
   refine wpOp_mono (fun a' w' h => ?_) (wpOp_putIf hoj hapart (fun cs b => hsel i oi cs b hi) (fun cs b => hsel j oj cs b hoj) hQ hy hstep)
   obtain ⟨hy', hSw, hG⟩ := h
   have hnc' := came_set hnc hjS
   have hSw' : T w' /\ S w' := ⟨hSw.1, hSw.2.resolve_left (came_set (came_set hnc hiS) hjS)⟩
   refine ⟨⟨hSw'.1, Or.inr hSw'.2⟩, ih (listed.setIfInBounds j true) a' w' (fun k ok hk hki hun hno => hfree k ok hk hki ?_ hno) (ready_mono hr (Ne.symm hji)) hnc' hy' hSw' ?_⟩
   ·by_cases hjk : j = k
    ·rw [<- hjk]; exact hjun
    ·rwa [getD_set_ne true hjk] at hun
   ·rwa [Array.setIfInBounds_comm _ _ hji]
theorem G_always {i : Nat} {oi : Oper} {v : Value} (hi : ops[i]? = some oi) (hiS : i ∉ St) (hsel : ∀ (j : Nat) (o : Oper) cs b, ops[j]? = some o -> o.op ≠ .select cs b)
  (hQ : ∀ c a w, Q (.panic c) (a.put oi.dst v) w -> Q (.panic c) a w) :
  ∀ (fuel : Nat) (listed : Array Bool) (a : Act) (w : World),
   (∀ j oj, ops[j]? = some oj -> j ≠ i -> listed.getD j true = false -> (∀ e ∈ oj.after, Region.binds md e = true -> e.on ≠ i) -> oi.apart ops oj = true) ->
   i ∈ Region.ready md ops listed -> YieldsIf P ops T oi v a -> T w -> (came St listed \/ S w) ->
   anyG P md ops Q T S St fuel (listed.setIfInBounds i true) (a.put oi.dst v) w -> anyG P md ops Q T S St (fuel + 1) listed a w := by
 have up : ∀ {listed : Array Bool} {k : Nat}, came St listed -> came St (listed.setIfInBounds k true) := fun ⟨s, hs, h⟩ => ⟨s, hs, getD_set_true h⟩
 intro fuel
 induction fuel with
 | zero =>
  intro listed a w _ hr hy hT hc H
  refine ⟨fun h => absurd hr (by rw [h]; simp), fun j hj => ?_⟩
  by_cases hji : j = i
  ·rw [hji]
   exact hy.wpOp hi hT ⟨⟨hT, hc.imp up id⟩, H⟩
  ·have hm := ready_mono hj hji
   rw [H.1] at hm
   simp at hm
 | succ fuel ih =>
  intro listed a w hfree hr hy hT hc H
  refine ⟨fun h => absurd hr (by rw [h]; simp), fun j hj => ?_⟩
  by_cases hji : j = i
  ·rw [hji]
   exact hy.wpOp hi hT ⟨⟨hT, hc.imp up id⟩, H⟩
  ·have hstep := H.2 j (ready_mono hj hji)
   obtain ⟨hjun, oj, hoj, hall⟩ := mem_ready.1 hj
   have hapart : oi.apart ops oj = true := hfree j oj hoj hji hjun (fun e he hb heq => by
    have h2 := hall e he hb
    rw [heq] at h2
    have h3 := (mem_ready.1 hr).1
    rcases Nat.lt_or_ge i listed.size with h' | h'
    ·simp [h'] at h2 h3
     rw [h3] at h2
     cases h2
    ·simp [Array.getElem?_eq_none h'] at h2)
   refine wpOp_mono (fun a' w' h => ?_) (wpOp_putIf hoj hapart (fun cs b => hsel i oi cs b hi) (fun cs b => hsel j oj cs b hoj) hQ hy hstep)
   obtain ⟨hy', hSw, hG⟩ := h
   have hc' : came St (listed.setIfInBounds j true) \/ S w' := hSw.2.imp (fun ⟨s, hs, h⟩ => by
    have hne : i ≠ s := fun e => hiS (by rw [e]; exact hs)
    refine ⟨s, hs, ?_⟩
    rw [Array.setIfInBounds_comm _ _ (Ne.symm hji), getD_set_ne false hne] at h
    exact h) id
   refine ⟨⟨hSw.1, hc'⟩, ih (listed.setIfInBounds j true) a' w' (fun k ok hk hki hun hno => hfree k ok hk hki ?_ hno) (ready_mono hr (Ne.symm hji)) hy' hSw.1 hc' ?_⟩
   ·by_cases hjk : j = k
    ·rw [<- hjk]; exact hjun
    ·rwa [getD_set_ne true hjk] at hun
   ·rwa [Array.setIfInBounds_comm _ _ hji]
theorem G_take {i : Nat} {oi : Oper} {v : Value} {fuel : Nat} {listed : Array Bool} {a : Act} {w : World} (hi : ops[i]? = some oi)
  (hs : Region.noSelect ops = true) (hf : Region.free md ops listed i = true) (hr : (Region.ready md ops listed).contains i = true) (hiS : St.contains i = false) (hwt : waits md ops St i = true) (hnc : (St.all fun s => !listed.getD s false) = true)
  (hQ : ∀ c a w, Q (.panic c) (a.put oi.dst v) w -> Q (.panic c) a w) (hy : YieldsIf P ops (fun w => T w /\ S w) oi v a) (hS : T w /\ S w)
  (h : anyG P md ops Q T S St fuel (listed.setIfInBounds i true) (a.put oi.dst v) w) : anyG P md ops Q T S St (fuel + 1) listed a w :=
 G_first hi (fun h => by rw [List.contains_iff_mem.2 h] at hiS; cases hiS) hwt (Region.noSelect_spec hs) hQ fuel listed a w (Region.free_spec hi hf) (by simpa using hr) (fun ⟨s, hs, hc⟩ => by
  have := List.all_eq_true.1 hnc s hs
  rw [hc] at this
  cases this) hy hS h
theorem G_takeA {i : Nat} {oi : Oper} {v : Value} {fuel : Nat} {listed : Array Bool} {a : Act} {w : World} (hi : ops[i]? = some oi)
  (hs : Region.noSelect ops = true) (hf : Region.free md ops listed i = true) (hr : (Region.ready md ops listed).contains i = true) (hiS : St.contains i = false)
  (hQ : ∀ c a w, Q (.panic c) (a.put oi.dst v) w -> Q (.panic c) a w) (hy : YieldsIf P ops T oi v a) (hT : T w) (hc : came St listed \/ S w)
  (h : anyG P md ops Q T S St fuel (listed.setIfInBounds i true) (a.put oi.dst v) w) : anyG P md ops Q T S St (fuel + 1) listed a w :=
 G_always hi (fun h => by rw [List.contains_iff_mem.2 h] at hiS; cases hiS) (Region.noSelect_spec hs) hQ fuel listed a w (Region.free_spec hi hf) (by simpa using hr) hy hT hc h
theorem wpOp_of_wp {i : Nat} {o : Oper} {K : Act -> World -> Prop} {a : Act} {w : World} (hi : ops[i]? = some o) (hg : o.guard = none) (h : o.wp P a w K Q) : wpOp P ops Q i K a w := by
 unfold wpOp
 rw [hi]
 dsimp only
 rw [if_pos (by simp [Region.wanted, hg])]
 exact Or.inl h
theorem wpOp_of_wpG {i : Nat} {o : Oper} {K : Act -> World -> Prop} {a : Act} {w : World} (hi : ops[i]? = some o) (hg : Region.wanted o (yielded ops a.tmps) = true) (h : o.wp P a w K Q) : wpOp P ops Q i K a w := by
 unfold wpOp
 rw [hi]
 dsimp only
 rw [if_pos hg]
 exact Or.inl h
theorem G_one {i : Nat} {fuel : Nat} {listed : Array Bool} {a : Act} {w : World} (hr : Region.ready md ops listed = [i])
  (h : wpOp P ops Q i (fun a' w' => (T w' /\ (came St (listed.setIfInBounds i true) \/ S w')) /\ anyG P md ops Q T S St fuel (listed.setIfInBounds i true) a' w') a w) : anyG P md ops Q T S St (fuel + 1) listed a w :=
 ⟨fun h0 => (by rw [hr] at h0; cases h0), fun j hj => (by rw [hr] at hj; rw [List.mem_singleton] at hj; rw [hj]; exact h)⟩
theorem G_done {listed : Array Bool} {a : Act} {w : World} (hr : Region.ready md ops listed = []) (h : Q .normal a w) : ∀ fuel, anyG P md ops Q T S St fuel listed a w
 | 0 => ⟨hr, h⟩
 | _ + 1 => ⟨fun _ => h, by rw [hr]; simp⟩
end
end Go.Proofs.YtalgochmjddodaaGreat

namespace Go.Proofs.YtalgochmjddodaaGreat
set_option maxRecDepth 100000
set_option maxHeartbeats 2000000
open Go.RowKit W Kp Stl
def lenOf (w : World) (p : Nat) : Nat := match w.cell? ⟨p, 4, none⟩ with
 | some (.slice _ n _) => n
 | _ => 0
def usedOf (w : World) (p : Nat) : Int := match w.cell? ⟨p, 6, none⟩ with
 | some (.int _ v) => v
 | _ => 0
def muOf (c : Cc) (k : Ck) (w : World) : Nat := (k.N + k.O + 13 - nxOf w c.pk).toNat + lenOf w c.pk + (k.O - (usedOf w c.p).toNat)
def bOf : Value -> Nat
 | .bool true => 1
 | _ => 0
section
variable {c : Cc} {k : Ck} {F : Nat -> Prop} {s : Cs} {w : World} {vr : Value}
theorem muOf_eq (h : (cutO c k).J F s w) : muOf c k w = k.mu s := by
 obtain ⟨vw, ve, h⟩ := h
 obtain ⟨_, _, c2, _, c4, _, _, _, _, _, _, er, _⟩ := cut_cells h
 obtain ⟨hA, _⟩ := cut_arena h
 obtain ⟨ad, cap, e⟩ := row_slice er
 have c6 := hA.cells.2.2.2.2.2.2
 have e1 : lenOf w c.pk = s.ep.length := by unfold lenOf; rw [c4, e]
 have e2 : usedOf w c.p = s.g := by unfold usedOf; rw [c6]
 unfold muOf Ck.mu
 rw [nxOf_eq c2, e1, e2, Int.toNat_natCast]
theorem wakeM_any {adr : Option Addr} {nr cr : Nat} (hvr : vr = .slice adr nr cr) {t : Cs × List En} (h : (mkSd (cutI c k) c.sd vr).J F t w) (hq : t.2.length <= 90000) (bx : Nat) (hx : w.heap[bx]? = some (boxC c)) (hn : ¬ F bx) :
  Calls Tryz.prog 136 #[.pointer (some ⟨c.sd, 0, none⟩), .agg #[(faM bx).v, (fbM c).v, (fnM c).v]] w fun e w' => ∃ F', e = .returned (.bool (k.wa t).2) /\ (mkSd (cutI c k) c.sd vr).J F' (k.wa t).1 w' /\ Fr (fun b => F b \/ b = bx) w w' /\ (∀ b, F' b -> F b \/ b = bx \/ w.heap.size <= b) := by
 have hL := lks_mk (obX (cutI c k) bx (boxC c)) c.sd vr (fun _ => True) (faM bx) (fbM c) (fnM c) k.al k.br k.nw ent_faM ent_fbM ent_fnM (alives_faM bx) (keeps_obX keeps_fbM) (tells_obX tells_fnM)
 have P := wake_any (mkSd (obX (cutI c k) bx (boxC c)) c.sd vr) (sets_mk _ _ _) (fun _ => True) (faM bx) (fbM c) (fnM c) _ _ _ hL adr nr cr hvr _ t w hq (fun _ _ => ⟨trivial, trivial⟩) (mkSd_add h hx hn)
 refine P.mono ?_
 rintro e w' ⟨F', rfl, hJ, hf, hs⟩
 exact ⟨F', rfl, mkSd_drop hJ, hf, fun b hb => (hs b hb).elim (fun c => c.elim Or.inl (fun c => Or.inr (Or.inl c))) (fun c => Or.inr (Or.inr c))⟩
theorem spread_any {adr : Option Addr} {nr cr : Nat} (hvr : vr = .slice adr nr cr) {t : Cs × List En} (h : (mkSd (cutI c k) c.sd vr).J F t w) (hq : t.2.length <= 90000) :
  Calls Tryz.prog 61 #[.pointer (some ⟨c.pk, 0, none⟩)] w fun e w' => ∃ F', e = .returned (.tuple #[]) /\ (mkSd (cutI c k) c.sd vr).J F' (k.sp t) w' /\ Tn F w F' w' := by
 have hmf : ∀ (fn : Fn) (first cap : Array Value) (w : World), (Instr.makeFunc fn first cap).run Tryz.prog w = .ok (.func fn first cap) w := fun _ _ _ _ => rfl
 go_enter Tryz.func61, Tryz.ntmps61
 go_wp2_with fail
 go_loopw [2] (fun bv wr => ∃ (n : Nat) (F1 : Nat -> Prop) (t1 : Cs × List En) (b : Bool), bv = .bool b /\ (mkSd (cutI c k) c.sd vr).J F1 t1 wr /\ Tn F w F1 wr /\ Hid (if b = true then k.mu t1.1 < n /\ k.spr n t1 = k.sp t else t1 = k.sp t) /\ t1.2.length <= 90000) (fun bv wr => 2 * muOf c k wr + bOf bv)
 case atStart => exact ⟨k.mu t.1 + 1, F, t, true, rfl, h, Tn.refl _ _, ⟨by omega, rfl⟩, hq⟩
 case round =>
  clear h hq
  obtain ⟨n, F1, t1, b, rfl, hJ, hT, HE, hq⟩ := hrel
  cases b
  ·have HE2 : Hid (t1 = k.sp t) := HE.out
   go_wp2_with fail
   go_end0
   rw [<- HE2.out]
   exact ⟨F1, rfl, hJ, hT⟩
  ·obtain ⟨e1, e2⟩ := HE.out
   obtain ⟨m, rfl⟩ : ∃ m, n = m + 1 := ⟨n - 1, by omega⟩
   obtain ⟨F0, hI, hstep⟩ := mkSd_in hJ
   have hmu := muOf_eq hI.1
   have B := brought_any hI.1 hI.2.1 hI.2.2
   obtain ⟨i1, i2, i3⟩ := hI.2.1.lb hI.2.2 (k.O + 1)
   obtain ⟨j1, j2, j3, j4⟩ := i1.kv i2
   have HS : Hid (Tn F w F1 wr /\ (∀ F1_1 t1_1 w', (cutI c k).J F1_1 t1_1 w' -> Tn F0 wr F1_1 w' -> ∃ F', (mkSd (cutI c k) c.sd vr).J F' (t1_1, t1.2) w' /\ Tn F1 wr F' w') /\ (CI k (k.lb (k.O + 1) t1.1) /\ CB k (k.lb (k.O + 1) t1.1)) /\ (CI k (k.kv (k.lb (k.O + 1) t1.1)).2 /\ CB k (k.kv (k.lb (k.O + 1) t1.1)).2)) := ⟨hT, hstep, ⟨i1, i2⟩, ⟨j1, j2⟩⟩
   have HN : Hid (k.mu (k.lb (k.O + 1) t1.1) <= k.mu t1.1 /\ k.mu (k.kv (k.lb (k.O + 1) t1.1)).2 <= k.mu (k.lb (k.O + 1) t1.1) /\ ((k.kv (k.lb (k.O + 1) t1.1)).1 = true -> k.mu (k.kv (k.lb (k.O + 1) t1.1)).2 < k.mu (k.lb (k.O + 1) t1.1)) /\ k.mu t1.1 < m + 1) := ⟨i3, j3, j4, e1⟩
   have HE2 : Hid (k.spr (m + 1) t1 = k.sp t) := e2
   clear hI hstep i1 i2 j1 j2 hJ hT HE e1 e2 i3 j3 j4
   go_wp2_with fail
   refine B.mono ?_
   clear B
   rintro e w1 ⟨F2, rfl, hJ1, hT1⟩
   have V := keepValues_any ((cutO c k).below hJ1 (Below.refl _ w1).drew) HS.out.2.2.1.1 HS.out.2.2.1.2
   have hT1 := hT1.below (Below.refl _ w1).drew
   obtain ⟨vw1, ve1, hJ1⟩ := hJ1
   obtain ⟨d0, _, _, _, _, _, _, d7, _⟩ := cut_cells hJ1
   cases hkv : (k.kv (k.lb (k.O + 1) t1.1)).1
   ·rw [hkv] at V
    have HE3 : Hid ((if (k.wa ((k.kv (k.lb (k.O + 1) t1.1)).2, t1.2)).2 = true then k.spr m (k.wa ((k.kv (k.lb (k.O + 1) t1.1)).2, t1.2)).1 else (k.wa ((k.kv (k.lb (k.O + 1) t1.1)).2, t1.2)).1) = k.sp t) := by
     have := HE2.out
     unfold Ck.spr at this
     rw [hkv] at this
     exact this
    have HW := CI.wa (s := ((k.kv (k.lb (k.O + 1) t1.1)).2, t1.2)) HS.out.2.2.2.1 HS.out.2.2.2.2
    have HW : Hid ((k.wa ((k.kv (k.lb (k.O + 1) t1.1)).2, t1.2)).1.2.length <= 90000 /\ k.mu (k.wa ((k.kv (k.lb (k.O + 1) t1.1)).2, t1.2)).1.1 <= k.mu t1.1 /\ ((k.wa ((k.kv (k.lb (k.O + 1) t1.1)).2, t1.2)).2 = true -> k.mu (k.wa ((k.kv (k.lb (k.O + 1) t1.1)).2, t1.2)).1.1 < k.mu t1.1)) := by
     have n1 := HN.out.1
     have n2 := HN.out.2.1
     refine ⟨by rw [HW.2.2.1]; exact hq, by have := HW.2.2.2.1; dsimp only at this; omega, fun e => by have := HW.2.2.2.2 e; dsimp only at this; omega⟩
    generalize k.lb (k.O + 1) t1.1 = s1 at *
    generalize (k.kv s1).2 = s2 at *
    clear hJ1
    go_wp2_with fail
    go_region_held3 (fun w' => w'.cell? ⟨c.pk, 0, none⟩ = some (.pointer (some ⟨c.pw, 0, none⟩)) /\ w'.cell? ⟨c.pw, 2, none⟩ = some (.pointer (some ⟨c.sd, 0, none⟩))) (go_keep)
     (first
      | (go_at_call 135; refine V.mono ?_; clear V; rintro e w2 ⟨F3, rfl, hJ2, hT2⟩; obtain ⟨F4, hM, hT4⟩ := HS.out.2.1 F3 s2 w2 ⟨hJ2, HS.out.2.2.2⟩ (hT1.trans hT2); obtain ⟨vw2, ve2, hJ2⟩ := hJ2; obtain ⟨g0, _, _, _, _, _, _, g7, _⟩ := cut_cells hJ2; have l0 := World.block_lt_of_cell? w2 _ g0; have l7 := World.block_lt_of_cell? w2 _ g7; have HM : Hid ((mkSd (cutI c k) c.sd vr).J F4 (s2, t1.2) w2 /\ Tn F w F4 w2) := ⟨hM, HS.out.1.trans hT4⟩; clear hJ2 hT2 hM hT4)
      | (go_at_call 63; refine (looksM_any (fbM c) w2 c.pk).mono ?_; rintro e w3 ⟨rfl, hx3, hb3⟩; have y0 := (hb3.cell (p := ⟨c.pk, 0, none⟩) l0).trans g0; have y7 := (hb3.cell (p := ⟨c.pw, 2, none⟩) l7).trans g7; have HX : Hid (w3.heap[w2.heap.size]? = some (boxC c) /\ Below w2.heap.size w2 w3) := ⟨hx3, hb3⟩; clear hx3 hb3)
      | (go_at_call 136; refine (wakeM_any hvr (t := (s2, t1.2)) ((mkSd (cutI c k) c.sd vr).below HM.out.1 HX.out.2) hq w2.heap.size HX.out.1 (fun h => by have := (mkSd (cutI c k) c.sd vr).lt HM.out.1 _ h; omega)).mono ?_; rintro e w4 ⟨F5, rfl, hM5, hf5, hs5⟩; have HM5 : Hid ((mkSd (cutI c k) c.sd vr).J F5 (k.wa (s2, t1.2)).1 w4 /\ Tn F w F5 w4) := ⟨hM5, ⟨(HM.out.2.below HX.out.2).fr.trans hf5 (fun b hb => hb.elim (HM.out.2.sub b) (fun e => Or.inr (by have := HM.out.2.fr.size; omega))), fun b hb => (hs5 b hb).elim (HM.out.2.sub b) (fun h => Or.inr (by have h1 := HM.out.2.fr.size; have h2 := HX.out.2.size; omega))⟩⟩; obtain ⟨F6, ⟨⟨vw6, ve6, hJ6⟩, _⟩, _⟩ := mkSd_in hM5; have hmu6 := muOf_eq ⟨vw6, ve6, hJ6⟩; obtain ⟨r0, _, _, _, _, _, _, r7, _⟩ := cut_cells hJ6; clear hM5 hf5 hs5 hJ6))
    clear r0 r7 g0 g7 y0 y7 d0 d7 HS HM HX HE2 hmf hT1
    cases hbw : (k.wa (s2, t1.2)).2
    ·have HF : Hid (if false = true then k.mu (k.wa (s2, t1.2)).1.1 < m /\ k.spr m (k.wa (s2, t1.2)).1 = k.sp t else (k.wa (s2, t1.2)).1 = k.sp t) := by
      have := HE3.out
      rw [hbw] at this
      exact this
     go_wp2_with fail
     go_roundw
     case rel => exact ⟨m, F5, (k.wa (s2, t1.2)).1, false, rfl, HM5.out.1, HM5.out.2, HF, HW.out.1⟩
     case measure =>
      have := HW.out.2.1
      rw [hmu6, hmu]
      simp [bOf]
      omega
    ·have HF : Hid (if true = true then k.mu (k.wa (s2, t1.2)).1.1 < m /\ k.spr m (k.wa (s2, t1.2)).1 = k.sp t else (k.wa (s2, t1.2)).1 = k.sp t) := by
      have h1 := HE3.out
      rw [hbw] at h1
      have h2 := HW.out.2.2 hbw
      have h3 := HN.out.2.2.2
      exact ⟨by omega, h1⟩
     have h2 := HW.out.2.2 hbw
     go_wp2_with fail
     go_roundw
     case rel => exact ⟨m, F5, (k.wa (s2, t1.2)).1, true, rfl, HM5.out.1, HM5.out.2, HF, HW.out.1⟩
     case measure =>
      rw [hmu6, hmu]
      simp [bOf]
      omega
   ·rw [hkv] at V
    have h2 : k.mu (k.kv (k.lb (k.O + 1) t1.1)).2 < k.mu t1.1 := by
     have h1 := HN.out.1
     have h3 := HN.out.2.2.1 hkv
     omega
    have HF : Hid (if true = true then k.mu (k.kv (k.lb (k.O + 1) t1.1)).2 < m /\ k.spr m ((k.kv (k.lb (k.O + 1) t1.1)).2, t1.2) = k.sp t else ((k.kv (k.lb (k.O + 1) t1.1)).2, t1.2) = k.sp t) := by
     have h1 := HE2.out
     unfold Ck.spr at h1
     rw [hkv] at h1
     have h3 := HN.out.2.2.2
     exact ⟨by omega, h1⟩
    generalize k.lb (k.O + 1) t1.1 = s1 at *
    generalize (k.kv s1).2 = s2 at *
    clear hJ1
    go_wp2_with fail
    refine wp_region_noPanic ?_
    refine wp_region_any (by kernel_rfl) ?_
    refine any_of_G (T := fun _ => True) (S := fun _ => True) (St := []) _ _ _ _ ?_
    refine G_takeA (i := 0) (v := ?_) rfl (by kernel_rfl) (by kernel_rfl) (by kernel_rfl) (by kernel_rfl) (fun _ _ _ h => h) (Or.inl ⟨by rfl, ?_⟩) trivial (Or.inr trivial) ?_
    rotate_left
    ·intro w hS
     go_simp
     try rfl
    try simp only [Act.put, List.getElem_toArray, List.getElem_cons_zero, List.setIfInBounds_toArray, List.set_cons_zero, List.set_cons_succ]
    refine G_one (i := 1) (by kernel_rfl) ?_
    refine wpOp_of_wpG rfl (by rfl) ?_
    simp only [List.getElem_toArray, List.getElem_cons_succ, List.getElem_cons_zero]
    go_simp
    refine V.mono ?_
    clear V
    rintro e w2 ⟨F3, rfl, hJ2, hT2⟩
    obtain ⟨F4, hM, hT4⟩ := HS.out.2.1 F3 s2 w2 ⟨hJ2, HS.out.2.2.2⟩ (hT1.trans hT2)
    have hmu6 := muOf_eq hJ2
    have HM : Hid ((mkSd (cutI c k) c.sd vr).J F4 (s2, t1.2) w2 /\ Tn F w F4 w2) := ⟨hM, HS.out.1.trans hT4⟩
    clear hJ2 hT2 hM hT4
    refine G_takeA (i := 2) (v := ?_) rfl (by kernel_rfl) (by kernel_rfl) (by kernel_rfl) (by kernel_rfl) (fun _ _ _ h => h) (Or.inl ⟨by rfl, ?_⟩) trivial (Or.inr trivial) ?_
    rotate_left
    ·intro w hS
     go_simp
     try rfl
    try simp only [Act.put, List.getElem_toArray, List.getElem_cons_succ, List.getElem_cons_zero, List.setIfInBounds_toArray, List.set_cons_zero, List.set_cons_succ]
    refine G_takeA (i := 3) (v := undef) rfl (by kernel_rfl) (by kernel_rfl) (by kernel_rfl) (by kernel_rfl) (fun _ _ _ h => h) (Or.inr ⟨by rfl, rfl⟩) trivial (Or.inr trivial) ?_
    try simp only [Act.put, List.getElem_toArray, List.getElem_cons_succ, List.getElem_cons_zero, List.setIfInBounds_toArray, List.set_cons_zero, List.set_cons_succ]
    refine G_takeA (i := 4) (v := undef) rfl (by kernel_rfl) (by kernel_rfl) (by kernel_rfl) (by kernel_rfl) (fun _ _ _ h => h) (Or.inr ⟨by rfl, rfl⟩) trivial (Or.inr trivial) ?_
    try simp only [Act.put, List.getElem_toArray, List.getElem_cons_succ, List.getElem_cons_zero, List.setIfInBounds_toArray, List.set_cons_zero, List.set_cons_succ]
    refine G_takeA (i := 5) (v := undef) rfl (by kernel_rfl) (by kernel_rfl) (by kernel_rfl) (by kernel_rfl) (fun _ _ _ h => h) (Or.inr ⟨by rfl, rfl⟩) trivial (Or.inr trivial) ?_
    try simp only [Act.put, List.getElem_toArray, List.getElem_cons_succ, List.getElem_cons_zero, List.setIfInBounds_toArray, List.set_cons_zero, List.set_cons_succ]
    refine G_takeA (i := 6) (v := undef) rfl (by kernel_rfl) (by kernel_rfl) (by kernel_rfl) (by kernel_rfl) (fun _ _ _ h => h) (Or.inr ⟨by rfl, rfl⟩) trivial (Or.inr trivial) ?_
    try simp only [Act.put, List.getElem_toArray, List.getElem_cons_succ, List.getElem_cons_zero, List.setIfInBounds_toArray, List.set_cons_zero, List.set_cons_succ]
    refine G_takeA (i := 7) (v := undef) rfl (by kernel_rfl) (by kernel_rfl) (by kernel_rfl) (by kernel_rfl) (fun _ _ _ h => h) (Or.inr ⟨by rfl, rfl⟩) trivial (Or.inr trivial) ?_
    try simp only [Act.put, List.getElem_toArray, List.getElem_cons_succ, List.getElem_cons_zero, List.setIfInBounds_toArray, List.set_cons_zero, List.set_cons_succ]
    refine G_takeA (i := 8) (v := undef) rfl (by kernel_rfl) (by kernel_rfl) (by kernel_rfl) (by kernel_rfl) (fun _ _ _ h => h) (Or.inr ⟨by rfl, rfl⟩) trivial (Or.inr trivial) ?_
    try simp only [Act.put, List.getElem_toArray, List.getElem_cons_succ, List.getElem_cons_zero, List.setIfInBounds_toArray, List.set_cons_zero, List.set_cons_succ]
    refine G_takeA (i := 9) (v := undef) rfl (by kernel_rfl) (by kernel_rfl) (by kernel_rfl) (by kernel_rfl) (fun _ _ _ h => h) (Or.inr ⟨by rfl, rfl⟩) trivial (Or.inr trivial) ?_
    try simp only [Act.put, List.getElem_toArray, List.getElem_cons_succ, List.getElem_cons_zero, List.setIfInBounds_toArray, List.set_cons_zero, List.set_cons_succ]
    refine G_takeA (i := 10) (v := undef) rfl (by kernel_rfl) (by kernel_rfl) (by kernel_rfl) (by kernel_rfl) (fun _ _ _ h => h) (Or.inr ⟨by rfl, rfl⟩) trivial (Or.inr trivial) ?_
    try simp only [Act.put, List.getElem_toArray, List.getElem_cons_succ, List.getElem_cons_zero, List.setIfInBounds_toArray, List.set_cons_zero, List.set_cons_succ]
    refine G_takeA (i := 11) (v := undef) rfl (by kernel_rfl) (by kernel_rfl) (by kernel_rfl) (by kernel_rfl) (fun _ _ _ h => h) (Or.inr ⟨by rfl, rfl⟩) trivial (Or.inr trivial) ?_
    try simp only [Act.put, List.getElem_toArray, List.getElem_cons_succ, List.getElem_cons_zero, List.setIfInBounds_toArray, List.set_cons_zero, List.set_cons_succ]
    refine G_takeA (i := 12) (v := undef) rfl (by kernel_rfl) (by kernel_rfl) (by kernel_rfl) (by kernel_rfl) (fun _ _ _ h => h) (Or.inr ⟨by rfl, rfl⟩) trivial (Or.inr trivial) ?_
    try simp only [Act.put, List.getElem_toArray, List.getElem_cons_succ, List.getElem_cons_zero, List.setIfInBounds_toArray, List.set_cons_zero, List.set_cons_succ]
    refine G_takeA (i := 13) (v := undef) rfl (by kernel_rfl) (by kernel_rfl) (by kernel_rfl) (by kernel_rfl) (fun _ _ _ h => h) (Or.inr ⟨by rfl, rfl⟩) trivial (Or.inr trivial) ?_
    try simp only [Act.put, List.getElem_toArray, List.getElem_cons_succ, List.getElem_cons_zero, List.setIfInBounds_toArray, List.set_cons_zero, List.set_cons_succ]
    refine G_takeA (i := 14) (v := undef) rfl (by kernel_rfl) (by kernel_rfl) (by kernel_rfl) (by kernel_rfl) (fun _ _ _ h => h) (Or.inr ⟨by rfl, rfl⟩) trivial (Or.inr trivial) ?_
    try simp only [Act.put, List.getElem_toArray, List.getElem_cons_succ, List.getElem_cons_zero, List.setIfInBounds_toArray, List.set_cons_zero, List.set_cons_succ]
    refine G_takeA (i := 15) (v := ?_) rfl (by kernel_rfl) (by kernel_rfl) (by kernel_rfl) (by kernel_rfl) (fun _ _ _ h => h) (Or.inl ⟨by rfl, ?_⟩) trivial (Or.inr trivial) ?_
    rotate_left
    ·intro w hS
     go_simp
     try rfl
    try simp only [Act.put, List.getElem_toArray, List.getElem_cons_succ, List.getElem_cons_zero, List.setIfInBounds_toArray, List.set_cons_zero, List.set_cons_succ]
    refine G_takeA (i := 16) (v := ?_) rfl (by kernel_rfl) (by kernel_rfl) (by kernel_rfl) (by kernel_rfl) (fun _ _ _ h => h) (Or.inl ⟨by rfl, ?_⟩) trivial (Or.inr trivial) ?_
    rotate_left
    ·intro w hS
     go_simp
     try rfl
    try simp only [Act.put, List.getElem_toArray, List.getElem_cons_succ, List.getElem_cons_zero, List.setIfInBounds_toArray, List.set_cons_zero, List.set_cons_succ]
    refine G_done (by kernel_rfl) ?_ _
    refine NoPanic.normal ?_
    clear d0 d7 HS HE2 hmf hT1
    go_wp2_with fail
    go_roundw
    case rel => exact ⟨m, F4, (s2, t1.2), true, rfl, HM.out.1, HM.out.2, HF, hq⟩
    case measure =>
     rw [hmu6, hmu]
     simp [bOf]
     omega
theorem keepM_any {adr : Option Addr} {nr cr : Nat} (hvr : vr = .slice adr nr cr) {t : Cs × List En} (h : (mkSd (cutI c k) c.sd vr).J F t w) (hq : t.2.length <= 90000) (x : Int) :
  Calls Tryz.prog 64 #[.pointer (some ⟨c.pk, 0, none⟩), .int .i64 x] w fun e w' => ∃ F', e = .returned (.int .i64 (k.ke t x).1) /\ (mkSd (cutI c k) c.sd vr).J F' (k.ke t x).2 w' /\ Tn F w F' w' := by
 obtain ⟨F0, ⟨⟨vw, ve, hJ⟩, hI, hB⟩, hstep⟩ := mkSd_in h
 have P := bring_any hJ hI x
 obtain ⟨i1, i2, _⟩ := hI.br x
 have HS : Hid ((∀ F1 t1 w', (cutI c k).J F1 t1 w' -> Tn F0 w F1 w' -> ∃ F', (mkSd (cutI c k) c.sd vr).J F' (t1, t.2) w' /\ Tn F w F' w') /\ CI k (k.br t.1 x).2 /\ CB k (k.br t.1 x).2) := ⟨hstep, i1, i2.cb hB⟩
 have E : Hid ((k.ke t x).1 = (k.br t.1 x).1 /\ (k.ke t x).2 = k.sp ((k.br t.1 x).2, t.2)) := ⟨rfl, rfl⟩
 generalize (k.ke t x).1 = x1 at E ⊢
 generalize (k.ke t x).2 = t1 at E ⊢
 clear hJ hI hB i1 i2 hstep h
 go_enter Tryz.func64, Tryz.ntmps64
 go_wp2_with fail
 refine P.mono ?_
 clear P
 rintro e w1 ⟨rfl, hJ1, hT1⟩
 obtain ⟨F1, hM, hT⟩ := HS.out.1 F0 _ w1 ⟨⟨vw, ve, hJ1⟩, HS.out.2⟩ hT1
 have HM : Hid (_ /\ _) := ⟨hM, hT⟩
 clear hJ1 hT1 hM hT
 go_wp2_with fail
 refine (spread_any hvr HM.out.1 hq).mono ?_
 rintro e w2 ⟨F2, rfl, hM2, hT2⟩
 have HM2 : Hid (_ /\ _) := ⟨hM2, HM.out.2.trans hT2⟩
 clear hM2 hT2
 go_wp2_with fail
 go_ret
 rw [E.out.1, E.out.2]
 exact ⟨F2, rfl, HM2.out.1, HM2.out.2⟩
end
end Go.Proofs.YtalgochmjddodaaGreat

namespace Go.Proofs.YtalgochmjddodaaGreat
set_option maxRecDepth 100000
set_option maxHeartbeats 2000000
open Go.RowKit W Kp Stl
def eaS {τ : Type} (fd : τ -> Int -> Int) (st : τ -> Int -> τ) (e : Int) (t : τ) (a : Int) : τ := if a + fd t a < e then st t a else t
def eaL {τ : Type} (fd : τ -> Int -> Int) (st : τ -> Int -> τ) (e : Int) (t : τ) (l : List Int) : τ := l.foldl (eaS fd st e) t
theorem each_any {τ : Type} (o : Ob τ) (fd : τ -> Int -> Int) (st : τ -> Int -> τ) (G : Nat -> τ -> Prop) (pk pw p f : Nat) (cs : Array Value) (hf : Ent f) (l : List Int) (ad : Option Addr) (cap : Nat) (e : Int) (F : Nat -> Prop) (t : τ) (w : World)
  (hth : ∀ F t w a, o.J F t w -> w.cell? ⟨pk, 0, none⟩ = some (.pointer (some ⟨pw, 0, none⟩)) /\ w.cell? ⟨pw, 0, none⟩ = some (.pointer (some ⟨p, 0, none⟩)) /\ Calls Tryz.prog 123 #[.pointer (some ⟨p, 0, none⟩), .int .i64 a] w fun r w' => ∃ x z, r = .returned (.tuple #[.int .i64 x, .int .i64 (fd t a), .int .i64 z]) /\ Below w.heap.size w w')
  (hfd : ∀ t a, 0 <= fd t a /\ fd t a <= 12) (hlb : ∀ a ∈ l, 0 <= a /\ a <= 100000) (hll : l.length <= 100000)
  (hlk : ∀ j F t w, j < l.length -> G j t -> o.J F t w -> l.getD j 0 + fd t (l.getD j 0) < e -> Calls Tryz.prog f (#[.int .i64 (l.getD j 0)] ++ cs) w fun r w' => ∃ F', r = .returned (.tuple #[]) /\ o.J F' (st t (l.getD j 0)) w' /\ Tn F w F' w')
  (hG : ∀ j t, j < l.length -> G j t -> G (j + 1) (eaS fd st e t (l.getD j 0))) (h0 : G 0 t) (hJ : o.J F t w) (hL : Ls w ad l) (hn : 0 < l.length -> ∀ z, ad = some z -> ¬ F z.block) :
  Calls Tryz.prog 128 #[.pointer (some ⟨pk, 0, none⟩), .slice ad l.length cap, .int .i64 e, .func (.func f) #[] cs] w fun r w' => ∃ F', r = .returned (.tuple #[]) /\ o.J F' (eaL fd st e t l) w' /\ Tn F w F' w' /\ G l.length (eaL fd st e t l) := by
 have HT : Hid (∀ F t w a, o.J F t w -> w.cell? ⟨pk, 0, none⟩ = some (.pointer (some ⟨pw, 0, none⟩)) /\ w.cell? ⟨pw, 0, none⟩ = some (.pointer (some ⟨p, 0, none⟩)) /\ Calls Tryz.prog 123 #[.pointer (some ⟨p, 0, none⟩), .int .i64 a] w fun r w' => ∃ x z, r = .returned (.tuple #[.int .i64 x, .int .i64 (fd t a), .int .i64 z]) /\ Below w.heap.size w w') := hth
 have HK : Hid (∀ j F t w, j < l.length -> G j t -> o.J F t w -> l.getD j 0 + fd t (l.getD j 0) < e -> Calls Tryz.prog f (#[.int .i64 (l.getD j 0)] ++ cs) w fun r w' => ∃ F', r = .returned (.tuple #[]) /\ o.J F' (st t (l.getD j 0)) w' /\ Tn F w F' w') := hlk
 have HG : Hid (∀ j t, j < l.length -> G j t -> G (j + 1) (eaS fd st e t (l.getD j 0))) := hG
 have HL : Hid (∀ F' w', Tn F w F' w' -> Ls w' ad l) := fun F' w' hT => hL.keep hT.fr.size (fun hp z e => hT.fr.block _ (by obtain ⟨b, o', e', hb, _⟩ := hL hp; rw [e] at e'; cases e'; exact hb) (hn hp z e))
 have HLB : Hid (∀ a ∈ l, 0 <= a /\ a <= 100000) := hlb
 have HFD : Hid (∀ t a, 0 <= fd t a /\ fd t a <= 12) := hfd
 have hcf : ∀ (args : Array Value) (w : World), (callFunc f args).run Tryz.prog w = .ok (.enter f args) w := hf
 clear hth hlk hG hL hn hlb hfd hf
 go_enter Tryz.func128, Tryz.ntmps128
 go_wp2_with fail
 go_loopw [15] (fun iv wr => ∃ (j : Nat) (F1 : Nat -> Prop) (t1 : τ), j <= l.length /\ iv = .int .i64 j /\ Hid (eaL fd st e t (l.take j) = t1) /\ Hid (G j t1) /\ o.J F1 t1 wr /\ Tn F w F1 wr) (fun iv _ => l.length - (intOf iv).toNat)
 case atStart => exact ⟨0, F, t, Nat.zero_le _, rfl, rfl, h0, hJ, Tn.refl _ _⟩
 case round =>
  clear h0 hJ
  obtain ⟨j, F1, t1, hj, rfl, HE, HG1, hJ, hT⟩ := hrel
  by_cases hlt : j < l.length
  ·obtain ⟨b0, o0, e0, hb0, hc⟩ := HL.out F1 wr hT (by omega)
   have x1 := hc j hlt
   subst e0
   have hin : l.getD j 0 ∈ l := by rw [List.getD_eq_getElem?_getD, List.getElem?_eq_getElem hlt]; exact List.getElem_mem hlt
   have hbd := HLB.out _ hin
   have HS : Hid (eaL fd st e t (l.take (j + 1)) = eaS fd st e t1 (l.getD j 0)) := by
    show _ = _
    rw [take_snoc l j hlt 0]
    unfold eaL
    rw [List.foldl_append]
    have := HE.out
    unfold eaL at this
    rw [this]
    rfl
   have HG2 : Hid (G (j + 1) (eaS fd st e t1 (l.getD j 0))) := HG.out j t1 hlt HG1.out
   have HK1 := fun w h => HK.out j F1 t1 w hlt HG1.out h
   obtain ⟨d0, d5, L⟩ := HT.out F1 t1 wr (l.getD j 0) hJ
   have hf12 := HFD.out t1 (l.getD j 0)
   have HJ1 : Hid (o.J F1 t1 wr /\ Tn F w F1 wr) := ⟨hJ, hT⟩
   have HK1 : Hid (∀ w, o.J F1 t1 w -> l.getD j 0 + fd t1 (l.getD j 0) < e -> Calls Tryz.prog f (#[.int .i64 (l.getD j 0)] ++ cs) w fun r w' => ∃ F', r = .returned (.tuple #[]) /\ o.J F' (st t1 (l.getD j 0)) w' /\ Tn F1 w F' w') := HK1
   clear hc hin hJ hT
   by_cases hw : l.getD j 0 + fd t1 (l.getD j 0) < e
   ·have ES : Hid (eaS fd st e t1 (l.getD j 0) = st t1 (l.getD j 0)) := by show _ = _; unfold eaS; rw [if_pos hw]
    have HK2 : Hid (∀ w, o.J F1 t1 w -> Calls Tryz.prog f (#[.int .i64 (l.getD j 0)] ++ cs) w fun r w' => ∃ F', r = .returned (.tuple #[]) /\ o.J F' (st t1 (l.getD j 0)) w' /\ Tn F1 w F' w') := fun w h => HK1.out w h hw
    clear HK1
    generalize l.getD j 0 = a at *
    generalize fd t1 a = m at *
    generalize st t1 a = t2 at *
    go_wp2_with fail
    refine L.mono ?_
    clear L
    rintro r w1 ⟨x, z, rfl, hb1⟩
    go_wp2_with fail
    refine (HK2.out w1 (o.below HJ1.out.1 hb1)).mono ?_
    rintro r w2 ⟨F2, rfl, hJ2, hT2⟩
    have HJ2 : Hid (o.J F2 t2 w2 /\ Tn F w F2 w2) := ⟨hJ2, (HJ1.out.2.below hb1).trans hT2⟩
    clear hJ2 hT2 x1 d0 d5
    go_wp2_with fail
    go_roundw
    case rel => exact ⟨j + 1, F2, t2, by omega, by go_num, by show _ = _; rw [HS.out, ES.out], by show G _ _; rw [<- ES.out]; exact HG2.out, HJ2.out.1, HJ2.out.2⟩
    case measure => simp [intOf]; omega
   ·have ES : Hid (eaS fd st e t1 (l.getD j 0) = t1) := by show _ = _; unfold eaS; rw [if_neg hw]
    clear HK1
    generalize l.getD j 0 = a at *
    generalize fd t1 a = m at *
    go_wp2_with fail
    refine L.mono ?_
    clear L
    rintro r w1 ⟨x, z, rfl, hb1⟩
    have HJ2 : Hid (o.J F1 t1 w1 /\ Tn F w F1 w1) := ⟨o.below HJ1.out.1 hb1, HJ1.out.2.below hb1⟩
    clear x1 d0 d5
    go_wp2_with fail
    go_roundw
    case rel => exact ⟨j + 1, F1, t1, by omega, by go_num, by show _ = _; rw [HS.out, ES.out], by show G _ _; rw [<- ES.out]; exact HG2.out, HJ2.out.1, HJ2.out.2⟩
    case measure => simp [intOf]; omega
  ·obtain rfl : j = l.length := by omega
   rw [List.take_length] at HE
   go_wp2_with fail
   go_end0
   rw [HE.out]
   exact ⟨F1, rfl, hJ, hT, HG1.out⟩
end Go.Proofs.YtalgochmjddodaaGreat
