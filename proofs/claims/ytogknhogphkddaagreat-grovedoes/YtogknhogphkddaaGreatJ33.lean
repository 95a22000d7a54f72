/- Joined: Sde, Sdf, Gx30, Gx31, Gx32, Wqa, Kwp. -/
import Derived.Test.YtogknhogphkddaaGreatJ23
import Derived.Deep.DeepCutAuto
import Derived.Test.YtogknhogphkddaaGreatJ32
import Derived.Test.YtogknhogphkddaaGreatJ14
import Derived.Test.YtogknhogphkddaaGreatJ15
import Derived.Test.YtogknhogphkddaaGreatJ26
import Derived.Test.YtogknhogphkddaaGreatJ28
import Derived.Test.YtogknhogphkddaaGreatJ29
import Derived.Test.YtogknhogphkddaaGreatJ02
/- Wake: a contract, over whatever looks that do not panic. -/
namespace Go.Proofs.YtogknhogphkddaaGreat
open Go.RowKit W Kp Stl

end Go.Proofs.YtogknhogphkddaaGreat

/- A Side beside whatever its looks have of their own: what waits may be replaced, and written entry by entry. -/
namespace Go.Proofs.YtogknhogphkddaaGreat
open Go.RowKit W Kp Stl

theorem ev_set : ∀ (l : List En) (i : Nat) (g z : Int), ev (l.set i (g, z)) = ((ev l).set (i * 2) (.int .i64 g)).set (i * 2 + 1) (.int .i64 z)
  | [], _, _, _ => rfl
  | e :: l, 0, g, z => by simp [ev]
  | e :: l, i + 1, g, z => by
    have ih := ev_set l i g z
    have e1 : ev (e :: l) = .int .i64 e.1 :: .int .i64 e.2 :: ev l := by simp [ev]
    have e2 : ev ((e :: l).set (i + 1) (g, z)) = .int .i64 e.1 :: .int .i64 e.2 :: ev (l.set i (g, z)) := by simp [ev]
    rw [e1, e2, ih, show (i + 1) * 2 = i * 2 + 1 + 1 by omega]
    simp

end Go.Proofs.YtogknhogphkddaaGreat

/- A grove in memory: a root is made anew. -/
namespace Go.Proofs.YtogknhogphkddaaGreat
open Go.RowKit W Kp Stl

section
variable {gp rb : Nat} {most grow : Int} {F : Nat → Prop} {s : Wrs} {w : World}

theorem grO_root (h : (grO gp most grow rb).J F s w) {R : Nat} (v : Int × Int) :
    (grO gp most grow rb).J F { s with rs := s.rs.set R v } ((w.setCell ⟨rb, R * 2, none⟩ (.int .i64 v.1)).setCell ⟨rb, R * 2 + 1, none⟩ (.int .i64 v.2)) ∧ Tn F w F ((w.setCell ⟨rb, R * 2, none⟩ (.int .i64 v.1)).setCell ⟨rb, R * 2 + 1, none⟩ (.int .i64 v.2)) := by
  obtain ⟨l, h, rfl, hF⟩ := h
  have fr : Fr (fun k => k = l.rb) w ((w.setCell ⟨l.rb, R * 2, none⟩ (.int .i64 v.1)).setCell ⟨l.rb, R * 2 + 1, none⟩ (.int .i64 v.2)) := ((Fr.refl (fun k => k = l.rb) w).set l.rb _ _ rfl).set l.rb _ _ rfl
  have Frb : F l.rb := (hF _).2 (by rw [h.g4.ro]; decide)
  have hk : ∀ b, l.own b ≠ 0 → l.own b ≠ 4 → ((w.setCell ⟨l.rb, R * 2, none⟩ (.int .i64 v.1)).setCell ⟨l.rb, R * 2 + 1, none⟩ (.int .i64 v.2)).heap[b]? = w.heap[b]? := fun b h0 h4 => fr.block b (h.lt b h0) (fun e => h4 (by rw [e]; exact h.g4.ro))
  refine ⟨⟨l, ?_, rfl, hF⟩, fr.mono (fun b e => by rw [e]; exact Frb), fun b hb => Or.inl hb⟩
  refine { blk := (hk gp (by rw [h.bo]; decide) (by rw [h.bo]; decide)).trans h.blk, bo := h.bo, g2 := h.g2.keep (fun b hb => hk b (by omega) (by omega)), g3 := h.g3.keep (fun b hb => hk b (by omega) (by omega)), g4 := ⟨?_, ?_, h.g4.ro⟩, lt := fun b hb => Nat.lt_of_lt_of_le (h.lt b hb) fr.size }
  · show _ = some (Obj.cells (ev (s.rs.set R (v.1, v.2))).toArray _ _)
    rw [ev_set]
    simp only [World.setCell, Array.getElem?_modify, if_true, h.g4.rt, Option.map_some]
    simp
  · show (s.rs.set R v).length = 12
    rw [List.length_set]
    exact h.g4.rl
end

end Go.Proofs.YtogknhogphkddaaGreat

/- A grove in memory: Do: a root is made anew: a contract. -/
namespace Go.Proofs.YtogknhogphkddaaGreat
open Go.RowKit W Kp Stl

section
variable {gp rb : Nat} {most grow : Int} {F : Nat → Prop} {s : Wrs} {w : World}

theorem far2g {w : World} {b c o p q : Nat} {x v0 v1 : Value} (hn : b ≠ c) (h : w.cell? ⟨b, o, none⟩ = some x) : ((w.setCell ⟨c, p, none⟩ v0).setCell ⟨c, q, none⟩ v1).cell? ⟨b, o, none⟩ = some x := by
  rw [World.cell?_setCell_far _ _ _ _ (fun e => hn e.symm), World.cell?_setCell_far _ _ _ _ (fun e => hn e.symm)]
  exact h

set_option maxRecDepth 100000 in
set_option maxHeartbeats 4000000 in
theorem doG_root (h : (grO gp most grow rb).J F s w) (k : Int) (R : Nat) (hR : R < 12) (A B I n : Int) (hc : ckC k R A B n = 0) (k1 : k ≠ 9) (k2 : k ≠ 12) (k3 : k ≠ 15) (k4 : k ≠ 16) (v : Int × Int) (S2 : Wrs)
    (PR : ∀ w', Below w.heap.size w w' → Calls Tryz.prog 23 #[.pointer (some ⟨gp, 0, none⟩), hsV k R A B I n] w' fun e w'' => ∃ F2, e = .returned (.tuple #[.agg #[.int .i64 v.1, .int .i64 v.2], .int .i64 0]) ∧ (grO gp most grow rb).J F2 S2 w'' ∧ Tn F w' F2 w'') :
    Calls Tryz.prog 8 #[.pointer (some ⟨gp, 0, none⟩), hsV k R A B I n] w fun e w' => ∃ F', e = .returned (.int .i64 0) ∧ (grO gp most grow rb).J F' { S2 with rs := S2.rs.set R v } w' ∧ Tn F w F' w' := by
  obtain ⟨v0, v1⟩ := v
  dsimp only at PR
  have hb0 := (Below.refl w.heap.size w).alloc (Nat.le_refl _) (hsC k R A B I n)
  have hx0 := heap_alloc_new w (.cells #[.int .i64 k, .int .i64 (R : Int), .int .i64 A, .int .i64 B, .int .i64 I, .int .i64 n] 34)
  have PC := checkH_any k R A B I n (w.alloc (hsC k R A B I n))
  rw [hc] at PC
  have lF : ∀ b, F b → b < w.heap.size := fun b hb => (grO gp most grow rb).lt h b hb
  obtain ⟨_, _, Fg0, Fr0⟩ := grO_lk h
  have lr := lF _ Fr0
  have lg := lF _ Fg0
  have HE : Hid (∀ w1, Below (w.alloc (hsC k R A B I n)).heap.size (w.alloc (hsC k R A B I n)) w1 → w1.heap[w.heap.size]? = some (hsC k R A B I n) ∧ Calls Tryz.prog 23 #[.pointer (some ⟨gp, 0, none⟩), hsV k R A B I n] w1 fun e w2 => ∃ F2, e = .returned (.tuple #[.agg #[.int .i64 v0, .int .i64 v1], .int .i64 0]) ∧
      ((w2.alloc (.cells #[.int .i64 v0, .int .i64 v1] 54)).cell? ⟨gp, 6, none⟩ = some (.slice (some ⟨rb, 0, none⟩) 12 12) ∧ (w2.alloc (.cells #[.int .i64 v0, .int .i64 v1] 54)).cell? ⟨w.heap.size, 1, none⟩ = some (.int .i64 R) ∧ (w2.alloc (.cells #[.int .i64 v0, .int .i64 v1] 54)).cell? ⟨w2.heap.size, 0, none⟩ = some (.int .i64 v0) ∧ (w2.alloc (.cells #[.int .i64 v0, .int .i64 v1] 54)).cell? ⟨w2.heap.size, 1, none⟩ = some (.int .i64 v1)) ∧
      (∃ y0 y1, (w2.alloc (.cells #[.int .i64 v0, .int .i64 v1] 54)).cell? ⟨rb, R * 2, none⟩ = some (.int .i64 y0) ∧ (w2.alloc (.cells #[.int .i64 v0, .int .i64 v1] 54)).cell? ⟨rb, R * 2 + 1, none⟩ = some (.int .i64 y1)) ∧ (∀ o, (w2.alloc (.cells #[.int .i64 v0, .int .i64 v1] 54)).frozen? ⟨rb, o, none⟩ = false) ∧ w.heap.size < w2.heap.size ∧
      Hid ((grO gp most grow rb).J F2 S2 (w2.alloc (.cells #[.int .i64 v0, .int .i64 v1] 54)).drew ∧ Tn F w F2 (w2.alloc (.cells #[.int .i64 v0, .int .i64 v1] 54)).drew)) := fun w1 hb => by
    have hbt : Below w.heap.size w w1 := hb0.trans (hb.mono hb0.size)
    have hx1 := (hb.block _ (lt_of_some hx0)).trans hx0
    refine ⟨hx1, (PR w1 hbt).mono ?_⟩
    rintro e w2 ⟨F2, rfl, hj, tn⟩
    have ba : Below w2.heap.size w2 (w2.alloc (.cells #[.int .i64 v0, .int .i64 v1] 54)) := (Below.refl _ _).alloc (Nat.le_refl _) _
    have ja := (grO gp most grow rb).below hj ba
    obtain ⟨d6, rt, _, _⟩ := grO_lk ja
    have hx2 := (tn.fr.block w.heap.size (lt_of_some hx1) (fun d => by have := lF _ d; omega)).trans hx1
    obtain ⟨_, p1, _⟩ := hs_cells ((ba.block _ (lt_of_some hx2)).trans hx2)
    obtain ⟨z0, z1, _, _⟩ := two_cells (heap_alloc_new w2 (.cells #[.int .i64 v0, .int .i64 v1] 54))
    have fz : ∀ o, (w2.alloc (.cells #[.int .i64 v0, .int .i64 v1] 54)).frozen? ⟨rb, o, none⟩ = false := by
      obtain ⟨l, hl, rfl, _⟩ := ja
      intro o
      simp [World.frozen?, hl.g4.rt]
    exact ⟨F2, rfl, ⟨d6, p1, z0, z1⟩, ⟨_, _, (rt R hR).1, (rt R hR).2⟩, fz, lt_of_some hx2, (grO gp most grow rb).below ja (Below.refl _ _).drew, ((Tn.of hbt).trans tn).below ba.drew⟩
  have k1b : (k == 9) = false := by simpa using k1
  have k2b : (k == 12) = false := by simpa using k2
  have k3b : (k == 15) = false := by simpa using k3
  have k4b : (k == 16) = false := by simpa using k4
  have i0 : (0 : Int) ≤ (R : Int) := by omega
  have i1 : (R : Int) < 12 := by omega
  have nr : w.heap.size ≠ rb := by omega
  have HG : Hid (gp ≠ rb) := by
    obtain ⟨l, hl, rfl, _⟩ := h
    intro e
    have h1 := hl.bo
    rw [e, hl.g4.ro] at h1
    omega
  have ng := HG.out
  clear h hb0 hx0 hc PR lF Fg0 Fr0 HG
  go_enter Tryz.func8, Tryz.ntmps8
  go_wp2_with fail
  refine PC.mono ?_
  clear PC
  rintro e w1 ⟨rfl, hb1⟩
  obtain ⟨hx1, P⟩ := HE.out w1 hb1
  obtain ⟨q0, q1, q2, q3, q4, q5⟩ := hs_cells hx1
  clear hb1 hx1 HE
  go_wp2_with fail
  refine P.mono ?_
  clear P
  rintro e w2 ⟨F2, rfl, ⟨d1, d2, d3, d4⟩, ⟨y0, y1, t0_, t1_⟩, fz, lw, HJ⟩
  clear q0 q1 q2 q3 q4 q5
  have nn : w2.heap.size ≠ rb := by omega
  go_wp2_with fail
  go_region_held3 (fun w' => w'.cell? ⟨gp, 6, none⟩ = some (.slice (some ⟨rb, 0, none⟩) 12 12) ∧ w'.cell? ⟨w.heap.size, 1, none⟩ = some (.int .i64 R) ∧ w'.cell? ⟨w2.heap.size, 0, none⟩ = some (.int .i64 v0) ∧ w'.cell? ⟨w2.heap.size, 1, none⟩ = some (.int .i64 v1)) (first | exact ⟨d1, d2, d3, d4⟩ | exact ⟨far2g ng d1, far2g nr d2, far2g nn d3, far2g nn d4⟩ | (go_keep; done)) (fail)
  all_goals
    have HK : Hid (_ ∧ _) := grO_root HJ.out.1 (R := R) (v0, v1)
    clear d1 d2 d3 d4 t0_ t1_ fz
    go_wp2_with fail
    go_ret
    exact ⟨rfl, F2, HK.out.1, HJ.out.2.trans HK.out.2⟩
end

end Go.Proofs.YtogknhogphkddaaGreat

/- A grove in memory: Do whole: a contract. -/
namespace Go.Proofs.YtogknhogphkddaaGreat
open Go.RowKit W Kp Stl

theorem us_rt {k R A B n : Int} (hc : ckC k R A B n = 0) (k9 : k ≠ 9) (k12 : k ≠ 12) (k15 : k ≠ 15) (k16 : k ≠ 16) : usK k = 1 ∨ usK k = 3 ∨ usK k = 7 := by
  rcases kind_all k with d | d | d | d | d | d | d | d | d | d | d | d | d | d | d | d | d
  case' inr.inr.inr.inr.inr.inr.inr.inr.inr.inr.inr.inr.inr.inr.inr.inr =>
    have := usK_no d
    unfold ckC at hc
    rw [if_pos this] at hc
    omega
  all_goals
    first
      | (subst d; decide)
      | (exfalso; omega)
theorem regW_rs (s : Wrs) (t d : Int × Int) : (s.reg t d).2.rs = s.rs := by
  unfold Wrs.reg
  split
  · split <;> rfl
  · rfl
theorem setW_rs (s : Wrs) (v : Int × Int) (I : Int) (y : Int × Int) : (s.set v I y).2.rs = s.rs := by
  unfold Wrs.set
  dsimp only
  split <;> rfl
theorem Wcv.root {s : Wrs} (hv : Wcv s) (i : Nat) : (s.rs.getD i (0, 0)).1 = 3 → 0 ≤ (s.rs.getD i (0, 0)).2 ∧ Alv s.T (s.rs.getD i (0, 0)).2.toNat := fun h3 => by
  by_cases c : i < s.rs.length
  · exact hv.rv _ (getD_in c) h3
  · rw [List.getD_eq_getElem?_getD, List.getElem?_eq_none (by omega)] at h3
    cases h3

section
variable {gp rb : Nat} {most grow : Int} {F : Nat → Prop} {s : Wrs} {w : World} {g : Gfn}

theorem doG_any (h : (grO gp most grow rb).J F s w) (hv : Wcv s) (hG : Gok s.T s.wt (g s.T s.wt)) (g0 : -1000000 ≤ grow) (g1 : grow ≤ 1000000) (m0 : -1000000 ≤ most) (m1 : most ≤ 1000000) (k R A B I n : Int) :
    Calls Tryz.prog 8 #[.pointer (some ⟨gp, 0, none⟩), hsV k R A B I n] w fun e w' => ∃ F', e = .returned (.int .i64 (s.dos g most grow k R A B I n).1) ∧ (grO gp most grow rb).J F' (s.dos g most grow k R A B I n).2 w' ∧ Tn F w F' w' := by
  have h12 := hv.iv.tl
  have tl := hv.tl
  have gl := hv.gl
  have wl := hv.wl
  unfold Wrs.dos
  by_cases hc : ckC k R A B n = 0
  · rw [if_pos hc]
    by_cases e9 : k = 9
    · rw [if_pos e9]
      subst e9
      have h1 := ck_A hc (by decide)
      have h2 := ck_B hc (by decide)
      obtain ⟨A, rfl⟩ := Int.eq_ofNat_of_zero_le h1.1
      obtain ⟨B, rfl⟩ := Int.eq_ofNat_of_zero_le h2.1
      rw [Int.toNat_natCast, Int.toNat_natCast]
      exact doG_reg h R I n A B (by omega) (by omega) hc _ _ (regW_rs _ _ _) (fun w' hb => registerG_any ((grO gp most grow rb).below h hb) _ _ (hv.root A) (hv.root B) tl (by omega) (by omega))
    rw [if_neg e9]
    by_cases e12 : k = 12
    · rw [if_pos e12]
      subst e12
      have h1 := ck_A hc (by decide)
      have h2 := ck_B hc (by decide)
      obtain ⟨A, rfl⟩ := Int.eq_ofNat_of_zero_le h1.1
      obtain ⟨B, rfl⟩ := Int.eq_ofNat_of_zero_le h2.1
      rw [Int.toNat_natCast, Int.toNat_natCast]
      exact doG_set h R I n A B (by omega) (by omega) hc _ _ (setW_rs _ _ _ _) (fun w' hb => setG_any ((grO gp most grow rb).below h hb) _ _ I (hv.root A) tl h12)
    rw [if_neg e12]
    by_cases e15 : k = 15
    · rw [if_pos e15]
      exact doG_cut k R A B I n (Or.inl e15) hc _ _ (fun _ w' hb => smallG_any ((grO gp most grow rb).below h hb) hv hG g0 g1) (fun e => by omega)
    rw [if_neg e15]
    by_cases e16 : k = 16
    · rw [if_pos e16]
      exact doG_cut k R A B I n (Or.inr e16) hc _ _ (fun e => by omega) (fun _ w' hb => greatG_any ((grO gp most grow rb).below h hb) hv hG)
    rw [if_neg e16]
    have hR := ck_R hc (us_rt hc e9 e12 e15 e16)
    obtain ⟨R, rfl⟩ := Int.eq_ofNat_of_zero_le hR.1
    rw [Int.toNat_natCast]
    have PR : ∀ w', Below w.heap.size w w' → Calls Tryz.prog 23 #[.pointer (some ⟨gp, 0, none⟩), hsV k R A B I n] w' fun e w'' => ∃ F2, e = .returned (.tuple #[.agg #[.int .i64 (s.rt g most grow k A.toNat B.toNat I n).1.1, .int .i64 (s.rt g most grow k A.toNat B.toNat I n).1.2], .int .i64 (s.rt g most grow k A.toNat B.toNat I n).2.1]) ∧ (grO gp most grow rb).J F2 (s.rt g most grow k A.toNat B.toNat I n).2.2 w'' ∧ Tn F w' F2 w'' := fun w' hb => rootG_any ((grO gp most grow rb).below h hb) hv hG g0 g1 m0 m1 k R A B I n hc e9 e12 e15 e16
    generalize s.rt g most grow k A.toNat B.toNat I n = t at *
    obtain ⟨v, cd, S2⟩ := t
    dsimp only at *
    by_cases c : cd = 0
    · rw [if_pos c]
      subst c
      exact doG_root h k R (by omega) A B I n hc e9 e12 e15 e16 v S2 PR
    · rw [if_neg c]
      exact doG_code k R A B I n hc e9 e12 e15 e16 v cd c S2 PR
  · rw [if_neg hc]
    refine (doG_bad (gp := gp) (w := w) k R A B I n hc).mono ?_
    rintro e w' ⟨rfl, hb⟩
    exact ⟨F, rfl, (grO gp most grow rb).below h hb, Tn.of hb⟩
end

end Go.Proofs.YtogknhogphkddaaGreat

/- The document's world: Do, whatever the step: its contract. -/
namespace Go.Proofs.YtogknhogphkddaaGreat
open Go.RowKit W Kp Stl

section
variable {s : Wrs} {j : Nat}

theorem th_of (hi : Gi s j) (A : Nat) : ((s.rs.getD A (0, 0)).1 = 3 ∧ s.th A = (s.rs.getD A (0, 0)).2 ∧ 0 ≤ (s.rs.getD A (0, 0)).2 ∧ (s.rs.getD A (0, 0)).2.toNat < s.T.length) ∨ ((s.rs.getD A (0, 0)).1 ≠ 3 ∧ s.th A = -1) := by
  have hq := hi.rt A
  unfold Wrs.th
  by_cases c : (s.rs.getD A (0, 0)).1 = 3
  · rw [if_pos c]
    exact Or.inl ⟨c, rfl, (hq.2 c).1, (hq.2 c).2.1⟩
  · rw [if_neg c]
    exact Or.inr ⟨c, rfl⟩
theorem th_lt (hi : Gi s j) (A : Nat) : 0 ≤ s.th A → s.th A < s.T.length := fun h => by
  rcases th_of hi A with ⟨_, e, h0, h1⟩ | ⟨_, e⟩
  · rw [e]
    omega
  · omega
theorem gd_of (hi : Gi s j) (A : Nat) : (gdb s.T (s.rs.getD A (0, 0)) = true ∧ s.gd A = (s.rs.getD A (0, 0)).2 ∧ 0 ≤ (s.rs.getD A (0, 0)).2) ∨ (¬ gdb s.T (s.rs.getD A (0, 0)) = true ∧ s.gd A = -1) := by
  unfold Wrs.gd
  rcases th_of hi A with ⟨h3, e, h0, h1⟩ | ⟨h3, e⟩
  · rw [e, if_neg (by omega)]
    by_cases c : (s.T.getD (s.rs.getD A (0, 0)).2.toNat t0).1 = 5
    · exact Or.inl ⟨gdb_iff.2 ⟨h3, c⟩, if_pos c, h0⟩
    · exact Or.inr ⟨fun d => c (gdb_iff.1 d).2, if_neg c⟩
  · rw [e, if_pos (by decide)]
    exact Or.inr ⟨fun d => h3 (gdb_iff.1 d).1, rfl⟩
theorem fd_of (hi : Gi s j) (A : Nat) : (fdb s.T (s.rs.getD A (0, 0)) = true ∧ s.th A = (s.rs.getD A (0, 0)).2 ∧ ¬ (s.th A < 0 ∨ (s.T.getD (s.th A).toNat (0, [], false, false)).1 = 5)) ∨ (¬ fdb s.T (s.rs.getD A (0, 0)) = true ∧ (s.th A < 0 ∨ (s.T.getD (s.th A).toNat (0, [], false, false)).1 = 5)) := by
  rcases th_of hi A with ⟨h3, e, h0, h1⟩ | ⟨h3, e⟩
  · rw [e]
    by_cases c : (s.T.getD (s.rs.getD A (0, 0)).2.toNat t0).1 = 5
    · exact Or.inr ⟨fun d => (fdb_iff.1 d).2 c, Or.inr c⟩
    · exact Or.inl ⟨fdb_iff.2 ⟨h3, c⟩, rfl, fun d => d.elim (fun d => by omega) (fun d => c d)⟩
  · exact Or.inr ⟨fun d => h3 (fdb_iff.1 d).1, Or.inl (by omega)⟩
theorem fc_gc (hi : Gi s j) (A : Nat) (I : Int) : s.fc (s.rs.getD A (0, 0)) I = s.gc A I := by
  unfold Wrs.fc Wrs.gc
  rcases fd_of hi A with ⟨h1, h2, h3⟩ | ⟨h1, h3⟩
  · rw [if_pos h1, if_neg h3, h2]
    rfl
  · rw [if_neg h1, if_pos h3]
theorem gc_th (hi : Gi s j) (A : Nat) (I : Int) (h : s.gc A I = 0) : s.th A = (s.rs.getD A (0, 0)).2 := by
  unfold Wrs.gc at h
  rcases fd_of hi A with ⟨h1, h2, h3⟩ | ⟨h1, h3⟩
  · exact h2
  · rw [if_pos h3] at h
    omega
end

section
variable {rp rb j : Nat} {most grow : Int} {F : Nat → Prop} {s : Wrs} {w : World} {g : Gfn}

theorem doQ_any (h : (wrO rp rb most grow).J F s w) (hi : Gi s j) (hg : Gok s.T s.wt (g s.T s.wt)) (hj : j ≤ 10000) (h0 : 0 ≤ grow) (h1 : grow ≤ 100000) (m0 : 0 ≤ most) (m1 : most ≤ 100000) (k R A B I n : Int) :
    Calls Tryz.prog 9 #[.pointer (some ⟨rp, 0, none⟩), stpV k R A B I n] w fun e w' => ∃ F', e = .returned (.int .i64 (s.dos g most grow k R A B I n).1) ∧ (wrO rp rb most grow).J F' (s.dos g most grow k R A B I n).2 w' ∧ Tn F w F' w' := by
  have hv := hi.wcv hj
  have hT : ∀ t ∈ s.T, t.2.1.length ≤ 12 := hv.t12
  by_cases hc : ckC k R A B n = 0
  case neg =>
    have e : s.dos g most grow k R A B I n = (ckC k R A B n, s) := by
      unfold Wrs.dos
      rw [if_neg hc]
    rw [e]
    refine (doQ_no h k R A B I n hc).mono ?_
    rintro e w' ⟨rfl, h2, h3⟩
    exact ⟨F, rfl, h2, h3⟩
  have hs := sfk_of I hc
  have hAx : usK k = 3 ∨ usK k = 6 ∨ usK k = 7 → ∃ a : Nat, A = a ∧ a < 12 := fun hu => by
    have h1 := ck_A hc hu
    exact ⟨A.toNat, by omega, by omega⟩
  have hBx : usK k = 6 ∨ usK k = 7 → ∃ a : Nat, B = a ∧ a < 12 := fun hu => by
    have h1 := ck_B hc hu
    exact ⟨B.toNat, by omega, by omega⟩
  have hRx : usK k = 1 ∨ usK k = 3 ∨ usK k = 7 → ∃ a : Nat, R = a ∧ a < 12 := fun hu => by
    have h1 := ck_R hc hu
    exact ⟨R.toNat, by omega, by omega⟩
  have one : ∀ cd S2, s.dos g most grow k R A B I n = (cd, S2) → (Calls Tryz.prog 9 #[.pointer (some ⟨rp, 0, none⟩), stpV k R A B I n] w fun e w' => ∃ F', e = .returned (.int .i64 cd) ∧ (wrO rp rb most grow).J F' S2 w' ∧ Tn F w F' w') → Calls Tryz.prog 9 #[.pointer (some ⟨rp, 0, none⟩), stpV k R A B I n] w fun e w' => ∃ F', e = .returned (.int .i64 (s.dos g most grow k R A B I n).1) ∧ (wrO rp rb most grow).J F' (s.dos g most grow k R A B I n).2 w' ∧ Tn F w F' w' := fun cd S2 e P => by
    rw [e]
    exact P
  have two : ∀ cd S2, s.dos g most grow k R A B I n = (cd, S2) → (Calls Tryz.prog 9 #[.pointer (some ⟨rp, 0, none⟩), stpV k R A B I n] w fun e w' => e = .returned (.int .i64 cd) ∧ (wrO rp rb most grow).J F S2 w' ∧ Tn F w F w') → Calls Tryz.prog 9 #[.pointer (some ⟨rp, 0, none⟩), stpV k R A B I n] w fun e w' => ∃ F', e = .returned (.int .i64 (s.dos g most grow k R A B I n).1) ∧ (wrO rp rb most grow).J F' (s.dos g most grow k R A B I n).2 w' ∧ Tn F w F' w' := fun cd S2 e P => by
    rw [e]
    refine P.mono ?_
    rintro e w' ⟨rfl, h2, h3⟩
    exact ⟨F, rfl, h2, h3⟩
  rcases kind_all k with rfl | rfl | rfl | rfl | rfl | rfl | rfl | rfl | rfl | rfl | rfl | rfl | rfl | rfl | rfl | rfl | hk
  · obtain ⟨R, rfl, hR⟩ := hRx (by decide)
    refine two _ _ ?_ (doQ_int h R hR A B I n hs)
    unfold Wrs.dos
    rw [if_pos hc]
    rfl
  · obtain ⟨R, rfl, hR⟩ := hRx (by decide)
    refine two _ _ ?_ (doQ_nil h R hR A B I n hs)
    unfold Wrs.dos
    rw [if_pos hc]
    rfl
  · obtain ⟨R, rfl, hR⟩ := hRx (by decide)
    obtain ⟨A, rfl, hA⟩ := hAx (by decide)
    refine two _ _ ?_ (doQ_move h R A hR hA B I n hs)
    unfold Wrs.dos
    rw [if_pos hc]
    rfl
  · obtain ⟨R, rfl, hR⟩ := hRx (by decide)
    obtain ⟨A, rfl, hA⟩ := hAx (by decide)
    obtain ⟨B, rfl, hB⟩ := hBx (by decide)
    refine one _ _ ?_ (doQ_pair h hv h0 h1 m0 m1 g hg R A B hR hA hB I n hs)
    unfold Wrs.dos
    rw [if_pos hc]
    rfl
  · obtain ⟨R, rfl, hR⟩ := hRx (by decide)
    obtain ⟨A, rfl, hA⟩ := hAx (by decide)
    have hn := ck_vc hc
    obtain ⟨n, rfl⟩ := Int.eq_ofNat_of_zero_le hn.1
    refine one _ _ ?_ (doQ_vec h hv h0 h1 m0 m1 g hg R A n hR hA (by omega) B I hs)
    unfold Wrs.dos
    rw [if_pos hc]
    rfl
  · obtain ⟨R, rfl, hR⟩ := hRx (by decide)
    obtain ⟨A, rfl, hA⟩ := hAx (by decide)
    obtain ⟨B, rfl, hB⟩ := hBx (by decide)
    refine one _ _ ?_ (doQ_weak h hv h0 h1 m0 m1 g hg R A B hR hA hB I n hs)
    unfold Wrs.dos
    rw [if_pos hc]
    rfl
  · obtain ⟨R, rfl, hR⟩ := hRx (by decide)
    obtain ⟨A, rfl, hA⟩ := hAx (by decide)
    obtain ⟨B, rfl, hB⟩ := hBx (by decide)
    refine one _ _ ?_ (doQ_eph h hv h0 h1 m0 m1 g hg R A B hR hA hB I n hs)
    unfold Wrs.dos
    rw [if_pos hc]
    rfl
  · obtain ⟨R, rfl, hR⟩ := hRx (by decide)
    refine one _ _ ?_ (doQ_guard h hv h0 h1 m0 m1 g hg R hR A B I n hs)
    unfold Wrs.dos
    rw [if_pos hc]
    rfl
  · obtain ⟨A, rfl, hA⟩ := hAx (by decide)
    obtain ⟨B, rfl, hB⟩ := hBx (by decide)
    refine one _ _ ?_ (doQ_reg h A B hA hB (th_lt hi B) (by have := hi.en; omega) (by have := hi.en; omega) R I n hs)
    have e : s.dos g most grow 9 R A B I n = s.reg (s.rs.getD A (0, 0)) (s.rs.getD B (0, 0)) := by
      unfold Wrs.dos
      rw [if_pos hc]
      rfl
    rw [e]
    unfold Wrs.reg
    rcases th_of hi A with ⟨a1, a2, a3, _⟩ | ⟨a1, a2⟩
    · rcases gd_of hi B with ⟨b1, b2, b3⟩ | ⟨b1, b2⟩
      · have n1 : ¬ (s.th A < 0 ∨ s.gd B < 0) := by
          rw [a2, b2]
          omega
        by_cases c : 24 ≤ s.rg.length + s.wt.length
        · have e2 : s.rcq A B = 3 := by
            unfold Wrs.rcq
            rw [if_neg n1, if_pos c]
          rw [e2, if_pos ⟨a1, b1⟩, if_pos c]
          rfl
        · have e2 : s.rcq A B = 0 := by
            unfold Wrs.rcq
            rw [if_neg n1, if_neg c]
          rw [e2, if_pos ⟨a1, b1⟩, if_neg c, if_pos rfl, a2, b2]
      · have e2 : s.rcq A B = 2 := by
          unfold Wrs.rcq
          rw [if_pos (Or.inr (by rw [b2]; decide))]
        rw [e2, if_neg (fun c => b1 c.2)]
        rfl
    · have e2 : s.rcq A B = 2 := by
        unfold Wrs.rcq
        rw [if_pos (Or.inl (by rw [a2]; decide))]
      rw [e2, if_neg (fun c => a1 c.1)]
      rfl
  · obtain ⟨R, rfl, hR⟩ := hRx (by decide)
    obtain ⟨A, rfl, hA⟩ := hAx (by decide)
    refine one _ _ ?_ (doQ_pop h R A hR hA B I n hs (th_lt hi A) (by have := hi.en; omega))
    have e : s.dos g most grow 10 R A B I n = if (s.pop (s.rs.getD A (0, 0))).2.1 = 0 then (0, { (s.pop (s.rs.getD A (0, 0))).2.2 with rs := (s.pop (s.rs.getD A (0, 0))).2.2.rs.set R (s.pop (s.rs.getD A (0, 0))).1 }) else ((s.pop (s.rs.getD A (0, 0))).2.1, (s.pop (s.rs.getD A (0, 0))).2.2) := by
      unfold Wrs.dos
      rw [if_pos hc]
      rfl
    rw [e]
    unfold Wrs.pop
    rcases gd_of hi A with ⟨b1, b2, b3⟩ | ⟨b1, b2⟩
    · have n1 : ¬ s.gd A < 0 := by
        rw [b2]
        omega
      rw [if_pos b1, if_neg n1, if_neg n1, b2]
      by_cases c : pqI (s.rs.getD A (0, 0)).2 s.wt < s.wt.length
      · rw [if_pos c, if_pos c, if_pos c]
        rfl
      · rw [if_neg c, if_neg c, if_neg c]
        rfl
    · rw [if_neg b1, b2]
      rfl
  · obtain ⟨R, rfl, hR⟩ := hRx (by decide)
    obtain ⟨A, rfl, hA⟩ := hAx (by decide)
    refine two _ _ ?_ (doQ_get h R A hR hA I (th_lt hi A) hT hv.tl B n hs)
    have e : s.dos g most grow 11 R A B I n = if s.fc (s.rs.getD A (0, 0)) I = 0 then (0, { s with rs := s.rs.set R (if s.fc (s.rs.getD A (0, 0)) I = 0 then (s.T.getD (s.rs.getD A (0, 0)).2.toNat t0).2.1.getD I.toNat (0, 0) else (0, 0)) }) else (s.fc (s.rs.getD A (0, 0)) I, s) := by
      unfold Wrs.dos
      rw [if_pos hc]
      rfl
    rw [e, fc_gc hi]
    by_cases c : s.gc A I = 0
    · rw [if_pos c, if_pos c, if_pos c, c]
      unfold Wrs.gf
      rw [gc_th hi A I c]
      rfl
    · rw [if_neg c, if_neg c]
  · obtain ⟨A, rfl, hA⟩ := hAx (by decide)
    obtain ⟨B, rfl, hB⟩ := hBx (by decide)
    refine one _ _ ?_ (doQ_set h A B hA hB I (th_lt hi A) hT hv.tl R n hs)
    have e : s.dos g most grow 12 R A B I n = (s.fc (s.rs.getD A (0, 0)) I, if s.fc (s.rs.getD A (0, 0)) I = 0 then { s with T := stf s.T (s.rs.getD A (0, 0)).2.toNat I.toNat (s.rs.getD B (0, 0)) } else s) := by
      unfold Wrs.dos
      rw [if_pos hc]
      rfl
    rw [e, fc_gc hi]
    by_cases c : s.gc A I = 0
    · rw [if_pos c, if_pos c]
      unfold Wrs.sTq
      rw [gc_th hi A I c]
      rfl
    · rw [if_neg c, if_neg c]
  · obtain ⟨R, rfl, hR⟩ := hRx (by decide)
    obtain ⟨A, rfl, hA⟩ := hAx (by decide)
    refine two _ _ ?_ (doQ_len h R A hR hA B I n hs (th_lt hi A) hT)
    have e : s.dos g most grow 13 R A B I n = if (if fdb s.T (s.rs.getD A (0, 0)) = true then ((1, ((s.T.getD (s.rs.getD A (0, 0)).2.toNat t0).2.1.length : Int)), 0, s) else ((0, 0), 2, s) : (Int × Int) × Int × Wrs).2.1 = 0 then (0, { (if fdb s.T (s.rs.getD A (0, 0)) = true then ((1, ((s.T.getD (s.rs.getD A (0, 0)).2.toNat t0).2.1.length : Int)), 0, s) else ((0, 0), 2, s) : (Int × Int) × Int × Wrs).2.2 with rs := (if fdb s.T (s.rs.getD A (0, 0)) = true then ((1, ((s.T.getD (s.rs.getD A (0, 0)).2.toNat t0).2.1.length : Int)), 0, s) else ((0, 0), 2, s) : (Int × Int) × Int × Wrs).2.2.rs.set R (if fdb s.T (s.rs.getD A (0, 0)) = true then ((1, ((s.T.getD (s.rs.getD A (0, 0)).2.toNat t0).2.1.length : Int)), 0, s) else ((0, 0), 2, s) : (Int × Int) × Int × Wrs).1 }) else ((if fdb s.T (s.rs.getD A (0, 0)) = true then ((1, ((s.T.getD (s.rs.getD A (0, 0)).2.toNat t0).2.1.length : Int)), 0, s) else ((0, 0), 2, s) : (Int × Int) × Int × Wrs).2.1, (if fdb s.T (s.rs.getD A (0, 0)) = true then ((1, ((s.T.getD (s.rs.getD A (0, 0)).2.toNat t0).2.1.length : Int)), 0, s) else ((0, 0), 2, s) : (Int × Int) × Int × Wrs).2.2) := by
      unfold Wrs.dos
      rw [if_pos hc]
      rfl
    rw [e]
    rcases fd_of hi A with ⟨b1, b2, b3⟩ | ⟨b1, b3⟩
    · rw [if_pos b1, if_neg b3, if_neg b3, b2]
      rfl
    · rw [if_neg b1, if_pos b3, if_pos b3]
      rfl
  · obtain ⟨R, rfl, hR⟩ := hRx (by decide)
    obtain ⟨A, rfl, hA⟩ := hAx (by decide)
    obtain ⟨B, rfl, hB⟩ := hBx (by decide)
    refine two _ _ ?_ (doQ_same h R A B hR hA hB I n hs)
    unfold Wrs.dos
    rw [if_pos hc]
    rfl
  · refine one _ _ ?_ (doQ_cut h hv h0 h1 false (g s.T s.wt) hg 15 R A B I n rfl hs)
    unfold Wrs.dos
    rw [if_pos hc]
    rfl
  · refine one _ _ ?_ (doQ_cut h hv h0 h1 true (g s.T s.wt) hg 16 R A B I n rfl hs)
    unfold Wrs.dos
    rw [if_pos hc]
    rfl
  · exfalso
    unfold ckC at hc
    rw [if_pos (usK_no hk)] at hc
    omega
end

end Go.Proofs.YtogknhogphkddaaGreat

/- What may turn while a view is walked through. -/
namespace Go.Proofs.YtogknhogphkddaaGreat
open Go.RowKit W Kp Stl

def Tyw (e : TypeId) : Prop := e = 68 ∨ e = 41 ∨ e = 3 ∨ e = 80
structure Kw (B : Nat) (w w' : World) : Prop where
  os : w'.os = w.os
  tape : w'.tape = w.tape
  output : w'.output = w.output
  size : w.heap.size ≤ w'.heap.size
  low : ∀ k : Nat, k < w.heap.size → k < B → w'.heap[k]? = w.heap[k]?
  oth : ∀ (k : Nat) cs e m, w.heap[k]? = some (Obj.cells cs e m) → ¬ Tyw e → w'.heap[k]? = w.heap[k]?

section
variable {B : Nat} {w w' w'' : World}
theorem Kw.refl (B : Nat) (w : World) : Kw B w w := ⟨rfl, rfl, rfl, Nat.le_refl _, fun _ _ _ => rfl, fun _ _ _ _ _ _ => rfl⟩
theorem Kw.trans (h : Kw B w w') (k : Kw B w' w'') : Kw B w w'' :=
  ⟨k.os.trans h.os, k.tape.trans h.tape, k.output.trans h.output, Nat.le_trans h.size k.size, fun i hi hb => (k.low i (Nat.lt_of_lt_of_le hi h.size) hb).trans (h.low i hi hb), fun i cs e m hi h1 => (k.oth i cs e m ((h.oth i cs e m hi h1).trans hi) h1).trans (h.oth i cs e m hi h1)⟩
theorem Kw.of (h : Below w.heap.size w w') : Kw B w w' := ⟨h.os, h.tape, h.output, h.size, fun k hk _ => h.block k hk, fun k _ _ _ hi _ => h.block k (lt_of_some hi)⟩
theorem Kw.below (h : Kw B w w') (hB : B ≤ w.heap.size) : Below B w w' := ⟨h.os, h.tape, h.output, h.size, fun k hk => h.low k (by omega) hk⟩
theorem Kw.fr {X : Nat → Prop} (f : Fr X w w') (hX : ∀ k, X k → B ≤ k ∧ ∀ cs e m, w.heap[k]? = some (Obj.cells cs e m) → Tyw e) : Kw B w w' :=
  ⟨f.os, f.tape, f.output, f.size, fun k hk hb => f.block k hk (fun d => by have := (hX k d).1; omega), fun k cs e m hk hn => f.block k (lt_of_some hk) (fun d => hn ((hX k d).2 cs e m hk))⟩
theorem Kw.new {X : Nat → Prop} (h : Kw B w w') (f : Fr X w' w'') (hx : ∀ k, X k → w.heap.size ≤ k) : Kw B w w'' :=
  ⟨f.os.trans h.os, f.tape.trans h.tape, f.output.trans h.output, Nat.le_trans h.size f.size, fun k hk hb => (f.block k (Nat.lt_of_lt_of_le hk h.size) (fun d => by have := hx k d; omega)).trans (h.low k hk hb), fun k cs e m hk hn => (f.block k (Nat.lt_of_lt_of_le (lt_of_some hk) h.size) (fun d => by have h1 := hx k d; have h2 := lt_of_some hk; omega)).trans (h.oth k cs e m hk hn)⟩
theorem Lv.kw {ad : Option Addr} {l : List (Int × Int)} (h : Lv w ad l) (k : Kw B w w') : Lv w' ad l := by
  have hk : 0 < l.length → ∀ b, ad = some b → w'.heap[b.block]? = w.heap[b.block]? := fun hp b e => by
    obtain ⟨b0, o0, cs, e0, hb⟩ := h.2 hp
    rw [e0] at e
    cases e
    exact k.oth _ _ _ _ hb (by unfold Tyw; decide)
  refine ⟨h.1.keep k.size hk, fun hp => ?_⟩
  obtain ⟨b0, o0, cs, e0, hb⟩ := h.2 hp
  exact ⟨b0, o0, cs, e0, (hk hp _ e0).trans hb⟩
end

def Kx (w0 w : World) (m : List Vnd) (w' : World) (m' : List Vnd) : Prop := Kw w0.heap.size w w' ∧ ∀ k, Fb m' k → Fb m k ∨ w.heap.size ≤ k
theorem Kx.refl (w0 w : World) (m : List Vnd) : Kx w0 w m w m := ⟨Kw.refl _ _, fun _ h => Or.inl h⟩
theorem Kx.trans {w0 w w' w'' : World} {m m' m'' : List Vnd} (h : Kx w0 w m w' m') (k : Kx w0 w' m' w'' m'') : Kx w0 w m w'' m'' :=
  ⟨h.1.trans k.1, fun i hi => (k.2 i hi).elim (h.2 i) (fun d => Or.inr (Nat.le_trans h.1.size d))⟩
theorem Kx.of {w0 w w' : World} {m : List Vnd} (h : Below w.heap.size w w') : Kx w0 w m w' m := ⟨Kw.of h, fun _ d => Or.inl d⟩

end Go.Proofs.YtogknhogphkddaaGreat
