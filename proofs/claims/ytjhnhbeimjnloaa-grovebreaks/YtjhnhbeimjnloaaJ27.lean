/- Joined: Gx29, Sdf, Gx30, Gx31, Gx32, Wo5, Wo6, Hn1. -/
import Derived.Test.YtjhnhbeimjnloaaJ26
import Derived.Test.YtjhnhbeimjnloaaJ05
import Derived.Test.YtjhnhbeimjnloaaJ04
import Derived.Test.YtjhnhbeimjnloaaJ23
/- A grove in memory: Do: what root refuses: a contract. -/
namespace Go.Proofs.Ytjhnhbeimjnloaa
open Go.RowKit W Kp Stl

section
variable {gp rb : Nat} {most grow : Int} {F : Nat → Prop} {w : World}

set_option maxRecDepth 100000 in
set_option maxHeartbeats 4000000 in
theorem doG_code (k R A B I n : Int) (hc : ckC k R A B n = 0) (k1 : k ≠ 9) (k2 : k ≠ 12) (k3 : k ≠ 15) (k4 : k ≠ 16) (v : Int × Int) (cd : Int) (hcd : cd ≠ 0) (S2 : Wrs)
    (PR : ∀ w', Below w.heap.size w w' → Calls Try.prog 26 #[.pointer (some ⟨gp, 0, none⟩), hsV k R A B I n] w' fun e w'' => ∃ F2, e = .returned (.tuple #[.agg #[.int .i64 v.1, .int .i64 v.2], .int .i64 cd]) ∧ (grO gp most grow rb).J F2 S2 w'' ∧ Tn F w' F2 w'') :
    Calls Try.prog 8 #[.pointer (some ⟨gp, 0, none⟩), hsV k R A B I n] w fun e w' => ∃ F', e = .returned (.int .i64 cd) ∧ (grO gp most grow rb).J F' S2 w' ∧ Tn F w F' w' := by
  obtain ⟨v0, v1⟩ := v
  dsimp only at PR
  have hb0 := (Below.refl w.heap.size w).alloc (Nat.le_refl _) (hsC k R A B I n)
  have hx0 := heap_alloc_new w (.cells #[.int .i64 k, .int .i64 R, .int .i64 A, .int .i64 B, .int .i64 I, .int .i64 n] 30)
  have PC := checkH_any k R A B I n (w.alloc (hsC k R A B I n))
  rw [hc] at PC
  have HE : Hid (∀ w1, Below (w.alloc (hsC k R A B I n)).heap.size (w.alloc (hsC k R A B I n)) w1 → w1.heap[w.heap.size]? = some (hsC k R A B I n) ∧ Calls Try.prog 26 #[.pointer (some ⟨gp, 0, none⟩), hsV k R A B I n] w1 fun e w2 => ∃ F2, e = .returned (.tuple #[.agg #[.int .i64 v0, .int .i64 v1], .int .i64 cd]) ∧ Hid ((grO gp most grow rb).J F2 S2 w2 ∧ Tn F w F2 w2)) := fun w1 hb => by
    have hbt : Below w.heap.size w w1 := hb0.trans (hb.mono hb0.size)
    refine ⟨(hb.block _ (lt_of_some hx0)).trans hx0, (PR w1 hbt).mono ?_⟩
    rintro e w2 ⟨F2, rfl, hj, tn⟩
    exact ⟨F2, rfl, hj, (Tn.of hbt).trans tn⟩
  have k1b : (k == 9) = false := by simpa using k1
  have k2b : (k == 12) = false := by simpa using k2
  have k3b : (k == 15) = false := by simpa using k3
  have k4b : (k == 16) = false := by simpa using k4
  have cb : (cd == 0) = false := by simpa using hcd
  clear hb0 hx0 hc PR
  go_enter Try.func8, Try.ntmps8
  go_wp2_with fail
  refine PC.mono ?_
  clear PC
  rintro e w1 ⟨rfl, hb1⟩
  obtain ⟨hx1, P⟩ := HE.out w1 hb1
  obtain ⟨q0, q1, q2, q3, q4, q5⟩ := hs_cells hx1
  clear hb1 hx1 HE
  go_wp2_with fail
  refine P.mono ?_
  clear P
  rintro e w2 ⟨F2, rfl, HJ⟩
  clear q0 q1 q2 q3 q4 q5
  have HB : Hid ((grO gp most grow rb).J F2 S2 (w2.alloc (.cells #[.int .i64 v0, .int .i64 v1] 41)) ∧ Tn F w F2 (w2.alloc (.cells #[.int .i64 v0, .int .i64 v1] 41))) := ⟨(grO gp most grow rb).below HJ.out.1 ((Below.refl _ _).alloc (Nat.le_refl _) _), HJ.out.2.below ((Below.refl _ _).alloc (Nat.le_refl _) _)⟩
  clear HJ
  go_wp2_with fail
  go_ret
  exact ⟨F2, rfl, HB.out.1, HB.out.2⟩
end

end Go.Proofs.Ytjhnhbeimjnloaa

/- A Side beside whatever its looks have of their own: what waits may be replaced, and written entry by entry. -/
namespace Go.Proofs.Ytjhnhbeimjnloaa
open Go.RowKit W Kp Stl

theorem ev_set : ∀ (l : List En) (i : Nat) (g z : Int), ev (l.set i (g, z)) = ((ev l).set (i * 2) (.int .i64 g)).set (i * 2 + 1) (.int .i64 z)
  | [], _, _, _ => rfl
  | e :: l, 0, g, z => by simp [ev]
  | e :: l, i + 1, g, z => by
    have ih := ev_set l i g z
    have e1 : ev (e :: l) = .int .i64 e.1 :: .int .i64 e.2 :: ev l := by simp [ev]
    have e2 : ev ((e :: l).set (i + 1) (g, z)) = .int .i64 e.1 :: .int .i64 e.2 :: ev (l.set i (g, z)) := by simp [ev]
    rw [e1, e2, ih, show (i + 1) * 2 = i * 2 + 1 + 1 by omega]
    simp

end Go.Proofs.Ytjhnhbeimjnloaa

/- A grove in memory: a root is made anew. -/
namespace Go.Proofs.Ytjhnhbeimjnloaa
open Go.RowKit W Kp Stl

section
variable {gp rb : Nat} {most grow : Int} {F : Nat → Prop} {s : Wrs} {w : World}

theorem grO_root (h : (grO gp most grow rb).J F s w) {R : Nat} (v : Int × Int) :
    (grO gp most grow rb).J F { s with rs := s.rs.set R v } ((w.setCell ⟨rb, R * 2, none⟩ (.int .i64 v.1)).setCell ⟨rb, R * 2 + 1, none⟩ (.int .i64 v.2)) ∧ Tn F w F ((w.setCell ⟨rb, R * 2, none⟩ (.int .i64 v.1)).setCell ⟨rb, R * 2 + 1, none⟩ (.int .i64 v.2)) := by
  obtain ⟨l, h, rfl, hF⟩ := h
  have fr : Fr (fun k => k = l.rb) w ((w.setCell ⟨l.rb, R * 2, none⟩ (.int .i64 v.1)).setCell ⟨l.rb, R * 2 + 1, none⟩ (.int .i64 v.2)) := ((Fr.refl (fun k => k = l.rb) w).set l.rb _ _ rfl).set l.rb _ _ rfl
  have Frb : F l.rb := (hF _).2 (by rw [h.g4.ro]; decide)
  have hk : ∀ b, l.own b ≠ 0 → l.own b ≠ 4 → ((w.setCell ⟨l.rb, R * 2, none⟩ (.int .i64 v.1)).setCell ⟨l.rb, R * 2 + 1, none⟩ (.int .i64 v.2)).heap[b]? = w.heap[b]? := fun b h0 h4 => fr.block b (h.lt b h0) (fun e => h4 (by rw [e]; exact h.g4.ro))
  refine ⟨⟨l, ?_, rfl, hF⟩, fr.mono (fun b e => by rw [e]; exact Frb), fun b hb => Or.inl hb⟩
  refine { blk := (hk gp (by rw [h.bo]; decide) (by rw [h.bo]; decide)).trans h.blk, bo := h.bo, g2 := h.g2.keep (fun b hb => hk b (by omega) (by omega)), g3 := h.g3.keep (fun b hb => hk b (by omega) (by omega)), g4 := ⟨?_, ?_, h.g4.ro⟩, lt := fun b hb => Nat.lt_of_lt_of_le (h.lt b hb) fr.size }
  · show _ = some (Obj.cells (ev (s.rs.set R (v.1, v.2))).toArray _ _)
    rw [ev_set]
    simp only [World.setCell, Array.getElem?_modify, if_true, h.g4.rt, Option.map_some]
    simp
  · show (s.rs.set R v).length = 12
    rw [List.length_set]
    exact h.g4.rl
end

end Go.Proofs.Ytjhnhbeimjnloaa

/- A grove in memory: Do: a root is made anew: a contract. -/
namespace Go.Proofs.Ytjhnhbeimjnloaa
open Go.RowKit W Kp Stl

section
variable {gp rb : Nat} {most grow : Int} {F : Nat → Prop} {s : Wrs} {w : World}

theorem far2g {w : World} {b c o p q : Nat} {x v0 v1 : Value} (hn : b ≠ c) (h : w.cell? ⟨b, o, none⟩ = some x) : ((w.setCell ⟨c, p, none⟩ v0).setCell ⟨c, q, none⟩ v1).cell? ⟨b, o, none⟩ = some x := by
  rw [World.cell?_setCell_far _ _ _ _ (fun e => hn e.symm), World.cell?_setCell_far _ _ _ _ (fun e => hn e.symm)]
  exact h

set_option maxRecDepth 100000 in
set_option maxHeartbeats 4000000 in
theorem doG_root (h : (grO gp most grow rb).J F s w) (k : Int) (R : Nat) (hR : R < 12) (A B I n : Int) (hc : ckC k R A B n = 0) (k1 : k ≠ 9) (k2 : k ≠ 12) (k3 : k ≠ 15) (k4 : k ≠ 16) (v : Int × Int) (S2 : Wrs)
    (PR : ∀ w', Below w.heap.size w w' → Calls Try.prog 26 #[.pointer (some ⟨gp, 0, none⟩), hsV k R A B I n] w' fun e w'' => ∃ F2, e = .returned (.tuple #[.agg #[.int .i64 v.1, .int .i64 v.2], .int .i64 0]) ∧ (grO gp most grow rb).J F2 S2 w'' ∧ Tn F w' F2 w'') :
    Calls Try.prog 8 #[.pointer (some ⟨gp, 0, none⟩), hsV k R A B I n] w fun e w' => ∃ F', e = .returned (.int .i64 0) ∧ (grO gp most grow rb).J F' { S2 with rs := S2.rs.set R v } w' ∧ Tn F w F' w' := by
  obtain ⟨v0, v1⟩ := v
  dsimp only at PR
  have hb0 := (Below.refl w.heap.size w).alloc (Nat.le_refl _) (hsC k R A B I n)
  have hx0 := heap_alloc_new w (.cells #[.int .i64 k, .int .i64 (R : Int), .int .i64 A, .int .i64 B, .int .i64 I, .int .i64 n] 30)
  have PC := checkH_any k R A B I n (w.alloc (hsC k R A B I n))
  rw [hc] at PC
  have lF : ∀ b, F b → b < w.heap.size := fun b hb => (grO gp most grow rb).lt h b hb
  obtain ⟨_, _, Fg0, Fr0⟩ := grO_lk h
  have lr := lF _ Fr0
  have lg := lF _ Fg0
  have HE : Hid (∀ w1, Below (w.alloc (hsC k R A B I n)).heap.size (w.alloc (hsC k R A B I n)) w1 → w1.heap[w.heap.size]? = some (hsC k R A B I n) ∧ Calls Try.prog 26 #[.pointer (some ⟨gp, 0, none⟩), hsV k R A B I n] w1 fun e w2 => ∃ F2, e = .returned (.tuple #[.agg #[.int .i64 v0, .int .i64 v1], .int .i64 0]) ∧
      ((w2.alloc (.cells #[.int .i64 v0, .int .i64 v1] 41)).cell? ⟨gp, 6, none⟩ = some (.slice (some ⟨rb, 0, none⟩) 12 12) ∧ (w2.alloc (.cells #[.int .i64 v0, .int .i64 v1] 41)).cell? ⟨w.heap.size, 1, none⟩ = some (.int .i64 R) ∧ (w2.alloc (.cells #[.int .i64 v0, .int .i64 v1] 41)).cell? ⟨w2.heap.size, 0, none⟩ = some (.int .i64 v0) ∧ (w2.alloc (.cells #[.int .i64 v0, .int .i64 v1] 41)).cell? ⟨w2.heap.size, 1, none⟩ = some (.int .i64 v1)) ∧
      (∃ y0 y1, (w2.alloc (.cells #[.int .i64 v0, .int .i64 v1] 41)).cell? ⟨rb, R * 2, none⟩ = some (.int .i64 y0) ∧ (w2.alloc (.cells #[.int .i64 v0, .int .i64 v1] 41)).cell? ⟨rb, R * 2 + 1, none⟩ = some (.int .i64 y1)) ∧ (∀ o, (w2.alloc (.cells #[.int .i64 v0, .int .i64 v1] 41)).frozen? ⟨rb, o, none⟩ = false) ∧ w.heap.size < w2.heap.size ∧
      Hid ((grO gp most grow rb).J F2 S2 (w2.alloc (.cells #[.int .i64 v0, .int .i64 v1] 41)).drew ∧ Tn F w F2 (w2.alloc (.cells #[.int .i64 v0, .int .i64 v1] 41)).drew)) := fun w1 hb => by
    have hbt : Below w.heap.size w w1 := hb0.trans (hb.mono hb0.size)
    have hx1 := (hb.block _ (lt_of_some hx0)).trans hx0
    refine ⟨hx1, (PR w1 hbt).mono ?_⟩
    rintro e w2 ⟨F2, rfl, hj, tn⟩
    have ba : Below w2.heap.size w2 (w2.alloc (.cells #[.int .i64 v0, .int .i64 v1] 41)) := (Below.refl _ _).alloc (Nat.le_refl _) _
    have ja := (grO gp most grow rb).below hj ba
    obtain ⟨d6, rt, _, _⟩ := grO_lk ja
    have hx2 := (tn.fr.block w.heap.size (lt_of_some hx1) (fun d => by have := lF _ d; omega)).trans hx1
    obtain ⟨_, p1, _⟩ := hs_cells ((ba.block _ (lt_of_some hx2)).trans hx2)
    obtain ⟨z0, z1, _, _⟩ := two_cells (heap_alloc_new w2 (.cells #[.int .i64 v0, .int .i64 v1] 41))
    have fz : ∀ o, (w2.alloc (.cells #[.int .i64 v0, .int .i64 v1] 41)).frozen? ⟨rb, o, none⟩ = false := by
      obtain ⟨l, hl, rfl, _⟩ := ja
      intro o
      simp [World.frozen?, hl.g4.rt]
    exact ⟨F2, rfl, ⟨d6, p1, z0, z1⟩, ⟨_, _, (rt R hR).1, (rt R hR).2⟩, fz, lt_of_some hx2, (grO gp most grow rb).below ja (Below.refl _ _).drew, ((Tn.of hbt).trans tn).below ba.drew⟩
  have k1b : (k == 9) = false := by simpa using k1
  have k2b : (k == 12) = false := by simpa using k2
  have k3b : (k == 15) = false := by simpa using k3
  have k4b : (k == 16) = false := by simpa using k4
  have i0 : (0 : Int) ≤ (R : Int) := by omega
  have i1 : (R : Int) < 12 := by omega
  have nr : w.heap.size ≠ rb := by omega
  have HG : Hid (gp ≠ rb) := by
    obtain ⟨l, hl, rfl, _⟩ := h
    intro e
    have h1 := hl.bo
    rw [e, hl.g4.ro] at h1
    omega
  have ng := HG.out
  clear h hb0 hx0 hc PR lF Fg0 Fr0 HG
  go_enter Try.func8, Try.ntmps8
  go_wp2_with fail
  refine PC.mono ?_
  clear PC
  rintro e w1 ⟨rfl, hb1⟩
  obtain ⟨hx1, P⟩ := HE.out w1 hb1
  obtain ⟨q0, q1, q2, q3, q4, q5⟩ := hs_cells hx1
  clear hb1 hx1 HE
  go_wp2_with fail
  refine P.mono ?_
  clear P
  rintro e w2 ⟨F2, rfl, ⟨d1, d2, d3, d4⟩, ⟨y0, y1, t0_, t1_⟩, fz, lw, HJ⟩
  clear q0 q1 q2 q3 q4 q5
  have nn : w2.heap.size ≠ rb := by omega
  go_wp2_with fail
  go_region_held3 (fun w' => w'.cell? ⟨gp, 6, none⟩ = some (.slice (some ⟨rb, 0, none⟩) 12 12) ∧ w'.cell? ⟨w.heap.size, 1, none⟩ = some (.int .i64 R) ∧ w'.cell? ⟨w2.heap.size, 0, none⟩ = some (.int .i64 v0) ∧ w'.cell? ⟨w2.heap.size, 1, none⟩ = some (.int .i64 v1)) (first | exact ⟨d1, d2, d3, d4⟩ | exact ⟨far2g ng d1, far2g nr d2, far2g nn d3, far2g nn d4⟩ | (go_keep; done)) (fail)
  all_goals
    have HK : Hid (_ ∧ _) := grO_root HJ.out.1 (R := R) (v0, v1)
    clear d1 d2 d3 d4 t0_ t1_ fz
    go_wp2_with fail
    go_ret
    exact ⟨rfl, F2, HK.out.1, HJ.out.2.trans HK.out.2⟩
end

end Go.Proofs.Ytjhnhbeimjnloaa

/- A grove in memory: Do whole: a contract. -/
namespace Go.Proofs.Ytjhnhbeimjnloaa
open Go.RowKit W Kp Stl

theorem us_rt {k R A B n : Int} (hc : ckC k R A B n = 0) (k9 : k ≠ 9) (k12 : k ≠ 12) (k15 : k ≠ 15) (k16 : k ≠ 16) : usK k = 1 ∨ usK k = 3 ∨ usK k = 7 := by
  rcases kind_all k with d | d | d | d | d | d | d | d | d | d | d | d | d | d | d | d | d
  case' inr.inr.inr.inr.inr.inr.inr.inr.inr.inr.inr.inr.inr.inr.inr.inr =>
    have := usK_no d
    unfold ckC at hc
    rw [if_pos this] at hc
    omega
  all_goals
    first
      | (subst d; decide)
      | (exfalso; omega)
theorem regW_rs (s : Wrs) (t d : Int × Int) : (s.reg t d).2.rs = s.rs := by
  unfold Wrs.reg
  split
  · split <;> rfl
  · rfl
theorem setW_rs (s : Wrs) (v : Int × Int) (I : Int) (y : Int × Int) : (s.set v I y).2.rs = s.rs := by
  unfold Wrs.set
  dsimp only
  split <;> rfl
theorem Wcv.root {s : Wrs} (hv : Wcv s) (i : Nat) : (s.rs.getD i (0, 0)).1 = 3 → 0 ≤ (s.rs.getD i (0, 0)).2 ∧ Alv s.T (s.rs.getD i (0, 0)).2.toNat := fun h3 => by
  by_cases c : i < s.rs.length
  · exact hv.rv _ (getD_in c) h3
  · rw [List.getD_eq_getElem?_getD, List.getElem?_eq_none (by omega)] at h3
    cases h3

section
variable {gp rb : Nat} {most grow : Int} {F : Nat → Prop} {s : Wrs} {w : World} {g : Gfn}

theorem doG_any (h : (grO gp most grow rb).J F s w) (hv : Wcv s) (hG : Gok s.T s.wt (g s.T s.wt)) (g0 : -1000000 ≤ grow) (g1 : grow ≤ 1000000) (m0 : -1000000 ≤ most) (m1 : most ≤ 1000000) (k R A B I n : Int) :
    Calls Try.prog 8 #[.pointer (some ⟨gp, 0, none⟩), hsV k R A B I n] w fun e w' => ∃ F', e = .returned (.int .i64 (s.dos g most grow k R A B I n).1) ∧ (grO gp most grow rb).J F' (s.dos g most grow k R A B I n).2 w' ∧ Tn F w F' w' := by
  have h12 := hv.iv.tl
  have tl := hv.tl
  have gl := hv.gl
  have wl := hv.wl
  unfold Wrs.dos
  by_cases hc : ckC k R A B n = 0
  · rw [if_pos hc]
    by_cases e9 : k = 9
    · rw [if_pos e9]
      subst e9
      have h1 := ck_A hc (by decide)
      have h2 := ck_B hc (by decide)
      obtain ⟨A, rfl⟩ := Int.eq_ofNat_of_zero_le h1.1
      obtain ⟨B, rfl⟩ := Int.eq_ofNat_of_zero_le h2.1
      rw [Int.toNat_natCast, Int.toNat_natCast]
      exact doG_reg h R I n A B (by omega) (by omega) hc _ _ (regW_rs _ _ _) (fun w' hb => registerG_any ((grO gp most grow rb).below h hb) _ _ (hv.root A) (hv.root B) tl (by omega) (by omega))
    rw [if_neg e9]
    by_cases e12 : k = 12
    · rw [if_pos e12]
      subst e12
      have h1 := ck_A hc (by decide)
      have h2 := ck_B hc (by decide)
      obtain ⟨A, rfl⟩ := Int.eq_ofNat_of_zero_le h1.1
      obtain ⟨B, rfl⟩ := Int.eq_ofNat_of_zero_le h2.1
      rw [Int.toNat_natCast, Int.toNat_natCast]
      exact doG_set h R I n A B (by omega) (by omega) hc _ _ (setW_rs _ _ _ _) (fun w' hb => setG_any ((grO gp most grow rb).below h hb) _ _ I (hv.root A) tl h12)
    rw [if_neg e12]
    by_cases e15 : k = 15
    · rw [if_pos e15]
      exact doG_cut k R A B I n (Or.inl e15) hc _ _ (fun _ w' hb => smallG_any ((grO gp most grow rb).below h hb) hv hG g0 g1) (fun e => by omega)
    rw [if_neg e15]
    by_cases e16 : k = 16
    · rw [if_pos e16]
      exact doG_cut k R A B I n (Or.inr e16) hc _ _ (fun e => by omega) (fun _ w' hb => greatG_any ((grO gp most grow rb).below h hb) hv hG)
    rw [if_neg e16]
    have hR := ck_R hc (us_rt hc e9 e12 e15 e16)
    obtain ⟨R, rfl⟩ := Int.eq_ofNat_of_zero_le hR.1
    rw [Int.toNat_natCast]
    have PR : ∀ w', Below w.heap.size w w' → Calls Try.prog 26 #[.pointer (some ⟨gp, 0, none⟩), hsV k R A B I n] w' fun e w'' => ∃ F2, e = .returned (.tuple #[.agg #[.int .i64 (s.rt g most grow k A.toNat B.toNat I n).1.1, .int .i64 (s.rt g most grow k A.toNat B.toNat I n).1.2], .int .i64 (s.rt g most grow k A.toNat B.toNat I n).2.1]) ∧ (grO gp most grow rb).J F2 (s.rt g most grow k A.toNat B.toNat I n).2.2 w'' ∧ Tn F w' F2 w'' := fun w' hb => rootG_any ((grO gp most grow rb).below h hb) hv hG g0 g1 m0 m1 k R A B I n hc e9 e12 e15 e16
    generalize s.rt g most grow k A.toNat B.toNat I n = t at *
    obtain ⟨v, cd, S2⟩ := t
    dsimp only at *
    by_cases c : cd = 0
    · rw [if_pos c]
      subst c
      exact doG_root h k R (by omega) A B I n hc e9 e12 e15 e16 v S2 PR
    · rw [if_neg c]
      exact doG_code k R A B I n hc e9 e12 e15 e16 v cd c S2 PR
  · rw [if_neg hc]
    refine (doG_bad (gp := gp) (w := w) k R A B I n hc).mono ?_
    rintro e w' ⟨rfl, hb⟩
    exact ⟨F, rfl, (grO gp most grow rb).below h hb, Tn.of hb⟩
end

end Go.Proofs.Ytjhnhbeimjnloaa

/- A wood: New: a contract. -/
namespace Go.Proofs.Ytjhnhbeimjnloaa
open Go.RowKit W

set_option maxRecDepth 100000 in
set_option maxHeartbeats 1000000 in
theorem newW_yes (n o : Nat) (w : World) (h0 : 16 ≤ n) (h1 : n ≤ 256) (h3 : o ≤ 1024) :
    Calls Try.prog 34 #[.int .i64 n, .int .i64 o] w fun e w' => ∃ pw p q pc pq s nb, e = .returned (.tuple #[.pointer (some ⟨pw, 0, none⟩), .agg #[.int .i64 0, .int .i64 0]]) ∧ Wod w' pw p q pc pq n o 0 0 (List.replicate (n + o) 0) (nC o) [] (.pointer (some ⟨s, 0, none⟩)) (.slice (some ⟨nb, 0, none⟩) 12 12) ∧ w'.heap[s]? = some (.cells #[.slice none 0 0, .slice none 0 0] 63 (0, 0)) ∧ w'.heap[nb]? = some (.cells ((tw 2 12).map (Value.int .i64)).toArray 2 (0, 0)) ∧
      (w.heap.size ≤ pw ∧ w.heap.size ≤ p ∧ w.heap.size ≤ q ∧ w.heap.size ≤ pc ∧ w.heap.size ≤ pq ∧ w.heap.size ≤ s ∧ w.heap.size ≤ nb) ∧ Below w.heap.size w w' := by
  have hba := (Below.refl w.heap.size w).alloc (Nat.le_refl _) (.cells #[.int .i64 0, .int .i64 0] 26)
  have hr0 := heap_alloc_new w (.cells #[.int .i64 0, .int .i64 0] 26)
  have P := new_yes n o (w.alloc (.cells #[.int .i64 0, .int .i64 0] 26)) (by omega) (by omega) (by omega) (by omega)
  simp only [Int.toNat_natCast] at P
  go_enter Try.func34, Try.ntmps34
  go_wp2_with fail
  refine P.mono ?_
  clear P
  rintro e w1 ⟨p, q, rfl, hA1, hp, hq, hb1⟩
  have hr1 := (hb1.block w.heap.size (by simp)).trans hr0
  have hB1 := hba.trans (hb1.mono (by simp))
  simp at hp hq
  have hs1 := hb1.size
  simp at hs1
  have hA2 := hA1.alloc (.cells #[.int .i64 0, .int .i64 0] 26)
  have hba2 := (Below.refl w1.heap.size w1).alloc (Nat.le_refl _) (.cells #[.int .i64 0, .int .i64 0] 26)
  have hB2 := hB1.trans (hba2.mono (by omega))
  clear hb1 hr0 hba
  go_wp2_with fail
  refine (bounds_any _ hA2).mono ?_
  rintro e w3 ⟨rfl, hb3⟩
  have hA3 := hA2.below hb3 (Nat.le_refl _)
  have hB3 := hB2.trans (hb3.mono (by simp; omega))
  have hs3 := hb3.size
  simp at hs3
  have hr3 := ((hb3.block w.heap.size (by simp; omega)).trans (hba2.block w.heap.size (by omega))).trans hr1
  clear hA1 hA2 hb3 hba2 hr1
  go_wp2_with fail
  refine (newC_any n o w3 (by omega)).mono ?_
  rintro e w4 ⟨pc, pq, rfl, hC4, hpc, hpq, hb4⟩
  have hA4 := hA3.below hb4 (Nat.le_refl _)
  have hB4 := hB3.trans (hb4.mono (by omega))
  have hs4 := hb4.size
  have hr4 := (hb4.block w.heap.size (by omega)).trans hr3
  clear hA3 hb4 hr3
  go_wp2_with fail
  have hba5 := (Below.refl w4.heap.size w4).alloc (Nat.le_refl _) (.cells #[.slice none 0 0, .slice none 0 0] 63)
  have hsd5 := heap_alloc_new w4 (.cells #[.slice none 0 0, .slice none 0 0] 63)
  refine (nil_any _).mono ?_
  rintro e w5 ⟨rfl, hw⟩
  have sz5 : w5.heap.size = w4.heap.size + 1 := by rw [hw]; simp
  rw [← hw] at hba5 hsd5
  clear hw
  have hA5 := hA4.below hba5 (Nat.le_refl _)
  have hC5 := hC4.below hba5 (Nat.le_refl _)
  have hB5 := hB4.trans (hba5.mono (by omega))
  have hr5 := (hba5.block w.heap.size (by omega)).trans hr4
  clear hA4 hC4 hr4 hba5
  go_wp2_with fail
  have hba6 := (Below.refl w5.heap.size w5).alloc (Nat.le_refl _) (.cells #[.int .i64 2] 2)
  refine (repeat12_any _ (w4.heap.size + 1) 2 (by rw [← sz5]; simp)).mono ?_
  rintro e w6 ⟨nb, rfl, hnb, hrow, hb6⟩
  have hb56 := hba6.trans (hb6.mono (by simp))
  have hA6 := hA5.below hb56 (Nat.le_refl _)
  have hC6 := hC5.below hb56 (Nat.le_refl _)
  have hB6 := hB5.trans (hb56.mono (by omega))
  have hr6 := (hb56.block w.heap.size (by omega)).trans hr5
  have hsd6 := (hb56.block w4.heap.size (by omega)).trans hsd5
  have hs6 := hb56.size
  have hnb' : w.heap.size < nb := by simp at hnb; omega
  have hnl := lt_of_some hrow
  have y0 : w6.cell? ⟨w.heap.size, 0, none⟩ = some (.int .i64 0) := by simp [World.cell?, hr6]
  have y1 : w6.cell? ⟨w.heap.size, 1, none⟩ = some (.int .i64 0) := by simp [World.cell?, hr6]
  have f0 : w6.frozen? ⟨w.heap.size, 0, none⟩ = false := by simp [World.frozen?, hr6]
  have f1 : w6.frozen? ⟨w.heap.size, 1, none⟩ = false := by simp [World.frozen?, hr6]
  have l6 : w.heap.size < w6.heap.size := by omega
  clear hA5 hC5 hr5 hsd5 hb6 hb56 hba6 hnb
  go_wp2_with fail
  obtain ⟨W0, hW0⟩ : ∃ W0, W0 = (w6.setCell ⟨w.heap.size, 0, none⟩ (.int .i64 0)).setCell ⟨w.heap.size, 1, none⟩ (.int .i64 0) := ⟨_, rfl⟩
  rw [← hW0]
  have sz0 : W0.heap.size = w6.heap.size := by rw [hW0]; simp [World.setCell]
  have k0 : ∀ k, k ≠ w.heap.size → W0.heap[k]? = w6.heap[k]? := fun k hk => by rw [hW0]; exact (Below.heap_setCell _ _ _ _ hk).trans (Below.heap_setCell _ _ _ _ hk)
  have g0 : W0.cell? ⟨w.heap.size, 0, none⟩ = some (.int .i64 0) := by
    rw [hW0, World.cell?_setCell_other _ _ _ _ (by simp)]
    exact World.cell?_setCell_same _ _ _ y0
  have g1 : W0.cell? ⟨w.heap.size, 1, none⟩ = some (.int .i64 0) := by
    rw [hW0]
    exact World.cell?_setCell_same _ _ _ ((World.cell?_setCell_other w6 ⟨w.heap.size, 0, none⟩ ⟨w.heap.size, 1, none⟩ _ (by simp)).trans y1)
  have hF0 : Below w.heap.size w W0 := by
    rw [hW0]
    exact hB6.trans ((((Fr.refl (fun k => k = w.heap.size) w6).set w.heap.size 0 _ rfl).set w.heap.size 1 _ rfl).below (Nat.le_of_lt l6) (fun x e => by have e : x = w.heap.size := e; omega))
  have hn0 := heap_alloc_new W0 (.cells #[.pointer (some ⟨p, 0, none⟩), .pointer (some ⟨pc, 0, none⟩), .pointer (some ⟨w4.heap.size, 0, none⟩), .slice (some ⟨nb, 0, none⟩) 12 12] 113)
  rw [sz0] at hn0
  have hbN := (Below.refl W0.heap.size W0).alloc (Nat.le_refl _) (.cells #[.pointer (some ⟨p, 0, none⟩), .pointer (some ⟨pc, 0, none⟩), .pointer (some ⟨w4.heap.size, 0, none⟩), .slice (some ⟨nb, 0, none⟩) 12 12] 113)
  have hA7 := (hA6.same (w' := W0) (k0 p (by omega)) (k0 q (by omega))).below hbN (Nat.le_refl _)
  have hC7 := (hC6.same (w' := W0) (k0 pc (by omega)) (k0 pq (by omega))).below hbN (Nat.le_refl _)
  have hsd7 := ((hbN.block w4.heap.size (by omega)).trans (k0 _ (by omega))).trans hsd6
  have hrow7 := ((hbN.block nb (by omega)).trans (k0 _ (by omega))).trans hrow
  have r0 := (hbN.cell (p := ⟨w.heap.size, 0, none⟩) (by show w.heap.size < _; omega)).trans g0
  have r1 := (hbN.cell (p := ⟨w.heap.size, 1, none⟩) (by show w.heap.size < _; omega)).trans g1
  have hfin := hF0.trans (hbN.mono (by omega))
  clear y0 y1 f0 f1 hW0
  generalize W0.alloc (.cells #[.pointer (some ⟨p, 0, none⟩), .pointer (some ⟨pc, 0, none⟩), .pointer (some ⟨w4.heap.size, 0, none⟩), .slice (some ⟨nb, 0, none⟩) 12 12] 113) = WF at *
  refine bodyPost_ret (v := .tuple #[.pointer (some ⟨w6.heap.size, 0, none⟩), .agg #[.int .i64 0, .int .i64 0]]) (by simp [results, Try.results34, go_sem, r0, r1]) rfl ⟨w6.heap.size, p, q, pc, pq, w4.heap.size, nb, rfl, ⟨hn0, hA7, hC7⟩, hsd7, hrow7, ⟨by omega, by omega, by omega, by omega, by omega, by omega, by omega⟩, hfin⟩

end Go.Proofs.Ytjhnhbeimjnloaa

/- A wood: New that is refused: a contract. -/
namespace Go.Proofs.Ytjhnhbeimjnloaa
open Go.RowKit W

set_option maxRecDepth 100000 in
set_option maxHeartbeats 1000000 in
theorem newW_no (n o : Int) (w : World) (h : n < 16 ∨ 256 < n ∨ o < 0 ∨ 1024 < o) :
    Calls Try.prog 34 #[.int .i64 n, .int .i64 o] w fun e w' => e = .returned (.tuple #[.pointer none, .agg #[.int .i64 1, .int .i64 (-1)]]) ∧ Below w.heap.size w w' := by
  have hba := (Below.refl w.heap.size w).alloc (Nat.le_refl _) (.cells #[.int .i64 0, .int .i64 0] 26)
  have hr0 := heap_alloc_new w (.cells #[.int .i64 0, .int .i64 0] 26)
  have P := new_no n o (w.alloc (.cells #[.int .i64 0, .int .i64 0] 26)) h
  clear h
  go_enter Try.func34, Try.ntmps34
  go_wp2_with fail
  refine P.mono ?_
  clear P
  rintro e w1 ⟨rfl, hb1⟩
  have hr1 := (hb1.block w.heap.size (by simp)).trans hr0
  have hB1 := hba.trans (hb1.mono (by simp))
  have hs1 := hb1.size
  simp at hs1
  have y0 : w1.cell? ⟨w.heap.size, 0, none⟩ = some (.int .i64 0) := by simp [World.cell?, hr1]
  have y1 : w1.cell? ⟨w.heap.size, 1, none⟩ = some (.int .i64 0) := by simp [World.cell?, hr1]
  have f0 : w1.frozen? ⟨w.heap.size, 0, none⟩ = false := by simp [World.frozen?, hr1]
  have f1 : w1.frozen? ⟨w.heap.size, 1, none⟩ = false := by simp [World.frozen?, hr1]
  have l1 : w.heap.size < w1.heap.size := by omega
  have hne : ¬ w.heap.size = w1.heap.size := by omega
  have hne2 : ¬ w1.heap.size = w.heap.size := by omega
  clear hb1 hr0 hba hr1
  go_wp2_with fail
  go_region_law (fail)
  all_goals
    obtain ⟨W0, hW0⟩ : ∃ W0, W0 = (w1.setCell ⟨w.heap.size, 0, none⟩ (.int .i64 1)).setCell ⟨w.heap.size, 1, none⟩ (.int .i64 (-1)) := ⟨_, rfl⟩
    rw [← hW0]
    have sz0 : W0.heap.size = w1.heap.size := by rw [hW0]; simp [World.setCell]
    have g0 : W0.cell? ⟨w.heap.size, 0, none⟩ = some (.int .i64 1) := by
      rw [hW0, World.cell?_setCell_other _ _ _ _ (by simp)]
      exact World.cell?_setCell_same _ _ _ y0
    have g1 : W0.cell? ⟨w.heap.size, 1, none⟩ = some (.int .i64 (-1)) := by
      rw [hW0]
      exact World.cell?_setCell_same _ _ _ ((World.cell?_setCell_other w1 ⟨w.heap.size, 0, none⟩ ⟨w.heap.size, 1, none⟩ _ (by simp)).trans y1)
    have hF0 : Below w.heap.size w W0 := by
      rw [hW0]
      exact hB1.trans ((((Fr.refl (fun k => k = w.heap.size) w1).set w.heap.size 0 _ rfl).set w.heap.size 1 _ rfl).below (Nat.le_of_lt l1) (fun x e => by have e : x = w.heap.size := e; omega))
    have hbN := ((Below.refl W0.heap.size W0).alloc (Nat.le_refl _) (.cells #[.int .i64 1, .int .i64 (-1)] 26)).drew
    have r0 := (hbN.cell (p := ⟨w.heap.size, 0, none⟩) (by show w.heap.size < _; omega)).trans g0
    have r1 := (hbN.cell (p := ⟨w.heap.size, 1, none⟩) (by show w.heap.size < _; omega)).trans g1
    have hfin := hF0.trans (hbN.mono (by omega))
    clear y0 y1 f0 f1 hW0 hbN g0 g1
    generalize (W0.alloc (.cells #[.int .i64 1, .int .i64 (-1)] 26)).drew = WF at *
    go_wp2_with fail
    refine bodyPost_ret (v := .tuple #[.pointer none, .agg #[.int .i64 1, .int .i64 (-1)]]) (by simp [results, Try.results34, go_sem, r0, r1]) rfl ⟨rfl, hfin⟩

end Go.Proofs.Ytjhnhbeimjnloaa

/- A heap: New: contracts of what it tells. -/
namespace Go.Proofs.Ytjhnhbeimjnloaa
open Go.RowKit W Kp Stl

set_option maxRecDepth 100000 in
set_option maxHeartbeats 1000000 in
theorem newH_no (n o : Int) (w : World) (h : n < 16 ∨ 256 < n ∨ o < 0 ∨ 1024 < o) :
    Calls Try.prog 19 #[.int .i64 n, .int .i64 o] w fun e w' => e = .returned (.tuple #[.pointer none, .agg #[.int .i64 1, .int .i64 (-1)]]) ∧ Below w.heap.size w w' := by
  have hba := (Below.refl w.heap.size w).alloc (Nat.le_refl _) (.cells #[.int .i64 0, .int .i64 0] 26)
  have hr0 := heap_alloc_new w (.cells #[.int .i64 0, .int .i64 0] 26)
  have P := newW_no n o (w.alloc (.cells #[.int .i64 0, .int .i64 0] 26)) h
  clear h
  go_enter Try.func19, Try.ntmps19
  go_wp2_with fail
  refine P.mono ?_
  clear P
  rintro e w1 ⟨rfl, hb1⟩
  have hr1 := (hb1.block w.heap.size (by simp)).trans hr0
  have hB1 := hba.trans (hb1.mono (by simp))
  have hs1 := hb1.size
  simp at hs1
  have y0 : w1.cell? ⟨w.heap.size, 0, none⟩ = some (.int .i64 0) := by simp [World.cell?, hr1]
  have y1 : w1.cell? ⟨w.heap.size, 1, none⟩ = some (.int .i64 0) := by simp [World.cell?, hr1]
  have f0 : w1.frozen? ⟨w.heap.size, 0, none⟩ = false := by simp [World.frozen?, hr1]
  have f1 : w1.frozen? ⟨w.heap.size, 1, none⟩ = false := by simp [World.frozen?, hr1]
  have l1 : w.heap.size < w1.heap.size := by omega
  have hne : ¬ w.heap.size = w1.heap.size := by omega
  have hne2 : ¬ w1.heap.size = w.heap.size := by omega
  clear hb1 hr0 hba hr1
  go_wp2_with fail
  go_region_law (fail)
  all_goals
    obtain ⟨W0, hW0⟩ : ∃ W0, W0 = (w1.setCell ⟨w.heap.size, 0, none⟩ (.int .i64 1)).setCell ⟨w.heap.size, 1, none⟩ (.int .i64 (-1)) := ⟨_, rfl⟩
    rw [← hW0]
    have sz0 : W0.heap.size = w1.heap.size := by rw [hW0]; simp [World.setCell]
    have g0 : W0.cell? ⟨w.heap.size, 0, none⟩ = some (.int .i64 1) := by
      rw [hW0, World.cell?_setCell_other _ _ _ _ (by simp)]
      exact World.cell?_setCell_same _ _ _ y0
    have g1 : W0.cell? ⟨w.heap.size, 1, none⟩ = some (.int .i64 (-1)) := by
      rw [hW0]
      exact World.cell?_setCell_same _ _ _ ((World.cell?_setCell_other w1 ⟨w.heap.size, 0, none⟩ ⟨w.heap.size, 1, none⟩ _ (by simp)).trans y1)
    have hF0 : Below w.heap.size w W0 := by
      rw [hW0]
      exact hB1.trans ((((Fr.refl (fun k => k = w.heap.size) w1).set w.heap.size 0 _ rfl).set w.heap.size 1 _ rfl).below (Nat.le_of_lt l1) (fun x e => by have e : x = w.heap.size := e; omega))
    have hbN := ((Below.refl W0.heap.size W0).alloc (Nat.le_refl _) (.cells #[.int .i64 1, .int .i64 (-1)] 26)).drew
    have r0 := (hbN.cell (p := ⟨w.heap.size, 0, none⟩) (by show w.heap.size < _; omega)).trans g0
    have r1 := (hbN.cell (p := ⟨w.heap.size, 1, none⟩) (by show w.heap.size < _; omega)).trans g1
    have hfin := hF0.trans (hbN.mono (by omega))
    clear y0 y1 f0 f1 hW0 hbN g0 g1
    generalize (W0.alloc (.cells #[.int .i64 1, .int .i64 (-1)] 26)).drew = WF at *
    go_wp2_with fail
    refine bodyPost_ret (v := .tuple #[.pointer none, .agg #[.int .i64 1, .int .i64 (-1)]]) (by simp [results, Try.results19, go_sem, r0, r1]) rfl ⟨rfl, hfin⟩

set_option maxRecDepth 100000 in
set_option maxHeartbeats 2000000 in
theorem newHs_yes (n o : Nat) (w : World) (h0 : 16 ≤ n) (h1 : n ≤ 256) (h3 : o ≤ 1024) :
    Calls Try.prog 19 #[.int .i64 n, .int .i64 o] w fun e w' => ∃ hp, e = .returned (.tuple #[.pointer (some ⟨hp, 0, none⟩), .agg #[.int .i64 0, .int .i64 0]]) ∧ Below w.heap.size w w' := by
  have hba0 := (Below.refl w.heap.size w).alloc (Nat.le_refl _) (.cells #[.int .i64 0, .int .i64 0] 26)
  have P := newW_yes n o (w.alloc (.cells #[.int .i64 0, .int .i64 0] 26)) h0 h1 h3
  have hf0 := heap_alloc_new w (.cells #[.int .i64 0, .int .i64 0] 26)
  have lf0 : w.heap.size < (w.alloc (.cells #[.int .i64 0, .int .i64 0] 26)).heap.size := by simp
  have HB0 : Hid (Below w.heap.size w (w.alloc (.cells #[.int .i64 0, .int .i64 0] 26))) := hba0
  clear hba0
  go_enter Try.func19, Try.ntmps19
  go_wp2_with fail
  generalize w.alloc (.cells #[.int .i64 0, .int .i64 0] 26) = w0 at *
  generalize hfb : w.heap.size = fb at *
  refine P.mono ?_
  clear P
  rintro e w1 ⟨pw, p, q, pc, pq, s, nb, rfl, hW, hs, hr, hg, hb1⟩
  have hfw := (hb1.block fb lf0).trans hf0
  have y0 : w1.cell? ⟨fb, 0, none⟩ = some (.int .i64 0) := by simp [World.cell?, hfw]
  have y1 : w1.cell? ⟨fb, 1, none⟩ = some (.int .i64 0) := by simp [World.cell?, hfw]
  have z0 : w1.frozen? ⟨fb, 0, none⟩ = false := by simp [World.frozen?, hfw]
  have z1 : w1.frozen? ⟨fb, 1, none⟩ = false := by simp [World.frozen?, hfw]
  have lw1 : fb < w1.heap.size := lt_of_some hfw
  have HJ : Hid (Below fb w w1) := HB0.out.trans (hb1.mono (by omega))
  clear hW hs hr hg hb1 hf0 HB0 hfw
  go_wp2_with fail
  obtain ⟨W1, hW1⟩ : ∃ W1, W1 = (w1.setCell ⟨fb, 0, none⟩ (.int .i64 0)).setCell ⟨fb, 1, none⟩ (.int .i64 0) := ⟨_, rfl⟩
  rw [← hW1]
  have v0 : W1.cell? ⟨fb, 0, none⟩ = some (.int .i64 0) := by
    rw [hW1, World.cell?_setCell_other _ _ _ _ (by simp)]
    exact World.cell?_setCell_same _ _ _ y0
  have v1 : W1.cell? ⟨fb, 1, none⟩ = some (.int .i64 0) := by
    rw [hW1]
    exact World.cell?_setCell_same _ _ _ ((World.cell?_setCell_other w1 ⟨fb, 0, none⟩ ⟨fb, 1, none⟩ _ (by simp)).trans y1)
  have hF : Fr (fun k => k = fb) w1 W1 := by rw [hW1]; exact ((Fr.refl (fun k => k = fb) w1).set fb 0 _ rfl).set fb 1 _ rfl
  have hsz : W1.heap.size = w1.heap.size := by rw [hW1]; simp
  clear hW1
  have hba := ((Below.refl W1.heap.size W1).alloc (Nat.le_refl _) (.cells #[.int .i64 0, .int .i64 0] 26)).alloc (by simp) (.cells #[.pointer (some ⟨pw, 0, none⟩)] 88)
  have g0 := (hba.cell (p := ⟨fb, 0, none⟩) (by show fb < _; omega)).trans v0
  have g1 := (hba.cell (p := ⟨fb, 1, none⟩) (by show fb < _; omega)).trans v1
  have hbW : Below fb w W1 := HJ.out.trans (hF.below (Nat.le_of_lt lw1) (fun k e => Nat.le_of_eq (Eq.symm e)))
  exact bodyPost_ret (v := .tuple #[.pointer (some ⟨w1.heap.size + 1, 0, none⟩), .agg #[.int .i64 0, .int .i64 0]]) (by simp only [results, Try.results19]; simp [go_sem, g0, g1]) rfl ⟨w1.heap.size + 1, rfl, by rw [hfb]; exact hbW.trans (hba.mono (by omega))⟩

end Go.Proofs.Ytjhnhbeimjnloaa
