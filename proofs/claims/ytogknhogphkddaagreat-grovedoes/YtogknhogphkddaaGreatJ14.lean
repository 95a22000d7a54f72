/- Joined: Wdp, Hsv, Wq1, Wq6, Wr5. -/
import Derived.Test.YtogknhogphkddaaGreatJ10
import Derived.Test.YtogknhogphkddaaGreatJ04
import Derived.Test.YtogknhogphkddaaGreatHc3
import Derived.Test.YtogknhogphkddaaGreatGr7
import Derived.Test.YtogknhogphkddaaGreatJ03
/- Steps of the document's world, of lists: what a step leaves, what it tells. -/
namespace Go.Proofs.YtogknhogphkddaaGreat
open Go.RowKit W Kp Stl

abbrev Gfn := List Tw1 → List En → List Bool → List Bool
def gdb (T : List Tw1) (v : Int × Int) : Bool := v.1 == 3 && (T.getD v.2.toNat t0).1 == 5
def fdb (T : List Tw1) (v : Int × Int) : Bool := v.1 == 3 && !((T.getD v.2.toNat t0).1 == 5)
theorem gdb_iff {T : List Tw1} {v : Int × Int} : gdb T v = true ↔ v.1 = 3 ∧ (T.getD v.2.toNat t0).1 = 5 := by
  unfold gdb
  generalize (T.getD v.2.toNat t0).1 = k
  simp
theorem fdb_iff {T : List Tw1} {v : Int × Int} : fdb T v = true ↔ v.1 = 3 ∧ (T.getD v.2.toNat t0).1 ≠ 5 := by
  unfold fdb
  generalize (T.getD v.2.toNat t0).1 = k
  simp
abbrev stf (T : List Tw1) (j i : Nat) (y : Int × Int) : List Tw1 := T.set j ((T.getD j t0).1, (T.getD j t0).2.1.set i y, (T.getD j t0).2.2)
def Wrs.room (g : Gfn) (most grow : Int) (s : Wrs) (m : Int) : Int × Wrs :=
  if m ≤ most - (usd s.T).1 then (0, s) else (s.ccd (g s.T s.wt) grow (decide (grow - (usd s.T).2 < (usd s.T).1)), s.cut (g s.T s.wt) grow (decide (grow - (usd s.T).2 < (usd s.T).1)))
def Wrs.put (s : Wrs) (kd : Int) (l : List (Int × Int)) : Wrs := { s with T := s.T ++ [(kd, l, false, false)] }
def Wrs.grow (g : Gfn) (most grow : Int) (s : Wrs) (kd : Int) (l : List (Int × Int)) : (Int × Int) × Int × Wrs :=
  if (s.room g most grow (1 + l.length)).1 = 0 then ((3, ((s.room g most grow (1 + l.length)).2.T.length : Int)), 0, (s.room g most grow (1 + l.length)).2.put kd l)
  else ((0, 0), (s.room g most grow (1 + l.length)).1, (s.room g most grow (1 + l.length)).2)
def Wrs.pop (s : Wrs) (v : Int × Int) : (Int × Int) × Int × Wrs :=
  if gdb s.T v = true then (if pqI v.2 s.wt < s.wt.length then ((3, (s.wt.getD (pqI v.2 s.wt) (0, 0)).2), 0, { s with wt := s.wt.take (pqI v.2 s.wt) ++ s.wt.drop (pqI v.2 s.wt + 1) }) else ((0, 0), 4, s)) else ((0, 0), 2, s)
def Wrs.fc (s : Wrs) (v : Int × Int) (I : Int) : Int := if fdb s.T v = true then (if I < 0 ∨ ((s.T.getD v.2.toNat t0).2.1.length : Int) ≤ I then 1 else 0) else 2
def Wrs.rt (g : Gfn) (most grow : Int) (s : Wrs) (k : Int) (A B : Nat) (I n : Int) : (Int × Int) × Int × Wrs :=
  if k = 1 then ((1, n), 0, s) else if k = 3 then (s.rs.getD A (0, 0), 0, s) else if k = 4 then s.grow g most grow 1 [s.rs.getD A (0, 0), s.rs.getD B (0, 0)] else if k = 5 then s.grow g most grow 2 (List.replicate n.toNat (s.rs.getD A (0, 0)))
  else if k = 6 then s.grow g most grow 3 [s.rs.getD A (0, 0), s.rs.getD B (0, 0)] else if k = 7 then s.grow g most grow 4 [s.rs.getD A (0, 0), s.rs.getD B (0, 0)] else if k = 8 then s.grow g most grow 5 [] else if k = 10 then s.pop (s.rs.getD A (0, 0))
  else if k = 11 then ((if s.fc (s.rs.getD A (0, 0)) I = 0 then (s.T.getD (s.rs.getD A (0, 0)).2.toNat t0).2.1.getD I.toNat (0, 0) else (0, 0)), s.fc (s.rs.getD A (0, 0)) I, s)
  else if k = 13 then (if fdb s.T (s.rs.getD A (0, 0)) = true then ((1, ((s.T.getD (s.rs.getD A (0, 0)).2.toNat t0).2.1.length : Int)), 0, s) else ((0, 0), 2, s))
  else if k = 14 then ((1, if s.rs.getD A (0, 0) = s.rs.getD B (0, 0) then 1 else 0), 0, s) else ((0, 0), 0, s)
def Wrs.reg (s : Wrs) (t d : Int × Int) : Int × Wrs :=
  if t.1 = 3 ∧ gdb s.T d = true then (if 24 ≤ s.rg.length + s.wt.length then (3, s) else (0, { s with rg := s.rg ++ [(d.2, t.2)] })) else (2, s)
def Wrs.set (s : Wrs) (v : Int × Int) (I : Int) (y : Int × Int) : Int × Wrs := (s.fc v I, if s.fc v I = 0 then { s with T := stf s.T v.2.toNat I.toNat y } else s)
def Wrs.dos (g : Gfn) (most grow : Int) (s : Wrs) (k R A B I n : Int) : Int × Wrs :=
  if ckC k R A B n = 0 then (if k = 9 then s.reg (s.rs.getD A.toNat (0, 0)) (s.rs.getD B.toNat (0, 0)) else if k = 12 then s.set (s.rs.getD A.toNat (0, 0)) I (s.rs.getD B.toNat (0, 0))
    else if k = 15 then (s.ccd (g s.T s.wt) grow false, s.cut (g s.T s.wt) grow false) else if k = 16 then (s.ccd (g s.T s.wt) grow true, s.cut (g s.T s.wt) grow true)
    else if (s.rt g most grow k A.toNat B.toNat I n).2.1 = 0 then (0, { (s.rt g most grow k A.toNat B.toNat I n).2.2 with rs := (s.rt g most grow k A.toNat B.toNat I n).2.2.rs.set R.toNat (s.rt g most grow k A.toNat B.toNat I n).1 })
    else ((s.rt g most grow k A.toNat B.toNat I n).2.1, (s.rt g most grow k A.toNat B.toNat I n).2.2))
  else (ckC k R A B n, s)

end Go.Proofs.YtogknhogphkddaaGreat

/- A step in memory; what Check lets pass. -/
namespace Go.Proofs.YtogknhogphkddaaGreat
open Go.RowKit W Kp Stl

abbrev hsV (k R A B I n : Int) : Value := .agg #[.int .i64 k, .int .i64 R, .int .i64 A, .int .i64 B, .int .i64 I, .int .i64 n]
abbrev hsC (k R A B I n : Int) : Obj := .cells #[.int .i64 k, .int .i64 R, .int .i64 A, .int .i64 B, .int .i64 I, .int .i64 n] 34 (0, 0)
theorem hs_cells {w : World} {xb : Nat} {k R A B I n : Int} (h : w.heap[xb]? = some (hsC k R A B I n)) : w.cell? ⟨xb, 0, none⟩ = some (.int .i64 k) ∧ w.cell? ⟨xb, 1, none⟩ = some (.int .i64 R) ∧ w.cell? ⟨xb, 2, none⟩ = some (.int .i64 A) ∧ w.cell? ⟨xb, 3, none⟩ = some (.int .i64 B) ∧ w.cell? ⟨xb, 4, none⟩ = some (.int .i64 I) ∧ w.cell? ⟨xb, 5, none⟩ = some (.int .i64 n) := by
  refine ⟨?_, ?_, ?_, ?_, ?_, ?_⟩ <;> simp [World.cell?, h]
theorem ck_use {k R A B n : Int} (h : ckC k R A B n = 0) : ¬ ((decide (usK k = 1 ∨ usK k = 3 ∨ usK k = 7) && !rtB R) || (decide (usK k = 3 ∨ usK k = 6 ∨ usK k = 7) && !rtB A) || (decide (usK k = 6 ∨ usK k = 7) && !rtB B)) = true := fun c => by
  unfold ckC at h
  rw [if_pos c] at h
  split at h <;> omega
theorem rtB_bd {r : Int} (h : rtB r = true) : 0 ≤ r ∧ r < 12 := by
  unfold rtB at h
  simpa using h
theorem ck_R {k R A B n : Int} (h : ckC k R A B n = 0) (hu : usK k = 1 ∨ usK k = 3 ∨ usK k = 7) : 0 ≤ R ∧ R < 12 := by
  have h1 := ck_use h
  refine rtB_bd ?_
  cases c : rtB R
  · exact absurd (by rw [c, decide_eq_true hu]; rfl) h1
  · rfl
theorem ck_A {k R A B n : Int} (h : ckC k R A B n = 0) (hu : usK k = 3 ∨ usK k = 6 ∨ usK k = 7) : 0 ≤ A ∧ A < 12 := by
  have h1 := ck_use h
  refine rtB_bd ?_
  cases c : rtB A
  · exact absurd (by rw [c, decide_eq_true hu]; simp) h1
  · rfl
theorem ck_B {k R A B n : Int} (h : ckC k R A B n = 0) (hu : usK k = 6 ∨ usK k = 7) : 0 ≤ B ∧ B < 12 := by
  have h1 := ck_use h
  refine rtB_bd ?_
  cases c : rtB B
  · exact absurd (by rw [c, decide_eq_true hu]; simp) h1
  · rfl

end Go.Proofs.YtogknhogphkddaaGreat

/- The document's world: Do, whatever the step: what is refused, numbers, nothing, moves, cuts: contracts. -/
namespace Go.Proofs.YtogknhogphkddaaGreat
open Go.RowKit W Kp Stl

def SFk (k R A B I n : Int) : Prop := ∀ w, Calls Tryz.prog 24 #[stpV k R A B I n] w fun e w' => e = .returned (.int .i64 0) ∧ Below w.heap.size w w'
theorem sfk_of {k R A B n : Int} (I : Int) (h : ckC k R A B n = 0) : SFk k R A B I n := fun w => by
  have P := stepF_any k R A B I n w
  rw [h] at P
  exact P
section
variable {rp rb : Nat} {most grow : Int} {F : Nat → Prop} {s : Wrs} {w : World}

set_option maxRecDepth 100000 in
set_option maxHeartbeats 2000000 in
theorem doQ_no (h : (wrO rp rb most grow).J F s w) (k R A B I n : Int) (hc : ckC k R A B n ≠ 0) :
    Calls Tryz.prog 9 #[.pointer (some ⟨rp, 0, none⟩), stpV k R A B I n] w fun e w' => e = .returned (.int .i64 (ckC k R A B n)) ∧ (wrO rp rb most grow).J F s w' ∧ Tn F w F w' := by
  have hP := stepF_any k R A B I n
  have hne : (ckC k R A B n != 0) = true := by simpa using hc
  generalize ckC k R A B n = z at *
  clear hc
  have hb0 := (Below.refl w.heap.size w).alloc (Nat.le_refl _) (stpC k R A B I n)
  have P := hP (w.alloc (stpC k R A B I n))
  have HJ : Hid ((wrO rp rb most grow).J F s w ∧ Below w.heap.size w (w.alloc (stpC k R A B I n))) := ⟨h, hb0⟩
  clear h hb0 hP
  go_enter Tryz.func9, Tryz.ntmps9
  go_wp2_with fail
  refine P.mono ?_
  clear P
  rintro e w1 ⟨rfl, hb1⟩
  have hb := HJ.out.2.trans (hb1.mono (by simp))
  have hJ1 := (wrO rp rb most grow).below HJ.out.1 hb
  have hx : w1.heap[w.heap.size]? = some (stpC k R A B I n) := (hb1.block _ (by simp)).trans (heap_alloc_new _ _)
  obtain ⟨q0, q1, q2, q3, q4, q5⟩ := hs_cells hx
  clear q0 q1 q2 q3 q4 q5 hx
  go_wp2_with fail
  go_ret
  exact ⟨rfl, hJ1, Tn.of hb⟩

set_option maxRecDepth 100000 in
set_option maxHeartbeats 2000000 in
theorem doQ_int (h : (wrO rp rb most grow).J F s w) (R : Nat) (hR : R < 12) (A B I n : Int) (hP : SFk 1 R A B I n) :
    Calls Tryz.prog 9 #[.pointer (some ⟨rp, 0, none⟩), stpV 1 R A B I n] w fun e w' => e = .returned (.int .i64 0) ∧ (wrO rp rb most grow).J F { s with rs := s.rs.set R (1, n) } w' ∧ Tn F w F w' := by
  have hb0 := (Below.refl w.heap.size w).alloc (Nat.le_refl _) (stpC 1 R A B I n)
  have P := hP (w.alloc (stpC 1 R A B I n))
  have HJ : Hid ((wrO rp rb most grow).J F s w ∧ Below w.heap.size w (w.alloc (stpC 1 R A B I n))) := ⟨h, hb0⟩
  clear h hb0 hP
  go_enter Tryz.func9, Tryz.ntmps9
  go_wp2_with fail
  refine P.mono ?_
  clear P
  rintro e w1 ⟨rfl, hb1⟩
  have hb := HJ.out.2.trans (hb1.mono (by simp))
  have hJ1 := (wrO rp rb most grow).below HJ.out.1 hb
  have hx : w1.heap[w.heap.size]? = some (stpC 1 R A B I n) := (hb1.block _ (by simp)).trans (heap_alloc_new _ _)
  obtain ⟨q0, q1, q2, q3, q4, q5⟩ := hs_cells hx
  obtain ⟨c1, _, _, lrp, lrb, cz, hrl, cr⟩ := wr_cells hJ1
  obtain ⟨x0, x1, y0, y1⟩ := cr R hR
  obtain ⟨nrb, hFb, hFp⟩ := wr_ne hJ1
  have lb := (wrO rp rb most grow).lt HJ.out.1 rb hFb
  have lp := (wrO rp rb most grow).lt HJ.out.1 rp hFp
  have nx1 : rb ≠ w.heap.size := by omega
  have nx2 : rp ≠ w.heap.size := by omega
  have HJ1 : Hid ((wrO rp rb most grow).J F s w1 ∧ Tn F w F w1) := ⟨hJ1, Tn.of hb⟩
  have r0 : (0 : Int) ≤ (R : Int) := by omega
  have r1 : (R : Int) < 12 := by omega
  clear hJ1 hb hb1 hx cr cz HJ
  go_wp2_with fail
  go_region_held3 (fun w' => w'.cell? ⟨rp, 1, none⟩ = some (.slice (some ⟨rb, 0, none⟩) 12 12) ∧ w'.cell? ⟨w.heap.size, 1, none⟩ = some (.int .i64 R) ∧ w'.cell? ⟨w.heap.size, 5, none⟩ = some (.int .i64 n)) (go_keep) (fail)
  obtain ⟨hJ2, hT2⟩ := wr_root HJ1.out.1 R (1, n)
  have HJ2 : Hid (_ ∧ _) := ⟨(wrO rp rb most grow).below hJ2 (Below.refl _ _).drew, (HJ1.out.2.trans hT2).below (Below.refl _ _).drew⟩
  clear hJ2 hT2
  go_wp2_with fail
  go_ret
  exact ⟨rfl, HJ2.out.1, HJ2.out.2⟩

set_option maxRecDepth 100000 in
set_option maxHeartbeats 2000000 in
theorem doQ_nil (h : (wrO rp rb most grow).J F s w) (R : Nat) (hR : R < 12) (A B I n : Int) (hP : SFk 2 R A B I n) :
    Calls Tryz.prog 9 #[.pointer (some ⟨rp, 0, none⟩), stpV 2 R A B I n] w fun e w' => e = .returned (.int .i64 0) ∧ (wrO rp rb most grow).J F { s with rs := s.rs.set R (0, 0) } w' ∧ Tn F w F w' := by
  have hb0 := (Below.refl w.heap.size w).alloc (Nat.le_refl _) (stpC 2 R A B I n)
  have P := hP (w.alloc (stpC 2 R A B I n))
  have HJ : Hid ((wrO rp rb most grow).J F s w ∧ Below w.heap.size w (w.alloc (stpC 2 R A B I n))) := ⟨h, hb0⟩
  clear h hb0 hP
  go_enter Tryz.func9, Tryz.ntmps9
  go_wp2_with fail
  refine P.mono ?_
  clear P
  rintro e w1 ⟨rfl, hb1⟩
  have hb := HJ.out.2.trans (hb1.mono (by simp))
  have hJ1 := (wrO rp rb most grow).below HJ.out.1 hb
  have hx : w1.heap[w.heap.size]? = some (stpC 2 R A B I n) := (hb1.block _ (by simp)).trans (heap_alloc_new _ _)
  obtain ⟨q0, q1, q2, q3, q4, q5⟩ := hs_cells hx
  obtain ⟨c1, _, _, lrp, lrb, cz, hrl, cr⟩ := wr_cells hJ1
  obtain ⟨x0, x1, y0, y1⟩ := cr R hR
  obtain ⟨nrb, hFb, hFp⟩ := wr_ne hJ1
  have lb := (wrO rp rb most grow).lt HJ.out.1 rb hFb
  have lp := (wrO rp rb most grow).lt HJ.out.1 rp hFp
  have nx1 : rb ≠ w.heap.size := by omega
  have nx2 : rp ≠ w.heap.size := by omega
  have HJ1 : Hid ((wrO rp rb most grow).J F s w1 ∧ Tn F w F w1) := ⟨hJ1, Tn.of hb⟩
  have r0 : (0 : Int) ≤ (R : Int) := by omega
  have r1 : (R : Int) < 12 := by omega
  clear hJ1 hb hb1 hx cr cz HJ
  go_wp2_with fail
  go_region_held3 (fun w' => w'.cell? ⟨rp, 1, none⟩ = some (.slice (some ⟨rb, 0, none⟩) 12 12) ∧ w'.cell? ⟨w.heap.size, 1, none⟩ = some (.int .i64 R)) (go_keep) (fail)
  obtain ⟨hJ2, hT2⟩ := wr_root HJ1.out.1 R (0, 0)
  have HJ2 : Hid (_ ∧ _) := ⟨(wrO rp rb most grow).below hJ2 (Below.refl _ _).drew, (HJ1.out.2.trans hT2).below (Below.refl _ _).drew⟩
  clear hJ2 hT2
  go_wp2_with fail
  go_ret
  exact ⟨rfl, HJ2.out.1, HJ2.out.2⟩

set_option maxRecDepth 100000 in
set_option maxHeartbeats 2000000 in
theorem cutQ_any (h : (wrO rp rb most grow).J F s w) (hv : Wcv s) (h0 : 0 ≤ grow) (h1 : grow ≤ 100000) (mj : Bool) (g : List Bool → List Bool) (hg : Gok s.T s.wt g) :
    Calls Tryz.prog 29 #[.pointer (some ⟨rp, 0, none⟩), .bool mj] w fun e w' => ∃ F', e = .returned (.int .i64 (s.ccd g grow mj)) ∧ (wrO rp rb most grow).J F' (s.cut g grow mj) w' ∧ Tn F w F' w' := by
  by_cases hf : mj = false ∧ grow - (usd s.T).2 < (usd s.T).1
  · obtain ⟨rfl, hf⟩ := hf
    have hF : s.cF g grow false = true := by
      unfold Wrs.cF
      rw [decide_eq_true hf]
      rfl
    have e1 : s.ccd g grow false = 3 := by unfold Wrs.ccd; rw [if_pos hF]
    have e2 : s.cut g grow false = s := by unfold Wrs.cut; rw [if_pos hF]
    rw [e1, e2]
    refine (cutW_no h hv h0 h1 hf).mono ?_
    rintro e w' ⟨rfl, hb⟩
    exact ⟨F, rfl, (wrO rp rb most grow).below h hb, Tn.of hb⟩
  · exact cutW_yes h hv h0 h1 mj (fun e c => hf ⟨e, c⟩) g hg

set_option maxRecDepth 100000 in
set_option maxHeartbeats 2000000 in
theorem doQ_cut (h : (wrO rp rb most grow).J F s w) (hv : Wcv s) (h0 : 0 ≤ grow) (h1 : grow ≤ 100000) (mj : Bool) (g : List Bool → List Bool) (hg : Gok s.T s.wt g) (k R A B I n : Int) (hk : k = if mj then 16 else 15) (hP : SFk k R A B I n) :
    Calls Tryz.prog 9 #[.pointer (some ⟨rp, 0, none⟩), stpV k R A B I n] w fun e w' => ∃ F', e = .returned (.int .i64 (s.ccd g grow mj)) ∧ (wrO rp rb most grow).J F' (s.cut g grow mj) w' ∧ Tn F w F' w' := by
  have HC : Hid (∀ w', (wrO rp rb most grow).J F s w' → Calls Tryz.prog 29 #[.pointer (some ⟨rp, 0, none⟩), .bool mj] w' fun e w'' => ∃ F', e = .returned (.int .i64 (s.ccd g grow mj)) ∧ (wrO rp rb most grow).J F' (s.cut g grow mj) w'' ∧ Tn F w' F' w'') := fun w' hh => cutQ_any hh hv h0 h1 mj g hg
  clear hv h0 h1 hg
  generalize s.ccd g grow mj = cd at *
  generalize s.cut g grow mj = s2 at *
  cases mj
  · obtain rfl : k = 15 := by simpa using hk
    clear hk
    have hb0 := (Below.refl w.heap.size w).alloc (Nat.le_refl _) (stpC 15 R A B I n)
    have P := hP (w.alloc (stpC 15 R A B I n))
    have HJ : Hid ((wrO rp rb most grow).J F s w ∧ Below w.heap.size w (w.alloc (stpC 15 R A B I n))) := ⟨h, hb0⟩
    clear h hb0 hP
    go_enter Tryz.func9, Tryz.ntmps9
    go_wp2_with fail
    refine P.mono ?_
    clear P
    rintro e w1 ⟨rfl, hb1⟩
    have hb := HJ.out.2.trans (hb1.mono (by simp))
    have hJ1 := (wrO rp rb most grow).below HJ.out.1 hb
    have hx : w1.heap[w.heap.size]? = some (stpC 15 R A B I n) := (hb1.block _ (by simp)).trans (heap_alloc_new _ _)
    obtain ⟨q0, q1, q2, q3, q4, q5⟩ := hs_cells hx
    have PC := HC.out w1 hJ1
    have HT : Hid (Tn F w F w1) := Tn.of hb
    clear hJ1 hb hb1 hx HJ HC
    go_wp2_with fail
    refine PC.mono ?_
    clear PC
    rintro e w2 ⟨F2, rfl, j2, t2⟩
    have HR : Hid ((wrO rp rb most grow).J F2 s2 w2 ∧ Tn F w F2 w2) := ⟨j2, HT.out.trans t2⟩
    clear j2 t2 q0 q1 q2 q3 q4 q5
    go_wp2_with fail
    go_ret
    exact ⟨F2, rfl, HR.out.1, HR.out.2⟩
  · obtain rfl : k = 16 := by simpa using hk
    clear hk
    have hb0 := (Below.refl w.heap.size w).alloc (Nat.le_refl _) (stpC 16 R A B I n)
    have P := hP (w.alloc (stpC 16 R A B I n))
    have HJ : Hid ((wrO rp rb most grow).J F s w ∧ Below w.heap.size w (w.alloc (stpC 16 R A B I n))) := ⟨h, hb0⟩
    clear h hb0 hP
    go_enter Tryz.func9, Tryz.ntmps9
    go_wp2_with fail
    refine P.mono ?_
    clear P
    rintro e w1 ⟨rfl, hb1⟩
    have hb := HJ.out.2.trans (hb1.mono (by simp))
    have hJ1 := (wrO rp rb most grow).below HJ.out.1 hb
    have hx : w1.heap[w.heap.size]? = some (stpC 16 R A B I n) := (hb1.block _ (by simp)).trans (heap_alloc_new _ _)
    obtain ⟨q0, q1, q2, q3, q4, q5⟩ := hs_cells hx
    have PC := HC.out w1 hJ1
    have HT : Hid (Tn F w F w1) := Tn.of hb
    clear hJ1 hb hb1 hx HJ HC
    go_wp2_with fail
    refine PC.mono ?_
    clear PC
    rintro e w2 ⟨F2, rfl, j2, t2⟩
    have HR : Hid ((wrO rp rb most grow).J F2 s2 w2 ∧ Tn F w F2 w2) := ⟨j2, HT.out.trans t2⟩
    clear j2 t2 q0 q1 q2 q3 q4 q5
    go_wp2_with fail
    go_ret
    exact ⟨F2, rfl, HR.out.1, HR.out.2⟩
end

end Go.Proofs.YtogknhogphkddaaGreat

/- The document's world: Do, whatever the step: a root becomes another one: a contract. -/
namespace Go.Proofs.YtogknhogphkddaaGreat
open Go.RowKit W Kp Stl

section
variable {rp rb : Nat} {most grow : Int} {F : Nat → Prop} {s : Wrs} {w : World}

set_option maxRecDepth 100000 in
set_option maxHeartbeats 2000000 in
theorem doQ_move (h : (wrO rp rb most grow).J F s w) (R A : Nat) (hR : R < 12) (hA : A < 12) (B I n : Int) (hP : SFk 3 R A B I n) :
    Calls Tryz.prog 9 #[.pointer (some ⟨rp, 0, none⟩), stpV 3 R A B I n] w fun e w' => e = .returned (.int .i64 0) ∧ (wrO rp rb most grow).J F { s with rs := s.rs.set R (s.rs.getD A (0, 0)) } w' ∧ Tn F w F w' := by
  obtain ⟨g1, g2, hg⟩ : ∃ g1 g2, s.rs.getD A (0, 0) = (g1, g2) := ⟨_, _, rfl⟩
  rw [hg]
  have hb0 := (Below.refl w.heap.size w).alloc (Nat.le_refl _) (stpC 3 R A B I n)
  have P := hP (w.alloc (stpC 3 R A B I n))
  have HJ : Hid ((wrO rp rb most grow).J F s w ∧ Below w.heap.size w (w.alloc (stpC 3 R A B I n))) := ⟨h, hb0⟩
  clear h hb0 hP
  go_enter Tryz.func9, Tryz.ntmps9
  go_wp2_with fail
  refine P.mono ?_
  clear P
  rintro e w1 ⟨rfl, hb1⟩
  have hb := HJ.out.2.trans (hb1.mono (by simp))
  have hJ1 := (wrO rp rb most grow).below HJ.out.1 hb
  have hx : w1.heap[w.heap.size]? = some (stpC 3 R A B I n) := (hb1.block _ (by simp)).trans (heap_alloc_new _ _)
  obtain ⟨q0, q1, q2, q3, q4, q5⟩ := hs_cells hx
  obtain ⟨c1, _, _, lrp, lrb, cz, hrl, cr⟩ := wr_cells hJ1
  obtain ⟨x0, x1, y0, y1⟩ := cr R hR
  obtain ⟨nrb, hFb, hFp⟩ := wr_ne hJ1
  have lb := (wrO rp rb most grow).lt HJ.out.1 rb hFb
  have lp := (wrO rp rb most grow).lt HJ.out.1 rp hFp
  have nx1 : rb ≠ w.heap.size := by omega
  have nx2 : rp ≠ w.heap.size := by omega
  have HJ1 : Hid ((wrO rp rb most grow).J F s w1 ∧ Tn F w F w1) := ⟨hJ1, Tn.of hb⟩
  have r0 : (0 : Int) ≤ (R : Int) := by omega
  have r1 : (R : Int) < 12 := by omega
  obtain ⟨u0, u1, _, _⟩ := cr A hA
  rw [hg] at u0 u1
  dsimp only at u0 u1
  have a0 : (0 : Int) ≤ (A : Int) := by omega
  have a1 : (A : Int) < 12 := by omega
  generalize (s.rs.getD R (0, 0)).1 = o1 at x0
  generalize (s.rs.getD R (0, 0)).2 = o2 at x1
  clear hJ1 hb hb1 hx cr cz HJ hg
  go_wp2_with fail
  go_region_law (fail)
  all_goals
    obtain ⟨hJ2, hT2⟩ := wr_root HJ1.out.1 R (g1, g2)
    have HJ2 : Hid (_ ∧ _) := ⟨(wrO rp rb most grow).below hJ2 (Below.refl _ _).drew, (HJ1.out.2.trans hT2).below (Below.refl _ _).drew⟩
    clear hJ2 hT2
    go_wp2_with fail
    go_ret
    exact ⟨rfl, HJ2.out.1, HJ2.out.2⟩
end

end Go.Proofs.YtogknhogphkddaaGreat

/- The document's world: Fresh: a contract. -/
namespace Go.Proofs.YtogknhogphkddaaGreat
open Go.RowKit W Kp Stl

theorem infoThing : (Tryz.prog.info? 73).map (fun i => (i.zero, i.size, i.bytes)) = some (some (.agg #[.int .i64 0, .slice none 0 0, .bool false, .bool false]), 4, 40) := by kernel_rfl

section
variable {rp rb : Nat} {most grow : Int} {F : Nat → Prop} {s : Wrs} {w : World}

end

end Go.Proofs.YtogknhogphkddaaGreat
