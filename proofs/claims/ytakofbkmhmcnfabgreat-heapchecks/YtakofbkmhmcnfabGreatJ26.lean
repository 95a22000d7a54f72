/- Joined: He3, Wv3, Wv4, He4, HCk. -/
import Derived.Test.YtakofbkmhmcnfabGreatJ25
import Derived.Test.YtakofbkmhmcnfabGreatJ22
import Derived.Test.YtakofbkmhmcnfabGreatJ03
/- A heap: Do of SGet that is refused, of SPair where there is room: contracts. -/
namespace Go.Proofs.YtakofbkmhmcnfabGreat
open Go.RowKit W Kp Stl

section
variable {a : Wc} {hp : Nat} {F : Nat → Prop} {S : Ww} {w : World}

theorem rtB_nat {R : Nat} (hR : R < 12) : rtB (R : Int) = true := by unfold rtB; rw [decide_eq_true (by omega), decide_eq_true (by omega)]; rfl
theorem ck_get (R A : Nat) (hR : R < 12) (hA : A < 12) : ckC 11 R A 0 0 = 0 := by
  have e : usK 11 = 3 := rfl
  unfold ckC
  rw [e, if_neg (by decide), rtB_nat hR, rtB_nat hA, if_neg (by simp)]
  rfl
theorem ck_pair (R A B : Nat) (hR : R < 12) (hA : A < 12) (hB : B < 12) : ckC 4 R A B 0 = 0 := by
  have e : usK 4 = 7 := rfl
  unfold ckC
  rw [e, if_neg (by decide), rtB_nat hR, rtB_nat hA, rtB_nat hB, if_neg (by simp)]
  rfl

set_option maxRecDepth 100000 in
set_option maxHeartbeats 2000000 in
theorem rootH_get (h : (heO a hp).J F S w) (R I : Int) (A : Nat) (hA : A < 12) :
    Calls Tryz.prog 96 #[.pointer (some ⟨hp, 0, none⟩), hsV 11 R A 0 I 0] w fun e w' => e = .returned (.tuple #[.int .i64 (if fcC a.N S.s.y S.s.g S.s.ws (S.s.rs.getD A 0) I = 0 then ld a.N S.s.y S.s.g S.s.ws (aV (S.s.rs.getD A 0) + 1 + I) else 0), .int .i64 (fcC a.N S.s.y S.s.g S.s.ws (S.s.rs.getD A 0) I)]) ∧ Below w.heap.size w w' := by
  have hb0 := (Below.refl w.heap.size w).alloc (Nat.le_refl _) (hsC 11 R A 0 I 0)
  have hx0 := heap_alloc_new w (.cells #[.int .i64 11, .int .i64 R, .int .i64 (A : Int), .int .i64 0, .int .i64 I, .int .i64 0] 78)
  have J0 := (heO a hp).below h hb0
  obtain ⟨h0, c0, c3, rt, _⟩ := he_lk J0
  obtain ⟨r1, _⟩ := rt A hA
  have J1 := (heO a hp).below J0 (Below.refl _ (w.alloc (hsC 11 R A 0 I 0))).drew
  have PG := get_any (S.s.rs.getD A 0) I (w.alloc (hsC 11 R A 0 I 0)).drew (he_lk J1).c0 (he_at J1).1
  obtain ⟨q0, q1, q2, q3, q4, q5⟩ := hs_cells hx0
  have HJ : Hid ((heO a hp).J F S (w.alloc (hsC 11 R A 0 I 0)).drew ∧ Below w.heap.size w (w.alloc (hsC 11 R A 0 I 0)).drew ∧ (w.alloc (hsC 11 R A 0 I 0)).heap[w.heap.size]? = some (hsC 11 R A 0 I 0)) := ⟨J1, hb0.trans ((Below.refl _ (w.alloc (hsC 11 R A 0 I 0))).drew.mono hb0.size), hx0⟩
  have i0 : (0 : Int) ≤ (A : Int) := by omega
  have i1 : (A : Int) < 12 := by omega
  have lx : w.heap.size < (w.alloc (hsC 11 R A 0 I 0)).heap.size := lt_of_some hx0
  clear h J0 J1 rt hb0 hx0
  generalize (if fcC a.N S.s.y S.s.g S.s.ws (S.s.rs.getD A 0) I = 0 then ld a.N S.s.y S.s.g S.s.ws (aV (S.s.rs.getD A 0) + 1 + I) else 0) = v at *
  generalize fcC a.N S.s.y S.s.g S.s.ws (S.s.rs.getD A 0) I = cd at *
  have HX : Hid (S.s.rs.getD A 0 = S.s.rs.getD A 0) := rfl
  go_enter Tryz.func96, Tryz.ntmps96
  go_upto_region 20 with fail
  generalize w.alloc (hsC 11 R A 0 I 0) = w0 at *
  generalize hxb : w.heap.size = xb at *
  have HR : Hid (∀ w', Below w0.drew.heap.size w0.drew w' → (w'.cell? ⟨hp, 0, none⟩ = some (.pointer (some ⟨a.pw, 0, none⟩)) ∧ w'.cell? ⟨a.pw, 3, none⟩ = some (.slice (some ⟨a.nb, 0, none⟩) 12 12) ∧ w'.cell? ⟨a.nb, A, none⟩ = some (.int .i64 (S.s.rs.getD A 0))) ∧ w'.cell? ⟨xb, 2, none⟩ = some (.int .i64 (A : Int)) ∧ w'.cell? ⟨xb, 4, none⟩ = some (.int .i64 I)) := fun w' hb => by
    obtain ⟨g0, _, g3, grt, _⟩ := he_lk ((heO a hp).below HJ.out.1 hb)
    exact ⟨⟨g0, g3, (grt A hA).1⟩, (hb.cell (p := ⟨xb, 2, none⟩) lx).trans q2, (hb.cell (p := ⟨xb, 4, none⟩) lx).trans q4⟩
  generalize S.s.rs.getD A 0 = x at *
  go_region_held3 (fun w' => w'.cell? ⟨hp, 0, none⟩ = some (.pointer (some ⟨a.pw, 0, none⟩)) ∧ w'.cell? ⟨a.pw, 3, none⟩ = some (.slice (some ⟨a.nb, 0, none⟩) 12 12) ∧ w'.cell? ⟨a.nb, A, none⟩ = some (.int .i64 x) ∧ w'.cell? ⟨xb, 2, none⟩ = some (.int .i64 (A : Int)) ∧ w'.cell? ⟨xb, 4, none⟩ = some (.int .i64 I)) (go_keep)
    (first
      | (go_at_call 54; refine PG.mono ?_; clear PG; rintro e w2 ⟨rfl, hb2⟩; obtain ⟨⟨g0, g3, gr⟩, gx2, gx4⟩ := HR.out w2 hb2; have HB2 : Hid (Below xb w w2) := HJ.out.2.1.trans (hb2.mono (by have := HJ.out.2.1.size; omega)); clear hb2))
  go_wp2_with fail
  go_ret2
  exact ⟨rfl, by rw [hxb]; exact HB2.out⟩

set_option maxRecDepth 100000 in
set_option maxHeartbeats 2000000 in
/-- A step that makes a root anew. -/
theorem doH_root (h : (heO a hp).J F S w) (k : Int) (R : Nat) (A B I n : Int) (hR : R < 12) (hc : ckC k R A B n = 0) (k1 : k ≠ 9) (k2 : k ≠ 12) (k3 : k ≠ 15) (k4 : k ≠ 16) (v : Int) (S2 : Ww)
    (PR : ∀ F' w', (heO a hp).J F' S w' → Calls Tryz.prog 96 #[.pointer (some ⟨hp, 0, none⟩), hsV k R A B I n] w' fun e w'' => ∃ F2, e = .returned (.tuple #[.int .i64 v, .int .i64 0]) ∧ (heO a hp).J F2 S2 w'' ∧ Tn F' w' F2 w'') :
    Calls Tryz.prog 42 #[.pointer (some ⟨hp, 0, none⟩), hsV k R A B I n] w fun e w' => ∃ F', e = .returned (.int .i64 0) ∧ (heO a hp).J F' ⟨{ S2.s with rs := S2.s.rs.set R v }, S2.r, S2.q⟩ w' ∧ Tn F w F' w' := by
  have hb0 := (Below.refl w.heap.size w).alloc (Nat.le_refl _) (hsC k R A B I n)
  have hx0 := heap_alloc_new w (.cells #[.int .i64 k, .int .i64 (R : Int), .int .i64 A, .int .i64 B, .int .i64 I, .int .i64 n] 78)
  have PC := checkH_any k R A B I n (w.alloc (hsC k R A B I n))
  rw [hc] at PC
  have LN : Hid (a.nb < w.heap.size) := (he_lk h).ln
  have HJ : Hid ((heO a hp).J F S (w.alloc (hsC k R A B I n)) ∧ Below w.heap.size w (w.alloc (hsC k R A B I n)) ∧ (w.alloc (hsC k R A B I n)).heap[w.heap.size]? = some (hsC k R A B I n) ∧ ∀ b, F b → b < w.heap.size) := ⟨(heO a hp).below h hb0, hb0, hx0, (heO a hp).lt h⟩
  have HPR : Hid (∀ F' w', (heO a hp).J F' S w' → Calls Tryz.prog 96 #[.pointer (some ⟨hp, 0, none⟩), hsV k R A B I n] w' fun e w'' => ∃ F2, e = .returned (.tuple #[.int .i64 v, .int .i64 0]) ∧ (heO a hp).J F2 S2 w'' ∧ Tn F' w' F2 w'') := PR
  have k1b : (k == 9) = false := by simpa using k1
  have k2b : (k == 12) = false := by simpa using k2
  have k3b : (k == 15) = false := by simpa using k3
  have k4b : (k == 16) = false := by simpa using k4
  clear h hb0 hx0 PR hc
  go_enter Tryz.func42, Tryz.ntmps42
  go_wp2_with fail
  generalize w.alloc (hsC k R A B I n) = w0 at *
  generalize hxb : w.heap.size = xb at *
  refine PC.mono ?_
  clear PC
  rintro e w1 ⟨rfl, hb1⟩
  have HJ1 : Hid ((heO a hp).J F S w1 ∧ Below xb w w1 ∧ w1.heap[xb]? = some (hsC k R A B I n) ∧ ∀ b, F b → b < xb) := ⟨(heO a hp).below HJ.out.1 hb1, HJ.out.2.1.trans (hb1.mono (by have := lt_of_some HJ.out.2.2.1; omega)), (hb1.block xb (lt_of_some HJ.out.2.2.1)).trans HJ.out.2.2.1, HJ.out.2.2.2⟩
  obtain ⟨q0, q1, q2, q3, q4, q5⟩ := hs_cells HJ1.out.2.2.1
  clear HJ hb1
  go_wp2_with fail
  refine (HPR.out F w1 HJ1.out.1).mono ?_
  clear HPR
  rintro e w2 ⟨F2, rfl, J2, T2⟩
  have hx2 := (T2.fr.block xb (lt_of_some HJ1.out.2.2.1) (fun d => by have := HJ1.out.2.2.2 xb d; omega)).trans HJ1.out.2.2.1
  obtain ⟨u0, u1, _⟩ := hs_cells hx2
  obtain ⟨h0, c0, c3, rt, rl, lp, lw, ln⟩ := he_lk J2
  obtain ⟨r1, r2⟩ := rt R hR
  have i0 : (0 : Int) ≤ (R : Int) := by omega
  have i1 : (R : Int) < 12 := by omega
  have lx := lt_of_some hx2
  have nx : a.nb ≠ xb := by have := LN.out; omega
  obtain ⟨n1, n2⟩ := he_ne J2
  have HJ2 : Hid ((heO a hp).J F2 S2 w2.drew ∧ Tn F w F2 w2.drew) := ⟨(heO a hp).below J2 (Below.refl _ w2).drew, ((Tn.of (by rw [hxb]; exact HJ1.out.2.1)).trans T2).below (Below.refl _ w2).drew⟩
  clear rt J2 T2 HJ1 q0 q1 q2 q3 q4 q5
  go_wp2_with fail
  go_region_held3 (fun w' => w'.cell? ⟨hp, 0, none⟩ = some (.pointer (some ⟨a.pw, 0, none⟩)) ∧ w'.cell? ⟨a.pw, 3, none⟩ = some (.slice (some ⟨a.nb, 0, none⟩) 12 12) ∧ w'.cell? ⟨xb, 1, none⟩ = some (.int .i64 (R : Int))) (go_keep) (fail)
  obtain ⟨F3, j3, t3⟩ := he_root HJ2.out.1 R v
  have HF : Hid ((heO a hp).J F3 ⟨{ S2.s with rs := S2.s.rs.set R v }, S2.r, S2.q⟩ (w2.drew.setCell ⟨a.nb, R, none⟩ (.int .i64 v)) ∧ Tn F w F3 (w2.drew.setCell ⟨a.nb, R, none⟩ (.int .i64 v))) := ⟨j3, HJ2.out.2.trans t3⟩
  clear j3 t3 HJ2 h0 c0 c3 r1 r2 u0 u1
  go_wp2_with fail
  go_ret
  exact ⟨rfl, F3, HF.out.1, HF.out.2⟩

set_option maxRecDepth 100000 in
set_option maxHeartbeats 2000000 in
/-- A step that is refused. -/
theorem doH_code (h : (heO a hp).J F S w) (k R A B I n : Int) (hc : ckC k R A B n = 0) (k1 : k ≠ 9) (k2 : k ≠ 12) (k3 : k ≠ 15) (k4 : k ≠ 16) (v cd : Int) (h0 : cd ≠ 0)
    (PR : ∀ F' w', (heO a hp).J F' S w' → Calls Tryz.prog 96 #[.pointer (some ⟨hp, 0, none⟩), hsV k R A B I n] w' fun e w'' => e = .returned (.tuple #[.int .i64 v, .int .i64 cd]) ∧ Below w'.heap.size w' w'') :
    Calls Tryz.prog 42 #[.pointer (some ⟨hp, 0, none⟩), hsV k R A B I n] w fun e w' => e = .returned (.int .i64 cd) ∧ Below w.heap.size w w' := by
  have hb0 := (Below.refl w.heap.size w).alloc (Nat.le_refl _) (hsC k R A B I n)
  have hx0 := heap_alloc_new w (.cells #[.int .i64 k, .int .i64 R, .int .i64 A, .int .i64 B, .int .i64 I, .int .i64 n] 78)
  have PC := checkH_any k R A B I n (w.alloc (hsC k R A B I n))
  rw [hc] at PC
  have HJ : Hid ((heO a hp).J F S (w.alloc (hsC k R A B I n)) ∧ Below w.heap.size w (w.alloc (hsC k R A B I n)) ∧ (w.alloc (hsC k R A B I n)).heap[w.heap.size]? = some (hsC k R A B I n)) := ⟨(heO a hp).below h hb0, hb0, hx0⟩
  have HPR : Hid (∀ F' w', (heO a hp).J F' S w' → Calls Tryz.prog 96 #[.pointer (some ⟨hp, 0, none⟩), hsV k R A B I n] w' fun e w'' => e = .returned (.tuple #[.int .i64 v, .int .i64 cd]) ∧ Below w'.heap.size w' w'') := PR
  have k1b : (k == 9) = false := by simpa using k1
  have k2b : (k == 12) = false := by simpa using k2
  have k3b : (k == 15) = false := by simpa using k3
  have k4b : (k == 16) = false := by simpa using k4
  have h0b : (cd == 0) = false := by simpa using h0
  clear h hb0 hx0 PR hc
  go_enter Tryz.func42, Tryz.ntmps42
  go_wp2_with fail
  generalize w.alloc (hsC k R A B I n) = w0 at *
  generalize hxb : w.heap.size = xb at *
  refine PC.mono ?_
  clear PC
  rintro e w1 ⟨rfl, hb1⟩
  have HJ1 : Hid ((heO a hp).J F S w1 ∧ Below xb w w1) := ⟨(heO a hp).below HJ.out.1 hb1, HJ.out.2.1.trans (hb1.mono (by have := lt_of_some HJ.out.2.2; omega))⟩
  obtain ⟨q0, q1, q2, q3, q4, q5⟩ := hs_cells ((hb1.block xb (lt_of_some HJ.out.2.2)).trans HJ.out.2.2)
  clear HJ hb1
  go_wp2_with fail
  refine (HPR.out F w1 HJ1.out.1).mono ?_
  clear HPR
  rintro e w2 ⟨rfl, hb2⟩
  have HF : Hid (Below xb w w2) := HJ1.out.2.trans (hb2.mono (by have := HJ1.out.2.size; omega))
  clear hb2 HJ1 q0 q1 q2 q3 q4 q5
  go_wp2_with fail
  go_ret
  exact ⟨rfl, by rw [hxb]; exact HF.out⟩

set_option maxRecDepth 100000 in
set_option maxHeartbeats 2000000 in
theorem rootH_pair (h : (heO a hp).J F S w) (R : Int) (A B : Nat) (hA : A < 12) (hB : B < 12) (room : S.s.y + 3 ≤ a.N) :
    Calls Tryz.prog 96 #[.pointer (some ⟨hp, 0, none⟩), hsV 4 R A B 0 0] w fun e w' => ∃ F', e = .returned (.tuple #[.int .i64 (ew 3 S.s.y), .int .i64 0]) ∧ (heO a hp).J F' ⟨{ S.s with y := S.s.y + 3, ws := putF S.s.rs S.s.y (mkW a.N S.s.y 1 2 S.s.ws) [A, B] 2 }, S.r, S.q⟩ w' ∧ Tn F w F' w' := by
  have hb0 := (Below.refl w.heap.size w).alloc (Nat.le_refl _) (hsC 4 R A B 0 0)
  have hb1 := hb0.alloc (by simp) (.cells #[.int .i64 (A : Int), .int .i64 (B : Int)] 3)
  have hx1 := heap_alloc_new (w.alloc (hsC 4 R A B 0 0)) (.cells #[.int .i64 (A : Int), .int .i64 (B : Int)] 3)
  have evb : (w.alloc (hsC 4 R A B 0 0)).heap.size = w.heap.size + 1 := by simp
  rw [evb] at hx1
  have J1 := (heO a hp).below h hb1
  have hlF := (heO a hp).lt h
  have P : Calls Tryz.prog 163 #[.pointer (some ⟨hp, 0, none⟩), .int .i64 1, .slice (some ⟨w.heap.size + 1, 0, none⟩) 2 2] ((w.alloc (hsC 4 R A B 0 0)).alloc (.cells #[.int .i64 (A : Int), .int .i64 (B : Int)] 3)) fun e w' => ∃ F', e = .returned (.tuple #[.int .i64 (ew 3 S.s.y), .int .i64 0]) ∧ (heO a hp).J F' ⟨{ S.s with y := S.s.y + 3, ws := putF S.s.rs S.s.y (mkW a.N S.s.y 1 2 S.s.ws) [A, B] 2 }, S.r, S.q⟩ w' ∧ Tn F ((w.alloc (hsC 4 R A B 0 0)).alloc (.cells #[.int .i64 (A : Int), .int .i64 (B : Int)] 3)) F' w' := by
    refine growH_any J1 1 [A, B] (w.heap.size + 1) 2 (by simp) (by simp) (fun i hi => ?_) (fun d => by have := hlF _ d; omega) (lt_of_some hx1) (fun i hi => ?_) rfl room
    · have hi : i < 2 := hi
      rcases (show i = 0 ∨ i = 1 by omega) with rfl | rfl <;> simp only [World.cell?, hx1] <;> rfl
    · have hi : i < 2 := hi
      rcases (show i = 0 ∨ i = 1 by omega) with rfl | rfl
      · exact hA
      · exact hB
  have HB : Hid (Below w.heap.size w ((w.alloc (hsC 4 R A B 0 0)).alloc (.cells #[.int .i64 (A : Int), .int .i64 (B : Int)] 3))) := hb1
  clear h hb0 hb1 hx1 evb J1 hlF
  go_enter Tryz.func96, Tryz.ntmps96
  go_wp2_with fail
  refine P.mono ?_
  clear P
  rintro e w2 ⟨F2, rfl, J2, T2⟩
  have HF : Hid ((heO a hp).J F2 ⟨{ S.s with y := S.s.y + 3, ws := putF S.s.rs S.s.y (mkW a.N S.s.y 1 2 S.s.ws) [A, B] 2 }, S.r, S.q⟩ w2 ∧ Tn F w F2 w2) := ⟨J2, (Tn.of HB.out).trans T2⟩
  clear J2 T2
  go_wp2_with fail
  go_ret2
  exact ⟨F2, rfl, HF.out.1, HF.out.2⟩
end

end Go.Proofs.YtakofbkmhmcnfabGreat

/- SameVals, SameView of what is the same: contracts. -/
namespace Go.Proofs.YtakofbkmhmcnfabGreat
open Go.RowKit W Kp Stl

set_option maxRecDepth 100000 in
set_option maxHeartbeats 1000000 in
theorem sameVals_eq (a b : Option Addr) (ca cb : Nat) (l : List (Int × Int)) (w : World) (hm : l.length ≤ 100000) (ha : Lp w a l) (hb : Lp w b l) :
    Calls Tryz.prog 75 #[.slice a l.length ca, .slice b l.length cb] w fun e w' => e = .returned (.bool true) ∧ Below w.heap.size w w' := by
  have HA : Hid (Lp w a l) := ha
  have HB : Hid (Lp w b l) := hb
  clear ha hb
  go_enter Tryz.func75, Tryz.ntmps75
  go_wp2_with fail
  go_loopw [5] (fun iv wr => ∃ j : Nat, j ≤ l.length ∧ iv = .int .i64 j ∧ Below w.heap.size w wr) (fun iv _ => l.length - (intOf iv).toNat)
  case atStart => exact ⟨0, Nat.zero_le _, rfl, Below.refl _ _⟩
  case round =>
    obtain ⟨j, hj, rfl, hb⟩ := hrel
    by_cases hlt : j < l.length
    · obtain ⟨b0, o0, e0, hb0, hc⟩ := (HA.out.below hb) (by omega)
      obtain ⟨x1, x2⟩ := hc j hlt
      subst e0
      obtain ⟨b2, o2, e2, hb2, hc2⟩ := (HB.out.below hb) (by omega)
      obtain ⟨x3, x4⟩ := hc2 j hlt
      subst e2
      clear hc hc2
      generalize (l.getD j (0, 0)).1 = u at x1 x3
      generalize (l.getD j (0, 0)).2 = v at x2 x4
      have j0 : (0 : Int) ≤ (j : Int) := by omega
      have j1 : (j : Int) < (l.length : Int) := by omega
      go_wp2_with fail
      go_quiet (fail)
      go_wp2_with fail
      go_roundw
      case rel => exact ⟨j + 1, by omega, by go_num, by first | exact below_drewN hb _ | exact hb.drew | exact hb⟩
      case measure => simp [intOf]; omega
    · obtain rfl : j = l.length := by omega
      go_wp2_with fail
      go_ret
      exact ⟨rfl, hb⟩

end Go.Proofs.YtakofbkmhmcnfabGreat

/- SameView of what is the same: a contract. -/
namespace Go.Proofs.YtakofbkmhmcnfabGreat
open Go.RowKit W Kp Stl

/-- One of the nodes. -/
theorem Ln.at {w : World} {ad : Option Addr} {ns : List (Int × List (Int × Int))} (h : Ln w ad ns) {i : Nat} (hi : i < ns.length) : ∃ b o fa fc, ad = some ⟨b, o, none⟩ ∧ b < w.heap.size ∧ w.cell? ⟨b, o + i * 2, none⟩ = some (.int .i64 (ns.getD i (0, [])).1) ∧ w.cell? ⟨b, o + i * 2 + 1, none⟩ = some (.slice fa (ns.getD i (0, [])).2.length fc) ∧ Lp w fa (ns.getD i (0, [])).2 := by
  obtain ⟨m, h1, h2, h3⟩ := h
  have hl : m.length = ns.length := by rw [← h1]; simp [nds]
  obtain ⟨b, o, e, hb, hc⟩ := h3 (by omega)
  obtain ⟨x, hx⟩ : ∃ x, m[i]? = some x := ⟨_, List.getElem?_eq_getElem (by omega)⟩
  have en : ns.getD i (0, []) = (x.1, x.2.2.2) := by
    subst h1
    rw [List.getD_eq_getElem?_getD, nds, List.getElem?_map, hx]
    rfl
  rw [en]
  exact ⟨b, o, _, _, e, hb, (hc i _ hx).1, (hc i _ hx).2, h2 _ (List.mem_of_getElem? hx)⟩

set_option maxRecDepth 100000 in
set_option maxHeartbeats 2000000 in
theorem sameView_eq (r1 r2 n1 n2 : Option Addr) (c1 c2 d1 d2 : Nat) (vs : List (Int × Int)) (ns : List (Int × List (Int × Int))) (w : World) (hm : vs.length ≤ 100000) (hl : ns.length ≤ 100000) (hf : ∀ nd ∈ ns, nd.2.length ≤ 100000) (h1 : Lp w r1 vs) (h2 : Lp w r2 vs) (h3 : Ln w n1 ns) (h4 : Ln w n2 ns) :
    Calls Tryz.prog 22 #[.agg #[.slice r1 vs.length c1, .slice n1 ns.length d1], .agg #[.slice r2 vs.length c2, .slice n2 ns.length d2]] w fun e w' => e = .returned (.bool true) ∧ Below w.heap.size w w' := by
  have ba := ((Below.refl w.heap.size w).alloc (Nat.le_refl _) (.cells #[.slice r1 vs.length c1, .slice n1 ns.length d1] 50)).alloc (by simp) (.cells #[.slice r2 vs.length c2, .slice n2 ns.length d2] 50)
  have k0 : ((w.alloc (.cells #[.slice r1 vs.length c1, .slice n1 ns.length d1] 50)).alloc (.cells #[.slice r2 vs.length c2, .slice n2 ns.length d2] 50)).cell? ⟨w.heap.size, 1, none⟩ = some (.slice n1 ns.length d1) := by simp [go_sem]
  have k1 : ((w.alloc (.cells #[.slice r1 vs.length c1, .slice n1 ns.length d1] 50)).alloc (.cells #[.slice r2 vs.length c2, .slice n2 ns.length d2] 50)).cell? ⟨w.heap.size + 1, 1, none⟩ = some (.slice n2 ns.length d2) := by simp [go_sem]
  have hs0 : ((w.alloc (.cells #[.slice r1 vs.length c1, .slice n1 ns.length d1] 50)).alloc (.cells #[.slice r2 vs.length c2, .slice n2 ns.length d2] 50)).heap.size = w.heap.size + 2 := by simp
  have P := sameVals_eq r1 r2 c1 c2 vs _ hm (h1.below ba) (h2.below ba)
  have H3 : Hid (∀ w', Below w.heap.size w w' → Ln w' n1 ns) := fun w' hb => h3.below hb
  have H4 : Hid (∀ w', Below w.heap.size w w' → Ln w' n2 ns) := fun w' hb => h4.below hb
  have HF : Hid (∀ nd ∈ ns, nd.2.length ≤ 100000) := hf
  clear h1 h2 h3 h4 hf
  go_enter Tryz.func22, Tryz.ntmps22
  go_wp2_with fail
  refine P.mono ?_
  clear P
  rintro e w1 ⟨rfl, hb1⟩
  have hB1 := ba.trans (hb1.mono (by omega))
  have hs1 := hb1.size
  rw [hs0] at hs1
  have x0 := (hb1.cell (p := ⟨w.heap.size, 1, none⟩) (by show w.heap.size < _; omega)).trans k0
  have x1 := (hb1.cell (p := ⟨w.heap.size + 1, 1, none⟩) (by show w.heap.size + 1 < _; omega)).trans k1
  clear ba k0 k1 hs0 hb1
  go_wp2_with fail
  go_loopw [5] (fun iv wr => ∃ j : Nat, j ≤ ns.length ∧ iv = .int .i64 j ∧ Below w1.heap.size w1 wr) (fun iv _ => ns.length - (intOf iv).toNat)
  case atStart => exact ⟨0, Nat.zero_le _, rfl, Below.refl _ _⟩
  case round =>
    obtain ⟨j, hj, rfl, hb⟩ := hrel
    have hsr := hb.size
    have hBr := hB1.trans (hb.mono (by omega))
    have y0 := (hb.cell (p := ⟨w.heap.size, 1, none⟩) (by show w.heap.size < _; omega)).trans x0
    have y1 := (hb.cell (p := ⟨w.heap.size + 1, 1, none⟩) (by show w.heap.size + 1 < _; omega)).trans x1
    have ly0 : w.heap.size < wr.heap.size := by omega
    have ly1 : w.heap.size + 1 < wr.heap.size := by omega
    by_cases hlt : j < ns.length
    · obtain ⟨b1, o1, fa1, fc1, e1, l1, z1, z2, z3⟩ := (H3.out wr hBr).at hlt
      obtain ⟨b2, o2, fa2, fc2, e2, l2, z4, z5, z6⟩ := (H4.out wr hBr).at hlt
      subst e1 e2
      have hfl : (ns.getD j (0, [])).2.length ≤ 100000 := HF.out _ (by rw [List.getD_eq_getElem?_getD, List.getElem?_eq_getElem hlt]; exact List.getElem_mem hlt)
      generalize (ns.getD j (0, [])).1 = kd at z1 z4
      generalize (ns.getD j (0, [])).2 = fs at z2 z3 z5 z6 hfl
      have j0 : (0 : Int) ≤ (j : Int) := by omega
      have j1 : (j : Int) < (ns.length : Int) := by omega
      have hd := (Below.refl wr.heap.size wr).drew
      have P := sameVals_eq fa1 fa2 fc1 fc2 fs wr.drew hfl (z3.below hd) (z6.below hd)
      clear z3 z6 x0 x1
      go_wp2_with fail
      go_region_held3 (fun w' => w'.cell? ⟨w.heap.size, 1, none⟩ = some (.slice (some ⟨b1, o1, none⟩) ns.length d1) ∧ w'.cell? ⟨w.heap.size + 1, 1, none⟩ = some (.slice (some ⟨b2, o2, none⟩) ns.length d2) ∧ w'.cell? ⟨b1, o1 + j * 2, none⟩ = some (.int .i64 kd) ∧ w'.cell? ⟨b1, o1 + j * 2 + 1, none⟩ = some (.slice fa1 fs.length fc1) ∧ w'.cell? ⟨b2, o2 + j * 2, none⟩ = some (.int .i64 kd) ∧ w'.cell? ⟨b2, o2 + j * 2 + 1, none⟩ = some (.slice fa2 fs.length fc2)) (first | exact ⟨y0, y1, z1, z2, z4, z5⟩ | exact ⟨u0, u1, u2, u3, u4, u5⟩ | go_keep)
        (first | (go_at_call 75; refine P.mono ?_; rintro e w3 ⟨rfl, hb3'⟩; have hb3 : Below wr.heap.size wr w3 := hd.trans hb3'; have u0 := (hb3.cell (p := ⟨w.heap.size, 1, none⟩) ly0).trans y0; have u1 := (hb3.cell (p := ⟨w.heap.size + 1, 1, none⟩) ly1).trans y1; have u2 := (hb3.cell (p := ⟨b1, o1 + j * 2, none⟩) l1).trans z1; have u3 := (hb3.cell (p := ⟨b1, o1 + j * 2 + 1, none⟩) l1).trans z2; have u4 := (hb3.cell (p := ⟨b2, o2 + j * 2, none⟩) l2).trans z4; have u5 := (hb3.cell (p := ⟨b2, o2 + j * 2 + 1, none⟩) l2).trans z5))
      have hbN : Below w1.heap.size w1 w3 := hb.trans (hb3.mono hsr)
      clear P u0 u1 u2 u3 u4 u5 y0 y1 z1 z2 z4 z5 hb3 hb3' hd
      go_wp2_with fail
      go_roundw
      case rel => exact ⟨j + 1, by omega, by go_num, hbN⟩
      case measure => simp [intOf]; omega
    · obtain rfl : j = ns.length := by omega
      go_wp2_with fail
      go_ret
      exact ⟨rfl, hBr⟩

end Go.Proofs.YtakofbkmhmcnfabGreat

/- A heap: View; heapBegun: contracts. -/
namespace Go.Proofs.YtakofbkmhmcnfabGreat
open Go.RowKit W Kp Stl

section
variable {a : Wc} {hp : Nat} {F : Nat → Prop} {S : Ww} {w : World}

/-- View of a wood with its Side. -/
theorem viewS_any (h1 : (wsO a).J F S w) (hq : S.q.length ≤ 90000) :
    Calls Tryz.prog 20 #[.pointer (some ⟨a.pw, 0, none⟩)] w fun e w' => ∃ r2 d2 na nn nc, e = .returned (.agg #[.slice r2 12 d2, .slice na nn nc]) ∧ Lp w' r2 (vwL a.N S.s.y S.s.g S.s.ws S.q S.s.rs).1 ∧ Ln w' na (vwL a.N S.s.y S.s.g S.s.ws S.q S.s.rs).2.2 ∧ nn = (vwL a.N S.s.y S.s.g S.s.ws S.q S.s.rs).2.2.length ∧ Below w.heap.size w w' := by
  obtain ⟨F0, g1, _⟩ := ws_wod h1
  obtain ⟨c0, _, c2, c3, _, rl, _, cr9⟩ := wod_cells g1
  have ha := (wod_arena g1).1
  obtain ⟨F0', ar, cr, ⟨F00, ad, cap, ⟨own, pq, hM, hO⟩, d2, d3, d4, _⟩, r0, r1, hFW⟩ := h1
  have hl : Lq w (some ⟨a.nb, 0, none⟩) S.s.rs := by
    have hr := hM.rt
    refine ⟨fun _ => ⟨a.nb, 0, rfl, lt_of_some hr, fun i hi => ?_⟩, fun _ => ⟨a.nb, 0, _, rfl, hr⟩⟩
    rw [Nat.zero_add]
    exact (cr9 i (by rw [← rl]; exact hi)).1
  have P := view_any (l := S.s.rs) (ra := some ⟨a.nb, 0, none⟩) (rc := 12) ⟨c0, c2, ha, d2, row_pairs d3, hq⟩ (by rw [rl]; exact c3) hl (by rw [rl]; decide)
  rw [rl] at P
  exact P
theorem viewH_any (h : (heO a hp).J F S w) (hq : S.q.length ≤ 90000) :
    Calls Tryz.prog 20 #[.pointer (some ⟨a.pw, 0, none⟩)] w fun e w' => ∃ r2 d2 na nn nc, e = .returned (.agg #[.slice r2 12 d2, .slice na nn nc]) ∧ Lp w' r2 (vwL a.N S.s.y S.s.g S.s.ws S.q S.s.rs).1 ∧ Ln w' na (vwL a.N S.s.y S.s.g S.s.ws S.q S.s.rs).2.2 ∧ nn = (vwL a.N S.s.y S.s.g S.s.ws S.q S.s.rs).2.2.length ∧ Below w.heap.size w w' := by
  obtain ⟨FW, h1, _⟩ := he_ws h
  exact viewS_any h1 hq
end

/-- The heap that heapBegun makes: behind its first step, behind its second. -/
def hb1S : Ww := ⟨{ (bo0 16 8).1.s with rs := (bo0 16 8).1.s.rs.set 0 (ew 1 7) }, [], []⟩
def hb2S : Ww := ⟨{ hb1S.s with y := hb1S.s.y + 3, ws := putF hb1S.s.rs hb1S.s.y (mkW 16 hb1S.s.y 1 2 hb1S.s.ws) [0, 0] 2 }, [], []⟩
def hb3S : Ww := ⟨{ hb2S.s with rs := hb2S.s.rs.set 1 (ew 3 0) }, [], []⟩
theorem hb_code : fcC 16 hb3S.s.y hb3S.s.g hb3S.s.ws (hb3S.s.rs.getD 1 0) 2 = 1 := by decide +kernel
theorem hb_view : (vwL 16 hb3S.s.y hb3S.s.g hb3S.s.ws hb3S.q hb3S.s.rs).2.2 = [(1, [(1, 7), (1, 7)])] := by decide +kernel
theorem hb_vc : vc 1 7 = 0 := by decide

theorem run_nodesH (x y : Value) (w : World) : Sem.run Tryz.prog (Instr.field 50 (.agg #[x, y]) 1) w = .ok y w := by
  unfold Instr.field
  simp [go_sem]
  rfl

set_option maxRecDepth 100000 in
set_option maxHeartbeats 4000000 in
theorem heapBegun_any (w : World) : Calls Tryz.prog 39 #[] w fun e w' => e = .returned (.bool true) ∧ Below w.heap.size w w' := by
  go_enter Tryz.func39, Tryz.ntmps39
  go_wp2_with fail
  refine (newH_yes 16 8 w (by omega) (by omega) (by omega)).mono ?_
  rintro e w1 ⟨a, hp, F1, rfl, j1, ⟨k1, k2⟩, g1, b1⟩
  have hba := (Below.refl w1.heap.size w1).alloc (Nat.le_refl _) (.cells #[.int .i64 0, .int .i64 0] 28)
  have D1 : Calls Tryz.prog 42 #[.pointer (some ⟨hp, 0, none⟩), .agg #[.int .i64 1, .int .i64 0, .int .i64 0, .int .i64 0, .int .i64 0, .int .i64 7]] (w1.alloc (.cells #[.int .i64 0, .int .i64 0] 28)) fun e w' => ∃ F', e = .returned (.int .i64 0) ∧ (heO a hp).J F' hb1S w' ∧ Tn F1 (w1.alloc (.cells #[.int .i64 0, .int .i64 0] 28)) F' w' := doH_int ((heO a hp).below j1 hba) 0 (by omega) 7 hb_vc
  have HB : Hid ((∀ b, F1 b → w.heap.size ≤ b) ∧ Below w.heap.size w (w1.alloc (.cells #[.int .i64 0, .int .i64 0] 28)) ∧ a.N = 16) := ⟨g1, b1.trans (hba.mono b1.size), k1⟩
  clear j1 k1 k2 g1 b1 hba
  go_wp2_with fail
  generalize w1.alloc (.cells #[.int .i64 0, .int .i64 0] 28) = w2 at *
  refine D1.mono ?_
  clear D1
  rintro e w3 ⟨F3, rfl, j3, t3⟩
  have HB3 : Hid ((∀ b, F3 b → w.heap.size ≤ b) ∧ Below w.heap.size w w3) := ⟨fun b d => (t3.sub b d).elim (HB.out.1 b) (fun d => Nat.le_trans HB.out.2.1.size d), HB.out.2.1.trans (t3.fr.below HB.out.2.1.size HB.out.1)⟩
  have eN := HB.out.2.2
  have D2 : Calls Tryz.prog 42 #[.pointer (some ⟨hp, 0, none⟩), .agg #[.int .i64 4, .int .i64 1, .int .i64 0, .int .i64 0, .int .i64 0, .int .i64 0]] w3 fun e w' => ∃ F', e = .returned (.int .i64 0) ∧ (heO a hp).J F' hb3S w' ∧ Tn F3 w3 F' w' := by
    refine doH_root j3 4 1 0 0 0 0 (by omega) (ck_pair 1 0 0 (by omega) (by omega) (by omega)) (by omega) (by omega) (by omega) (by omega) (ew 3 0) hb2S (fun F' w' hJ => ?_)
    have P := rootH_pair hJ 1 0 0 (by omega) (by omega) (by rw [eN]; decide)
    rw [eN] at P
    exact P
  have HN : Hid (a.N = 16) := eN
  clear j3 t3 HB eN
  go_wp2_with fail
  refine D2.mono ?_
  clear D2
  rintro e w4 ⟨F4, rfl, j4, t4⟩
  have HB4 : Hid ((∀ b, F4 b → w.heap.size ≤ b) ∧ Below w.heap.size w w4) := ⟨fun b d => (t4.sub b d).elim (HB3.out.1 b) (fun d => Nat.le_trans HB3.out.2.size d), HB3.out.2.trans (t4.fr.below HB3.out.2.size HB3.out.1)⟩
  have D3 : Calls Tryz.prog 42 #[.pointer (some ⟨hp, 0, none⟩), .agg #[.int .i64 11, .int .i64 2, .int .i64 1, .int .i64 0, .int .i64 2, .int .i64 0]] w4 fun e w' => e = .returned (.int .i64 1) ∧ Below w4.heap.size w4 w' := by
    refine doH_code j4 11 2 1 0 2 0 (ck_get 2 1 (by omega) (by omega)) (by omega) (by omega) (by omega) (by omega) 0 1 (by omega) (fun F' w' hJ => ?_)
    have P := rootH_get hJ 2 2 1 (by omega)
    rw [HN.out, hb_code, if_neg (by omega)] at P
    exact P
  have HJ4 : Hid ((heO a hp).J F4 hb3S w4) := j4
  clear j4 t4 HB3
  go_wp2_with fail
  refine D3.mono ?_
  clear D3
  rintro e w5 ⟨rfl, hb5⟩
  have J5 := (heO a hp).below HJ4.out hb5
  have P := viewH_any J5 (by decide)
  rw [HN.out, hb_view] at P
  obtain ⟨h0, _⟩ := he_lk J5
  have HB5 : Hid (Below w.heap.size w w5) := HB4.out.2.trans (hb5.mono HB4.out.2.size)
  clear J5 hb5 HJ4 HB4
  go_wp2_with fail
  refine P.mono ?_
  clear P
  rintro e w6 ⟨r2, d2, na, nn, nc, rfl, _, hn6, rfl, hb6⟩
  obtain ⟨b, o, fa, fc, e1, lb, x1, x2, x3⟩ := hn6.at (i := 0) (by decide)
  subst e1
  have x2 : w6.cell? ⟨b, o + 0 * 2 + 1, none⟩ = some (.slice fa 2 fc) := x2
  have x3 : Lp w6 fa [(1, 7), (1, 7)] := x3
  obtain ⟨b2, o2, e2, lb2, hc2⟩ := x3 (by decide)
  subst e2
  have x4 : w6.cell? ⟨b2, o2 + 0 * 2 + 1, none⟩ = some (.int .i64 7) := (hc2 0 (by decide)).2
  rw [show o + 0 * 2 + 1 = o + 1 by omega] at x2
  rw [show o2 + 0 * 2 + 1 = o2 + 1 by omega] at x4
  have HB6 : Hid (Below w.heap.size w w6) := HB5.out.trans (hb6.mono HB5.out.size)
  have hrn := run_nodesH (.slice r2 12 d2) (.slice (some ⟨b, o, none⟩) 1 nc)
  have U := usesH_any 9 w6
  rw [show usK 9 = 6 from rfl] at U
  clear hn6 hb6 hc2 HB5 x1
  go_wp2_with fail
  refine U.mono ?_
  rintro e w7 ⟨rfl, rfl⟩
  go_wp2_with fail
  go_ret
  exact ⟨rfl, HB6.out⟩

end Go.Proofs.YtakofbkmhmcnfabGreat

/- HeapChecks: its walk. -/
namespace Go.Proofs.YtakofbkmhmcnfabGreat.HCk
open Go.RowKit W Kp Stl

set_option maxRecDepth 100000 in
set_option maxHeartbeats 8000000 in
theorem walk (k R A B I n kd : Int) (w : World) :
    Calls Tryz.prog 11 #[.agg #[.int .i64 k, .int .i64 R, .int .i64 A, .int .i64 B, .int .i64 I, .int .i64 n], .int .i64 kd] w fun e w' => e = .returned (.bool true) ∧ Below w.heap.size w w' := by
  have hb0 := (Below.refl w.heap.size w).alloc (Nat.le_refl _) (hsC k R A B I n)
  have hx0 := heap_alloc_new w (.cells #[.int .i64 k, .int .i64 R, .int .i64 A, .int .i64 B, .int .i64 I, .int .i64 n] 78)
  have PB := heapBegun_any (w.alloc (hsC k R A B I n))
  have HB0 : Hid (Below w.heap.size w (w.alloc (hsC k R A B I n)) ∧ (w.alloc (hsC k R A B I n)).heap[w.heap.size]? = some (hsC k R A B I n)) := ⟨hb0, hx0⟩
  clear hb0 hx0
  go_enter Tryz.func11, Tryz.ntmps11
  go_wp2_with fail
  generalize w.alloc (hsC k R A B I n) = w0 at *
  generalize hxb : w.heap.size = xb at *
  refine PB.mono ?_
  clear PB
  rintro e w1 ⟨rfl, hb1⟩
  have hx1 : w1.heap[xb]? = some (hsC k R A B I n) := (hb1.block xb (lt_of_some HB0.out.2)).trans HB0.out.2
  have hs0 := lt_of_some HB0.out.2
  have hs1 := lt_of_some hx1
  have hcur : w1.drew.heap[xb]? = some (hsC k R A B I n) ∧ Below xb w w1.drew := ⟨hx1, (HB0.out.1.trans (hb1.mono (by omega))).trans ((Below.refl w1.heap.size w1).drew.mono (by omega))⟩
  have HST : Hid (∀ wa wb : World, (wa.heap[xb]? = some (hsC k R A B I n) ∧ Below xb w wa) → Below wa.heap.size wa wb → (wb.heap[xb]? = some (hsC k R A B I n) ∧ Below xb w wb)) := fun wa wb h hb => ⟨(hb.block xb (lt_of_some h.1)).trans h.1, h.2.trans (hb.mono (by have := lt_of_some h.1; omega))⟩
  obtain ⟨z0, z1, z2, z3, z4, z5⟩ := hs_cells hx1
  clear HB0 hb1 hx1 hs0 hs1
  generalize hcc : ckC k R A B n = cc at *
  go_wp2_with fail
  go_region_held3 (fun w' => w'.cell? ⟨xb, 0, none⟩ = some (.int .i64 k) ∧ w'.cell? ⟨xb, 1, none⟩ = some (.int .i64 R) ∧ w'.cell? ⟨xb, 2, none⟩ = some (.int .i64 A) ∧ w'.cell? ⟨xb, 3, none⟩ = some (.int .i64 B) ∧ w'.cell? ⟨xb, 4, none⟩ = some (.int .i64 I) ∧ w'.cell? ⟨xb, 5, none⟩ = some (.int .i64 n)) (go_keep)
    (first
      | (go_at_call 46; refine (checkH_any k R A B I n _).mono ?_; rintro e w8 ⟨rfl, hb8⟩; rw [hcc]; have hcur := HST.out _ _ hcur hb8; obtain ⟨y0, y1, y2, y3, y4, y5⟩ := hs_cells hcur.1; clear hb8)
      | (go_at_call 47; refine (stepF_any k R A B I n _).mono ?_; rintro e w9 ⟨rfl, hb9⟩; rw [hcc]; have hcur := HST.out _ _ hcur hb9; obtain ⟨y0, y1, y2, y3, y4, y5⟩ := hs_cells hcur.1; clear hb9)
      | (go_at_call 48; refine (usesH_any _ _).mono ?_; rintro e w7 ⟨rfl, hw7⟩; have hw7 := hw7.symm; subst hw7)
      | (go_at_call 49; refine (usesR_any _ _).mono ?_; rintro e w7 ⟨rfl, hw7⟩; have hw7 := hw7.symm; subst hw7))
  all_goals
    have HB : Hid (Below xb w _) := hcur.2
    go_wp2_with fail
    go_ret
    exact ⟨by simp, by rw [hxb]; exact HB.out⟩

end Go.Proofs.YtakofbkmhmcnfabGreat.HCk
