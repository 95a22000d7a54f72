/- Joined: He8, Wv3, Wv4, He4, Vw9, Hx1. -/
import Derived.Test.YtalgochmjddodaaGreatHe7
import Derived.Test.YtalgochmjddodaaGreatJ17
import Derived.Test.YtalgochmjddodaaGreatJ03
import Derived.Test.YtalgochmjddodaaGreatJ35
import Derived.Test.YtalgochmjddodaaGreatJ28
namespace Go.Proofs.YtalgochmjddodaaGreat
set_option maxRecDepth 100000
set_option maxHeartbeats 2000000
open Go.RowKit W Kp Stl
section
variable {a : Wc} {hp : Nat} {F : Nat -> Prop} {S : Ww} {w : World}
theorem he_wbd (h : (heO a hp).J F S w) : Wbd a S.s := by
 obtain ⟨FW, h1, _⟩ := he_ws h
 obtain ⟨F0, g1, _⟩ := ws_wod h1
 obtain ⟨_, _, _, _, _, rl, _⟩ := wod_cells g1
 have ha := (wod_arena g1).1
 exact ⟨ha.hN, ha.hN', ha.hO, ha.hy, ha.hg, ha.hl, rl⟩
theorem setH_any (h : (heO a hp).J F S w) (x i z : Int) (hM : S.s.M.length <= 100000) :
  Calls Tryz.prog 51 #[.pointer (some ⟨a.pw, 0, none⟩), .int .i64 x, .int .i64 i, .int .i64 z] w fun e w' => ∃ F', e = .returned (.int .i64 (fcC a.N S.s.y S.s.g S.s.ws x i)) /\ (heO a hp).J F' (S.set a x i z) w' /\ Tn F w F' w' := by
 obtain ⟨FW, h1, _, h3⟩ := he_ws h
 obtain ⟨F0, g1, g2⟩ := ws_wod h1
 refine (setW_any g1 x i z hM).mono ?_
 rintro e w' ⟨rfl, j1, t1⟩
 obtain ⟨F2, j2, t2⟩ := g2 _ _ _ j1 t1
 obtain ⟨F3, j3, t3⟩ := h3 _ _ _ j2 t2
 exact ⟨F3, rfl, j3, t3⟩
theorem us_root {k R A B n : Int} (hc : ckC k R A B n = 0) (k9 : k ≠ 9) (k12 : k ≠ 12) (k15 : k ≠ 15) (k16 : k ≠ 16) : usK k = 1 \/ usK k = 3 \/ usK k = 7 := by
 rcases kind_all k with d | d | d | d | d | d | d | d | d | d | d | d | d | d | d | d | d
 case' inr.inr.inr.inr.inr.inr.inr.inr.inr.inr.inr.inr.inr.inr.inr.inr =>
  have := usK_no d
  unfold ckC at hc
  rw [if_pos this] at hc
  omega
 all_goals
  first
   | (subst d; decide)
   | (exfalso; omega)
theorem doH_bad (k R A B I n : Int) (hc : ckC k R A B n ≠ 0) :
  Calls Tryz.prog 30 #[.pointer (some ⟨hp, 0, none⟩), hsV k R A B I n] w fun e w' => e = .returned (.int .i64 (ckC k R A B n)) /\ Below w.heap.size w w' := by
 have hb0 := (Below.refl w.heap.size w).alloc (Nat.le_refl _) (hsC k R A B I n)
 have PC := checkH_any k R A B I n (w.alloc (hsC k R A B I n))
 have HB : Hid (Below w.heap.size w (w.alloc (hsC k R A B I n))) := hb0
 have cb : (ckC k R A B n == 0) = false := by simpa using hc
 generalize ckC k R A B n = cd at *
 clear hb0 hc
 go_enter Tryz.func30, Tryz.ntmps30
 go_wp2_with fail
 refine PC.mono ?_
 clear PC
 rintro e w1 ⟨rfl, hb1⟩
 have hbt := HB.out.trans (hb1.mono HB.out.size)
 clear hb1
 go_wp2_with fail
 go_ret
 exact ⟨rfl, hbt⟩
theorem doH_minor (h : (heO a hp).J F S w) (R A B I n : Int) (hc : ckC 15 R A B n = 0) (hq : S.q.length + S.r.length <= 90000) :
  Calls Tryz.prog 30 #[.pointer (some ⟨hp, 0, none⟩), hsV 15 R A B I n] w fun e w' => ∃ F', e = .returned (.int .i64 (S.code a)) /\ (heO a hp).J F' (S.cut a) w' /\ Tn F w F' w' := by
 have hb0 := (Below.refl w.heap.size w).alloc (Nat.le_refl _) (hsC 15 R A B I n)
 have hx0 := heap_alloc_new w (.cells #[.int .i64 15, .int .i64 R, .int .i64 A, .int .i64 B, .int .i64 I, .int .i64 n] 65)
 have PC := checkH_any 15 R A B I n (w.alloc (hsC 15 R A B I n))
 rw [hc] at PC
 have HJ : Hid ((heO a hp).J F S w /\ Below w.heap.size w (w.alloc (hsC 15 R A B I n)) /\ (w.alloc (hsC 15 R A B I n)).heap[w.heap.size]? = some (hsC 15 R A B I n)) := ⟨h, hb0, hx0⟩
 have HPR : Hid (∀ F' w', (heO a hp).J F' S w' -> Calls Tryz.prog 16 #[.pointer (some ⟨a.pw, 0, none⟩)] w' fun e w'' => ∃ F2, e = .returned (.int .i64 (S.code a)) /\ (heO a hp).J F2 (S.cut a) w'' /\ Tn F' w' F2 w'') := fun F' w' hJ => cutH_any hJ hq
 generalize S.cut a = S2 at *
 generalize S.code a = cd at *
 clear h hb0 hc hx0
 go_enter Tryz.func30, Tryz.ntmps30
 go_wp2_with fail
 generalize w.alloc (hsC 15 R A B I n) = w0 at *
 generalize hxb : w.heap.size = xb at *
 refine PC.mono ?_
 clear PC
 rintro e w1 ⟨rfl, hb1⟩
 have hbt : Below w.heap.size w w1 := by rw [hxb]; exact HJ.out.2.1.trans (hb1.mono (by have := lt_of_some HJ.out.2.2; omega))
 obtain ⟨q0, q1, q2, q3, q4, q5⟩ := hs_cells ((hb1.block xb (lt_of_some HJ.out.2.2)).trans HJ.out.2.2)
 have J1 := (heO a hp).below HJ.out.1 hbt
 obtain ⟨h0, _⟩ := he_lk J1
 have P := HPR.out F w1 J1
 have HT : Hid (Tn F w F w1) := Tn.of hbt
 clear hb1 hbt J1 q1 q2 q3 q4 q5
 go_wp2_with fail
 refine P.mono ?_
 clear P
 rintro e w2 ⟨F2, rfl, J2, T2⟩
 have HF : Hid ((heO a hp).J F2 S2 w2 /\ Tn F w F2 w2) := ⟨J2, HT.out.trans T2⟩
 clear J2 T2
 go_wp2_with fail
 go_ret
 exact ⟨F2, rfl, HF.out.1, HF.out.2⟩
theorem doH_major (h : (heO a hp).J F S w) (R A B I n : Int) (hc : ckC 16 R A B n = 0) (hq : S.q.length + S.r.length <= 90000) (hsl : S.jfull a = false -> ∃ G, SlG (S.k5 a) (S.j5 a) G /\ G 0 (S.k5 a, 0)) :
  Calls Tryz.prog 30 #[.pointer (some ⟨hp, 0, none⟩), hsV 16 R A B I n] w fun e w' => ∃ F', e = .returned (.int .i64 (S.gcode a)) /\ (heO a hp).J F' (S.gcut a) w' /\ Tn F w F' w' := by
 have hb0 := (Below.refl w.heap.size w).alloc (Nat.le_refl _) (hsC 16 R A B I n)
 have hx0 := heap_alloc_new w (.cells #[.int .i64 16, .int .i64 R, .int .i64 A, .int .i64 B, .int .i64 I, .int .i64 n] 65)
 have PC := checkH_any 16 R A B I n (w.alloc (hsC 16 R A B I n))
 rw [hc] at PC
 have HJ : Hid ((heO a hp).J F S w /\ Below w.heap.size w (w.alloc (hsC 16 R A B I n)) /\ (w.alloc (hsC 16 R A B I n)).heap[w.heap.size]? = some (hsC 16 R A B I n)) := ⟨h, hb0, hx0⟩
 have HPR : Hid (∀ F' w', (heO a hp).J F' S w' -> Calls Tryz.prog 22 #[.pointer (some ⟨a.pw, 0, none⟩)] w' fun e w'' => ∃ F2, e = .returned (.int .i64 (S.gcode a)) /\ (heO a hp).J F2 (S.gcut a) w'' /\ Tn F' w' F2 w'') := fun F' w' hJ => gcutH_any hJ hq hsl
 generalize S.gcut a = S2 at *
 generalize S.gcode a = cd at *
 clear h hb0 hc hx0 hsl
 go_enter Tryz.func30, Tryz.ntmps30
 go_wp2_with fail
 generalize w.alloc (hsC 16 R A B I n) = w0 at *
 generalize hxb : w.heap.size = xb at *
 refine PC.mono ?_
 clear PC
 rintro e w1 ⟨rfl, hb1⟩
 have hbt : Below w.heap.size w w1 := by rw [hxb]; exact HJ.out.2.1.trans (hb1.mono (by have := lt_of_some HJ.out.2.2; omega))
 obtain ⟨q0, q1, q2, q3, q4, q5⟩ := hs_cells ((hb1.block xb (lt_of_some HJ.out.2.2)).trans HJ.out.2.2)
 have J1 := (heO a hp).below HJ.out.1 hbt
 obtain ⟨h0, _⟩ := he_lk J1
 have P := HPR.out F w1 J1
 have HT : Hid (Tn F w F w1) := Tn.of hbt
 clear hb1 hbt J1 q1 q2 q3 q4 q5
 go_wp2_with fail
 refine P.mono ?_
 clear P
 rintro e w2 ⟨F2, rfl, J2, T2⟩
 have HF : Hid ((heO a hp).J F2 S2 w2 /\ Tn F w F2 w2) := ⟨J2, HT.out.trans T2⟩
 clear J2 T2
 go_wp2_with fail
 go_ret
 exact ⟨F2, rfl, HF.out.1, HF.out.2⟩
theorem doH_reg (h : (heO a hp).J F S w) (R I n : Int) (A B : Nat) (hA : A < 12) (hB : B < 12) (hc : ckC 9 R A B n = 0) (hr : S.r.length <= 90000) (hq : S.q.length <= 90000) :
  Calls Tryz.prog 30 #[.pointer (some ⟨hp, 0, none⟩), hsV 9 R A B I n] w fun e w' => ∃ F', e = .returned (.int .i64 (S.reg a (S.s.rs.getD A 0) (S.s.rs.getD B 0)).1) /\ (heO a hp).J F' (S.reg a (S.s.rs.getD A 0) (S.s.rs.getD B 0)).2 w' /\ Tn F w F' w' := by
 have hb0 := (Below.refl w.heap.size w).alloc (Nat.le_refl _) (hsC 9 R A B I n)
 have hx0 := heap_alloc_new w (.cells #[.int .i64 9, .int .i64 R, .int .i64 (A : Int), .int .i64 (B : Int), .int .i64 I, .int .i64 n] 65)
 have PC := checkH_any 9 R A B I n (w.alloc (hsC 9 R A B I n))
 rw [hc] at PC
 have HJ : Hid ((heO a hp).J F S w /\ Below w.heap.size w (w.alloc (hsC 9 R A B I n)) /\ (w.alloc (hsC 9 R A B I n)).heap[w.heap.size]? = some (hsC 9 R A B I n) /\ ¬ F w.heap.size) := ⟨h, hb0, hx0, fun d => by have := (heO a hp).lt h _ d; omega⟩
 have i0 : (0 : Int) <= (A : Int) := by omega
 have i1 : (A : Int) < 12 := by omega
 have i2 : (0 : Int) <= (B : Int) := by omega
 have i3 : (B : Int) < 12 := by omega
 have HPR : Hid (∀ F' w', (heO a hp).J F' S w' -> Calls Tryz.prog 86 #[.pointer (some ⟨hp, 0, none⟩), .int .i64 (S.s.rs.getD A 0), .int .i64 (S.s.rs.getD B 0)] w' fun e w'' => ∃ F2, e = .returned (.int .i64 (S.reg a (S.s.rs.getD A 0) (S.s.rs.getD B 0)).1) /\ (heO a hp).J F2 (S.reg a (S.s.rs.getD A 0) (S.s.rs.getD B 0)).2 w'' /\ Tn F' w' F2 w'') := fun F' w' hJ => registerH_any hJ _ _ hr hq
 have HRS : Hid ((S.reg a (S.s.rs.getD A 0) (S.s.rs.getD B 0)).2.s.rs = S.s.rs) := reg_rs a S _ _
 generalize S.reg a (S.s.rs.getD A 0) (S.s.rs.getD B 0) = g at *
 obtain ⟨cd, S2⟩ := g
 dsimp only at *
 clear h hb0 hc hx0
 go_enter Tryz.func30, Tryz.ntmps30
 go_wp2_with fail
 generalize w.alloc (hsC 9 R A B I n) = w0 at *
 generalize hxb : w.heap.size = xb at *
 refine PC.mono ?_
 clear PC
 rintro e w1 ⟨rfl, hb1⟩
 have hbt : Below w.heap.size w w1 := by rw [hxb]; exact HJ.out.2.1.trans (hb1.mono (by have := lt_of_some HJ.out.2.2.1; omega))
 have hx1 := (hb1.block xb (lt_of_some HJ.out.2.2.1)).trans HJ.out.2.2.1
 obtain ⟨q0, q1, q2, q3, q4, q5⟩ := hs_cells hx1
 have J1 := (heO a hp).below HJ.out.1 hbt
 obtain ⟨h0, c0, c3, rt, _⟩ := he_lk J1
 obtain ⟨r1, _⟩ := rt A hA
 obtain ⟨r2, _⟩ := rt B hB
 have J2 := (heO a hp).below J1 (Below.refl _ w1).drew
 have P := HPR.out F w1.drew J2
 have HT : Hid (Tn F w F w1.drew) := (Tn.of hbt).below (Below.refl _ w1).drew
 have lx := lt_of_some hx1
 have HR : Hid (∀ F' w' S', (heO a hp).J F' S' w' -> Tn F w1.drew F' w' -> S'.s.rs = S.s.rs -> (w'.cell? ⟨hp, 0, none⟩ = some (.pointer (some ⟨a.pw, 0, none⟩)) /\ w'.cell? ⟨a.pw, 3, none⟩ = some (.slice (some ⟨a.nb, 0, none⟩) 12 12) /\ w'.cell? ⟨a.nb, A, none⟩ = some (.int .i64 (S.s.rs.getD A 0)) /\ w'.cell? ⟨a.nb, B, none⟩ = some (.int .i64 (S.s.rs.getD B 0))) /\ w'.cell? ⟨xb, 2, none⟩ = some (.int .i64 (A : Int)) /\ w'.cell? ⟨xb, 3, none⟩ = some (.int .i64 (B : Int))) := fun F' w' S' j t es => by
  obtain ⟨g0, _, g3, grt, _⟩ := he_lk j
  rw [es] at grt
  exact ⟨⟨g0, g3, (grt A hA).1, (grt B hB).1⟩, (World.cell?_of_block (a := ⟨xb, 2, none⟩) (t.fr.block xb lx HJ.out.2.2.2)).trans q2, (World.cell?_of_block (a := ⟨xb, 3, none⟩) (t.fr.block xb lx HJ.out.2.2.2)).trans q3⟩
 clear hb1 hbt J1 J2 rt hx1
 have HX : Hid (S.s.rs.getD A 0 = S.s.rs.getD A 0) := rfl
 generalize S.s.rs.getD A 0 = x at *
 generalize S.s.rs.getD B 0 = y at *
 go_wp2_with fail
 go_region_held3 (fun w' => w'.cell? ⟨hp, 0, none⟩ = some (.pointer (some ⟨a.pw, 0, none⟩)) /\ w'.cell? ⟨a.pw, 3, none⟩ = some (.slice (some ⟨a.nb, 0, none⟩) 12 12) /\ w'.cell? ⟨a.nb, A, none⟩ = some (.int .i64 x) /\ w'.cell? ⟨a.nb, B, none⟩ = some (.int .i64 y) /\ w'.cell? ⟨xb, 2, none⟩ = some (.int .i64 (A : Int)) /\ w'.cell? ⟨xb, 3, none⟩ = some (.int .i64 (B : Int))) (go_keep)
  (first
   | (go_at_call 86; refine P.mono ?_; clear P; rintro e w2 ⟨F2, rfl, j2, t2⟩; obtain ⟨⟨g0, g3, gr, gs⟩, gx2, gx3⟩ := HR.out F2 w2 _ j2 t2 HRS.out; have HF : Hid ((heO a hp).J F2 S2 w2 /\ Tn F w F2 w2) := ⟨j2, HT.out.trans t2⟩; clear j2 t2))
 go_wp2_with fail
 go_ret
 exact ⟨F2, rfl, HF.out.1, HF.out.2⟩
theorem doH_set (h : (heO a hp).J F S w) (R I n : Int) (A B : Nat) (hA : A < 12) (hB : B < 12) (hc : ckC 12 R A B n = 0) (hM : S.s.M.length <= 100000) :
  Calls Tryz.prog 30 #[.pointer (some ⟨hp, 0, none⟩), hsV 12 R A B I n] w fun e w' => ∃ F', e = .returned (.int .i64 (fcC a.N S.s.y S.s.g S.s.ws (S.s.rs.getD A 0) I)) /\ (heO a hp).J F' (S.set a (S.s.rs.getD A 0) I (S.s.rs.getD B 0)) w' /\ Tn F w F' w' := by
 have hb0 := (Below.refl w.heap.size w).alloc (Nat.le_refl _) (hsC 12 R A B I n)
 have hx0 := heap_alloc_new w (.cells #[.int .i64 12, .int .i64 R, .int .i64 (A : Int), .int .i64 (B : Int), .int .i64 I, .int .i64 n] 65)
 have PC := checkH_any 12 R A B I n (w.alloc (hsC 12 R A B I n))
 rw [hc] at PC
 have HJ : Hid ((heO a hp).J F S w /\ Below w.heap.size w (w.alloc (hsC 12 R A B I n)) /\ (w.alloc (hsC 12 R A B I n)).heap[w.heap.size]? = some (hsC 12 R A B I n) /\ ¬ F w.heap.size) := ⟨h, hb0, hx0, fun d => by have := (heO a hp).lt h _ d; omega⟩
 have i0 : (0 : Int) <= (A : Int) := by omega
 have i1 : (A : Int) < 12 := by omega
 have i2 : (0 : Int) <= (B : Int) := by omega
 have i3 : (B : Int) < 12 := by omega
 have HPR : Hid (∀ F' w', (heO a hp).J F' S w' -> Calls Tryz.prog 51 #[.pointer (some ⟨a.pw, 0, none⟩), .int .i64 (S.s.rs.getD A 0), .int .i64 I, .int .i64 (S.s.rs.getD B 0)] w' fun e w'' => ∃ F2, e = .returned (.int .i64 (fcC a.N S.s.y S.s.g S.s.ws (S.s.rs.getD A 0) I)) /\ (heO a hp).J F2 (S.set a (S.s.rs.getD A 0) I (S.s.rs.getD B 0)) w'' /\ Tn F' w' F2 w'') := fun F' w' hJ => setH_any hJ _ _ _ hM
 have HRS : Hid ((S.set a (S.s.rs.getD A 0) I (S.s.rs.getD B 0)).s.rs = S.s.rs) := rfl
 generalize S.set a (S.s.rs.getD A 0) I (S.s.rs.getD B 0) = S2 at *
 generalize fcC a.N S.s.y S.s.g S.s.ws (S.s.rs.getD A 0) I = cd at *
 clear h hb0 hc hx0
 go_enter Tryz.func30, Tryz.ntmps30
 go_wp2_with fail
 generalize w.alloc (hsC 12 R A B I n) = w0 at *
 generalize hxb : w.heap.size = xb at *
 refine PC.mono ?_
 clear PC
 rintro e w1 ⟨rfl, hb1⟩
 have hbt : Below w.heap.size w w1 := by rw [hxb]; exact HJ.out.2.1.trans (hb1.mono (by have := lt_of_some HJ.out.2.2.1; omega))
 have hx1 := (hb1.block xb (lt_of_some HJ.out.2.2.1)).trans HJ.out.2.2.1
 obtain ⟨q0, q1, q2, q3, q4, q5⟩ := hs_cells hx1
 have J1 := (heO a hp).below HJ.out.1 hbt
 obtain ⟨h0, c0, c3, rt, _⟩ := he_lk J1
 obtain ⟨r1, _⟩ := rt A hA
 obtain ⟨r2, _⟩ := rt B hB
 have J2 := (heO a hp).below J1 (Below.refl _ w1).drew
 have P := HPR.out F w1.drew J2
 have HT : Hid (Tn F w F w1.drew) := (Tn.of hbt).below (Below.refl _ w1).drew
 have lx := lt_of_some hx1
 have HR : Hid (∀ F' w' S', (heO a hp).J F' S' w' -> Tn F w1.drew F' w' -> S'.s.rs = S.s.rs -> (w'.cell? ⟨hp, 0, none⟩ = some (.pointer (some ⟨a.pw, 0, none⟩)) /\ w'.cell? ⟨a.pw, 3, none⟩ = some (.slice (some ⟨a.nb, 0, none⟩) 12 12) /\ w'.cell? ⟨a.nb, A, none⟩ = some (.int .i64 (S.s.rs.getD A 0)) /\ w'.cell? ⟨a.nb, B, none⟩ = some (.int .i64 (S.s.rs.getD B 0))) /\ w'.cell? ⟨xb, 2, none⟩ = some (.int .i64 (A : Int)) /\ w'.cell? ⟨xb, 3, none⟩ = some (.int .i64 (B : Int)) /\ w'.cell? ⟨xb, 4, none⟩ = some (.int .i64 I)) := fun F' w' S' j t es => by
  obtain ⟨g0, _, g3, grt, _⟩ := he_lk j
  rw [es] at grt
  exact ⟨⟨g0, g3, (grt A hA).1, (grt B hB).1⟩, (World.cell?_of_block (a := ⟨xb, 2, none⟩) (t.fr.block xb lx HJ.out.2.2.2)).trans q2, (World.cell?_of_block (a := ⟨xb, 3, none⟩) (t.fr.block xb lx HJ.out.2.2.2)).trans q3, (World.cell?_of_block (a := ⟨xb, 4, none⟩) (t.fr.block xb lx HJ.out.2.2.2)).trans q4⟩
 clear hb1 hbt J1 J2 rt hx1
 have HX : Hid (S.s.rs.getD A 0 = S.s.rs.getD A 0) := rfl
 generalize S.s.rs.getD A 0 = x at *
 generalize S.s.rs.getD B 0 = y at *
 go_wp2_with fail
 go_region_held3 (fun w' => w'.cell? ⟨hp, 0, none⟩ = some (.pointer (some ⟨a.pw, 0, none⟩)) /\ w'.cell? ⟨a.pw, 3, none⟩ = some (.slice (some ⟨a.nb, 0, none⟩) 12 12) /\ w'.cell? ⟨a.nb, A, none⟩ = some (.int .i64 x) /\ w'.cell? ⟨a.nb, B, none⟩ = some (.int .i64 y) /\ w'.cell? ⟨xb, 2, none⟩ = some (.int .i64 (A : Int)) /\ w'.cell? ⟨xb, 3, none⟩ = some (.int .i64 (B : Int)) /\ w'.cell? ⟨xb, 4, none⟩ = some (.int .i64 I)) (go_keep)
  (first
   | (go_at_call 51; refine P.mono ?_; clear P; rintro e w2 ⟨F2, rfl, j2, t2⟩; obtain ⟨⟨g0, g3, gr, gs⟩, gx2, gx3, gx4⟩ := HR.out F2 w2 _ j2 t2 HRS.out; have HF : Hid ((heO a hp).J F2 S2 w2 /\ Tn F w F2 w2) := ⟨j2, HT.out.trans t2⟩; clear j2 t2))
 go_wp2_with fail
 go_ret
 exact ⟨F2, rfl, HF.out.1, HF.out.2⟩
theorem doH_codeT (h : (heO a hp).J F S w) (k R A B I n : Int) (hc : ckC k R A B n = 0) (k1 : k ≠ 9) (k2 : k ≠ 12) (k3 : k ≠ 15) (k4 : k ≠ 16) (v cd : Int) (h0 : cd ≠ 0) (S2 : Ww)
  (PR : ∀ F' w', (heO a hp).J F' S w' -> Calls Tryz.prog 87 #[.pointer (some ⟨hp, 0, none⟩), hsV k R A B I n] w' fun e w'' => ∃ F2, e = .returned (.tuple #[.int .i64 v, .int .i64 cd]) /\ (heO a hp).J F2 S2 w'' /\ Tn F' w' F2 w'') :
  Calls Tryz.prog 30 #[.pointer (some ⟨hp, 0, none⟩), hsV k R A B I n] w fun e w' => ∃ F', e = .returned (.int .i64 cd) /\ (heO a hp).J F' S2 w' /\ Tn F w F' w' := by
 have hb0 := (Below.refl w.heap.size w).alloc (Nat.le_refl _) (hsC k R A B I n)
 have hx0 := heap_alloc_new w (.cells #[.int .i64 k, .int .i64 R, .int .i64 A, .int .i64 B, .int .i64 I, .int .i64 n] 65)
 have PC := checkH_any k R A B I n (w.alloc (hsC k R A B I n))
 rw [hc] at PC
 have HJ : Hid ((heO a hp).J F S (w.alloc (hsC k R A B I n)) /\ Below w.heap.size w (w.alloc (hsC k R A B I n)) /\ (w.alloc (hsC k R A B I n)).heap[w.heap.size]? = some (hsC k R A B I n)) := ⟨(heO a hp).below h hb0, hb0, hx0⟩
 have HPR : Hid (∀ F' w', (heO a hp).J F' S w' -> Calls Tryz.prog 87 #[.pointer (some ⟨hp, 0, none⟩), hsV k R A B I n] w' fun e w'' => ∃ F2, e = .returned (.tuple #[.int .i64 v, .int .i64 cd]) /\ (heO a hp).J F2 S2 w'' /\ Tn F' w' F2 w'') := PR
 have k1b : (k == 9) = false := by simpa using k1
 have k2b : (k == 12) = false := by simpa using k2
 have k3b : (k == 15) = false := by simpa using k3
 have k4b : (k == 16) = false := by simpa using k4
 have h0b : (cd == 0) = false := by simpa using h0
 clear h hb0 hx0 PR hc
 go_enter Tryz.func30, Tryz.ntmps30
 go_wp2_with fail
 generalize w.alloc (hsC k R A B I n) = w0 at *
 generalize hxb : w.heap.size = xb at *
 refine PC.mono ?_
 clear PC
 rintro e w1 ⟨rfl, hb1⟩
 have HJ1 : Hid ((heO a hp).J F S w1 /\ Below xb w w1) := ⟨(heO a hp).below HJ.out.1 hb1, HJ.out.2.1.trans (hb1.mono (by have := lt_of_some HJ.out.2.2; omega))⟩
 obtain ⟨q0, q1, q2, q3, q4, q5⟩ := hs_cells ((hb1.block xb (lt_of_some HJ.out.2.2)).trans HJ.out.2.2)
 clear HJ hb1
 go_wp2_with fail
 refine (HPR.out F w1 HJ1.out.1).mono ?_
 clear HPR
 rintro e w2 ⟨F2, rfl, j2, t2⟩
 have HF : Hid ((heO a hp).J F2 S2 w2 /\ Tn F w F2 w2) := ⟨j2, (Tn.of (by rw [hxb]; exact HJ1.out.2)).trans t2⟩
 clear j2 t2 HJ1 q0 q1 q2 q3 q4 q5
 go_wp2_with fail
 go_ret
 exact ⟨F2, rfl, HF.out.1, HF.out.2⟩
theorem doH_any (h : (heO a hp).J F S w) {j : Nat} (ok : Hok a S j) (hj : j <= 100000) (k R A B I n : Int) :
  Calls Tryz.prog 30 #[.pointer (some ⟨hp, 0, none⟩), hsV k R A B I n] w fun e w' => ∃ F', e = .returned (.int .i64 (S.hd a k R A B I n).1) /\ (heO a hp).J F' (S.hd a k R A B I n).2 w' /\ Tn F w F' w' := by
 have hb := he_wbd h
 have hrq := ok.rq
 have hm := ok.m
 have hq : S.q.length + S.r.length <= 90000 := by omega
 unfold Ww.hd
 by_cases hc : ckC k R A B n = 0
 ·rw [if_pos hc]
  by_cases e9 : k = 9
  ·rw [if_pos e9]
   subst e9
   have h1 := ck_A hc (by decide)
   have h2 := ck_B hc (by decide)
   obtain ⟨A, rfl⟩ := Int.eq_ofNat_of_zero_le h1.1
   obtain ⟨B, rfl⟩ := Int.eq_ofNat_of_zero_le h2.1
   rw [Int.toNat_natCast, Int.toNat_natCast]
   exact doH_reg h R I n A B (by omega) (by omega) hc (by omega) (by omega)
  rw [if_neg e9]
  by_cases e12 : k = 12
  ·rw [if_pos e12]
   subst e12
   have h1 := ck_A hc (by decide)
   have h2 := ck_B hc (by decide)
   obtain ⟨A, rfl⟩ := Int.eq_ofNat_of_zero_le h1.1
   obtain ⟨B, rfl⟩ := Int.eq_ofNat_of_zero_le h2.1
   rw [Int.toNat_natCast, Int.toNat_natCast]
   exact doH_set h R I n A B (by omega) (by omega) hc (by omega)
  rw [if_neg e12]
  by_cases e15 : k = 15
  ·rw [if_pos e15]
   subst e15
   exact doH_minor h R A B I n hc hq
  rw [if_neg e15]
  by_cases e16 : k = 16
  ·rw [if_pos e16]
   subst e16
   exact doH_major h R A B I n hc hq (ok.slg hb)
  rw [if_neg e16]
  have hR := ck_R hc (us_root hc e9 e12 e15 e16)
  obtain ⟨R, rfl⟩ := Int.eq_ofNat_of_zero_le hR.1
  rw [Int.toNat_natCast]
  have PR : ∀ F' w', (heO a hp).J F' S w' -> Calls Tryz.prog 87 #[.pointer (some ⟨hp, 0, none⟩), hsV k R A B I n] w' fun e w'' => ∃ F2, e = .returned (.tuple #[.int .i64 (S.rt a k A.toNat B.toNat I n).1, .int .i64 (S.rt a k A.toNat B.toNat I n).2.1]) /\ (heO a hp).J F2 (S.rt a k A.toNat B.toNat I n).2.2 w'' /\ Tn F' w' F2 w'' := fun F' w' hJ => rootH_any hJ ok hb k R A B I n hc e9 e12 e15 e16
  generalize S.rt a k A.toNat B.toNat I n = g at *
  obtain ⟨v, cd, S2⟩ := g
  dsimp only at *
  by_cases c : cd = 0
  ·rw [if_pos c]
   subst c
   exact doH_root h k R A B I n (by omega) hc e9 e12 e15 e16 v S2 PR
  ·rw [if_neg c]
   exact doH_codeT h k R A B I n hc e9 e12 e15 e16 v cd c S2 PR
 ·rw [if_neg hc]
  refine (doH_bad (hp := hp) (w := w) k R A B I n hc).mono ?_
  rintro e w' ⟨rfl, hb⟩
  exact ⟨F, rfl, (heO a hp).below h hb, Tn.of hb⟩
end
end Go.Proofs.YtalgochmjddodaaGreat

namespace Go.Proofs.YtalgochmjddodaaGreat
open Go.RowKit W Kp Stl
end Go.Proofs.YtalgochmjddodaaGreat

namespace Go.Proofs.YtalgochmjddodaaGreat
open Go.RowKit W Kp Stl
theorem Ln.at {w : World} {ad : Option Addr} {ns : List (Int × List (Int × Int))} (h : Ln w ad ns) {i : Nat} (hi : i < ns.length) : ∃ b o fa fc, ad = some ⟨b, o, none⟩ /\ b < w.heap.size /\ w.cell? ⟨b, o + i * 2, none⟩ = some (.int .i64 (ns.getD i (0, [])).1) /\ w.cell? ⟨b, o + i * 2 + 1, none⟩ = some (.slice fa (ns.getD i (0, [])).2.length fc) /\ Lp w fa (ns.getD i (0, [])).2 := by
 obtain ⟨m, h1, h2, h3⟩ := h
 have hl : m.length = ns.length := by rw [<- h1]; simp [nds]
 obtain ⟨b, o, e, hb, hc⟩ := h3 (by omega)
 obtain ⟨x, hx⟩ : ∃ x, m[i]? = some x := ⟨_, List.getElem?_eq_getElem (by omega)⟩
 have en : ns.getD i (0, []) = (x.1, x.2.2.2) := by
  subst h1
  rw [List.getD_eq_getElem?_getD, nds, List.getElem?_map, hx]
  rfl
 rw [en]
 exact ⟨b, o, _, _, e, hb, (hc i _ hx).1, (hc i _ hx).2, h2 _ (List.mem_of_getElem? hx)⟩
end Go.Proofs.YtalgochmjddodaaGreat

namespace Go.Proofs.YtalgochmjddodaaGreat
set_option maxRecDepth 100000
set_option maxHeartbeats 4000000
open Go.RowKit W Kp Stl
section
variable {a : Wc} {hp : Nat} {F : Nat -> Prop} {S : Ww} {w : World}
theorem viewS_any (h1 : (wsO a).J F S w) (hq : S.q.length <= 90000) :
  Calls Tryz.prog 23 #[.pointer (some ⟨a.pw, 0, none⟩)] w fun e w' => ∃ r2 d2 na nn nc, e = .returned (.agg #[.slice r2 12 d2, .slice na nn nc]) /\ Lp w' r2 (vwL a.N S.s.y S.s.g S.s.ws S.q S.s.rs).1 /\ Ln w' na (vwL a.N S.s.y S.s.g S.s.ws S.q S.s.rs).2.2 /\ nn = (vwL a.N S.s.y S.s.g S.s.ws S.q S.s.rs).2.2.length /\ Below w.heap.size w w' := by
 obtain ⟨F0, g1, _⟩ := ws_wod h1
 obtain ⟨c0, _, c2, c3, _, rl, _, cr9⟩ := wod_cells g1
 have ha := (wod_arena g1).1
 obtain ⟨F0', ar, cr, ⟨F00, ad, cap, ⟨own, pq, hM, hO⟩, d2, d3, d4, _⟩, r0, r1, hFW⟩ := h1
 have hl : Lq w (some ⟨a.nb, 0, none⟩) S.s.rs := by
  have hr := hM.rt
  refine ⟨fun _ => ⟨a.nb, 0, rfl, lt_of_some hr, fun i hi => ?_⟩, fun _ => ⟨a.nb, 0, _, rfl, hr⟩⟩
  rw [Nat.zero_add]
  exact (cr9 i (by rw [<- rl]; exact hi)).1
 have P := view_any (l := S.s.rs) (ra := some ⟨a.nb, 0, none⟩) (rc := 12) ⟨c0, c2, ha, d2, row_pairs d3, hq⟩ (by rw [rl]; exact c3) hl (by rw [rl]; decide)
 rw [rl] at P
 exact P
theorem viewH_any (h : (heO a hp).J F S w) (hq : S.q.length <= 90000) :
  Calls Tryz.prog 23 #[.pointer (some ⟨a.pw, 0, none⟩)] w fun e w' => ∃ r2 d2 na nn nc, e = .returned (.agg #[.slice r2 12 d2, .slice na nn nc]) /\ Lp w' r2 (vwL a.N S.s.y S.s.g S.s.ws S.q S.s.rs).1 /\ Ln w' na (vwL a.N S.s.y S.s.g S.s.ws S.q S.s.rs).2.2 /\ nn = (vwL a.N S.s.y S.s.g S.s.ws S.q S.s.rs).2.2.length /\ Below w.heap.size w w' := by
 obtain ⟨FW, h1, _⟩ := he_ws h
 exact viewS_any h1 hq
end
def hb1S : Ww := ⟨{ (bo0 16 8).1.s with rs := (bo0 16 8).1.s.rs.set 0 (ew 1 7) }, [], []⟩
def hb2S : Ww := ⟨{ hb1S.s with y := hb1S.s.y + 3, ws := putF hb1S.s.rs hb1S.s.y (mkW 16 hb1S.s.y 1 2 hb1S.s.ws) [0, 0] 2 }, [], []⟩
def hb3S : Ww := ⟨{ hb2S.s with rs := hb2S.s.rs.set 1 (ew 3 0) }, [], []⟩
theorem hb_code : fcC 16 hb3S.s.y hb3S.s.g hb3S.s.ws (hb3S.s.rs.getD 1 0) 2 = 1 := by decide +kernel
theorem hb_view : (vwL 16 hb3S.s.y hb3S.s.g hb3S.s.ws hb3S.q hb3S.s.rs).2.2 = [(1, [(1, 7), (1, 7)])] := by decide +kernel
theorem hb_vc : vc 1 7 = 0 := by decide
theorem run_nodesH (x y : Value) (w : World) : Sem.run Tryz.prog (Instr.field 52 (.agg #[x, y]) 1) w = .ok y w := by
 unfold Instr.field
 simp [go_sem]
 rfl
theorem heapBegun_any (w : World) : Calls Tryz.prog 27 #[] w fun e w' => e = .returned (.bool true) /\ Below w.heap.size w w' := by
 go_enter Tryz.func27, Tryz.ntmps27
 go_wp2_with fail
 refine (newH_yes 16 8 w (by omega) (by omega) (by omega)).mono ?_
 rintro e w1 ⟨a, hp, F1, rfl, j1, ⟨k1, k2⟩, g1, b1⟩
 have hba := (Below.refl w1.heap.size w1).alloc (Nat.le_refl _) (.cells #[.int .i64 0, .int .i64 0] 28)
 have D1 : Calls Tryz.prog 30 #[.pointer (some ⟨hp, 0, none⟩), .agg #[.int .i64 1, .int .i64 0, .int .i64 0, .int .i64 0, .int .i64 0, .int .i64 7]] (w1.alloc (.cells #[.int .i64 0, .int .i64 0] 28)) fun e w' => ∃ F', e = .returned (.int .i64 0) /\ (heO a hp).J F' hb1S w' /\ Tn F1 (w1.alloc (.cells #[.int .i64 0, .int .i64 0] 28)) F' w' := doH_int ((heO a hp).below j1 hba) 0 (by omega) 7 hb_vc
 have HB : Hid ((∀ b, F1 b -> w.heap.size <= b) /\ Below w.heap.size w (w1.alloc (.cells #[.int .i64 0, .int .i64 0] 28)) /\ a.N = 16) := ⟨g1, b1.trans (hba.mono b1.size), k1⟩
 clear j1 k1 k2 g1 b1 hba
 go_wp2_with fail
 generalize w1.alloc (.cells #[.int .i64 0, .int .i64 0] 28) = w2 at *
 refine D1.mono ?_
 clear D1
 rintro e w3 ⟨F3, rfl, j3, t3⟩
 have HB3 : Hid ((∀ b, F3 b -> w.heap.size <= b) /\ Below w.heap.size w w3) := ⟨fun b d => (t3.sub b d).elim (HB.out.1 b) (fun d => Nat.le_trans HB.out.2.1.size d), HB.out.2.1.trans (t3.fr.below HB.out.2.1.size HB.out.1)⟩
 have eN := HB.out.2.2
 have D2 : Calls Tryz.prog 30 #[.pointer (some ⟨hp, 0, none⟩), .agg #[.int .i64 4, .int .i64 1, .int .i64 0, .int .i64 0, .int .i64 0, .int .i64 0]] w3 fun e w' => ∃ F', e = .returned (.int .i64 0) /\ (heO a hp).J F' hb3S w' /\ Tn F3 w3 F' w' := by
  refine doH_root j3 4 1 0 0 0 0 (by omega) (ck_pair 1 0 0 (by omega) (by omega) (by omega)) (by omega) (by omega) (by omega) (by omega) (ew 3 0) hb2S (fun F' w' hJ => ?_)
  have P := rootH_pair hJ 1 0 0 (by omega) (by omega) (by rw [eN]; decide)
  rw [eN] at P
  exact P
 have HN : Hid (a.N = 16) := eN
 clear j3 t3 HB eN
 go_wp2_with fail
 refine D2.mono ?_
 clear D2
 rintro e w4 ⟨F4, rfl, j4, t4⟩
 have HB4 : Hid ((∀ b, F4 b -> w.heap.size <= b) /\ Below w.heap.size w w4) := ⟨fun b d => (t4.sub b d).elim (HB3.out.1 b) (fun d => Nat.le_trans HB3.out.2.size d), HB3.out.2.trans (t4.fr.below HB3.out.2.size HB3.out.1)⟩
 have D3 : Calls Tryz.prog 30 #[.pointer (some ⟨hp, 0, none⟩), .agg #[.int .i64 11, .int .i64 2, .int .i64 1, .int .i64 0, .int .i64 2, .int .i64 0]] w4 fun e w' => e = .returned (.int .i64 1) /\ Below w4.heap.size w4 w' := by
  refine doH_code j4 11 2 1 0 2 0 (ck_get 2 1 (by omega) (by omega)) (by omega) (by omega) (by omega) (by omega) 0 1 (by omega) (fun F' w' hJ => ?_)
  have P := rootH_get hJ 2 2 1 (by omega)
  rw [HN.out, hb_code, if_neg (by omega)] at P
  exact P
 have HJ4 : Hid ((heO a hp).J F4 hb3S w4) := j4
 clear j4 t4 HB3
 go_wp2_with fail
 refine D3.mono ?_
 clear D3
 rintro e w5 ⟨rfl, hb5⟩
 have J5 := (heO a hp).below HJ4.out hb5
 have P := viewH_any J5 (by decide)
 rw [HN.out, hb_view] at P
 obtain ⟨h0, _⟩ := he_lk J5
 have HB5 : Hid (Below w.heap.size w w5) := HB4.out.2.trans (hb5.mono HB4.out.2.size)
 clear J5 hb5 HJ4 HB4
 go_wp2_with fail
 refine P.mono ?_
 clear P
 rintro e w6 ⟨r2, d2, na, nn, nc, rfl, _, hn6, rfl, hb6⟩
 obtain ⟨b, o, fa, fc, e1, lb, x1, x2, x3⟩ := hn6.at (i := 0) (by decide)
 subst e1
 have x2 : w6.cell? ⟨b, o + 0 * 2 + 1, none⟩ = some (.slice fa 2 fc) := x2
 have x3 : Lp w6 fa [(1, 7), (1, 7)] := x3
 obtain ⟨b2, o2, e2, lb2, hc2⟩ := x3 (by decide)
 subst e2
 have x4 : w6.cell? ⟨b2, o2 + 0 * 2 + 1, none⟩ = some (.int .i64 7) := (hc2 0 (by decide)).2
 rw [show o + 0 * 2 + 1 = o + 1 by omega] at x2
 rw [show o2 + 0 * 2 + 1 = o2 + 1 by omega] at x4
 have HB6 : Hid (Below w.heap.size w w6) := HB5.out.trans (hb6.mono HB5.out.size)
 have hrn := run_nodesH (.slice r2 12 d2) (.slice (some ⟨b, o, none⟩) 1 nc)
 have U := usesH_any 9 w6
 rw [show usK 9 = 6 from rfl] at U
 clear hn6 hb6 hc2 HB5 x1
 go_wp2_with fail
 refine U.mono ?_
 rintro e w7 ⟨rfl, rfl⟩
 go_wp2_with fail
 go_ret
 exact ⟨rfl, HB6.out⟩
end Go.Proofs.YtalgochmjddodaaGreat

namespace Go.Proofs.YtalgochmjddodaaGreat
set_option maxRecDepth 100000
set_option maxHeartbeats 1000000
open Go.RowKit W Kp Stl
def LpN (w : World) (base : Nat) (ad : Option Addr) (l : List (Int × Int)) : Prop := Lp w ad l /\ (0 < l.length -> ∃ b o, ad = some ⟨b, o, none⟩ /\ base <= b)
def LnN (w : World) (base : Nat) (ad : Option Addr) (ns : List (Int × List (Int × Int))) : Prop :=
 ∃ m : List Vnd, nds m = ns /\ (∀ x ∈ m, Lp w x.2.1 x.2.2.2) /\ (∀ k, Fb m k -> base <= k) /\ (0 < m.length -> ∃ b o, ad = some ⟨b, o, none⟩ /\ base <= b /\ b < w.heap.size /\ ∀ i x, m[i]? = some x -> w.cell? ⟨b, o + i * 2, none⟩ = some (.int .i64 x.1) /\ w.cell? ⟨b, o + i * 2 + 1, none⟩ = some (.slice x.2.1 x.2.2.2.length x.2.2.1))
theorem LnN.ln {w : World} {base : Nat} {ad : Option Addr} {ns : List (Int × List (Int × Int))} (h : LnN w base ad ns) : Ln w ad ns := by
 obtain ⟨m, h1, h2, _, h4⟩ := h
 exact ⟨m, h1, h2, fun hp => by
  obtain ⟨b, o, e, _, l, c⟩ := h4 hp
  exact ⟨b, o, e, l, c⟩⟩
section
variable {w : World} {pw p q N O y g : Nat} {ws : List Int} {sd : Nat} {v0 : Value} {a1 : Option Addr} {k1 : Nat} {Q : List En} {l : List Int} {ra : Option Addr} {rc : Nat}
theorem view_new (hq : Wq w pw p q N O y g ws sd v0 a1 k1 Q) (c3 : w.cell? ⟨pw, 3, none⟩ = some (.slice ra l.length rc)) (hl : Lq w ra l) (hm : l.length <= 100000) :
  Calls Tryz.prog 23 #[.pointer (some ⟨pw, 0, none⟩)] w fun e w' => ∃ r2 d2 na nn nc, e = .returned (.agg #[.slice r2 l.length d2, .slice na nn nc]) /\ LpN w' w.heap.size r2 (vwL N y g ws Q l).1 /\ LnN w' w.heap.size na (vwL N y g ws Q l).2.2 /\ nn = (vwL N y g ws Q l).2.2.length /\ Below w.heap.size w w' := by
 have ba := (Below.refl w.heap.size w).alloc (Nat.le_refl _) (.cells #[.slice none 0 0, .slice none 0 0] 52)
 have hr0 := heap_alloc_new w (.cells #[.slice none 0 0, .slice none 0 0] 52)
 have hq0 := hq.low ba
 have hl0 := hl.kf (Kf.of (B := 0) ba)
 have lpw := World.block_lt_of_cell? w _ c3
 have c30 := (ba.cell (p := ⟨pw, 3, none⟩) lpw).trans c3
 have lpw0 : pw < (w.alloc (.cells #[.slice none 0 0, .slice none 0 0] 52)).heap.size := Nat.lt_of_lt_of_le lpw ba.size
 have lr0 : w.heap.size < (w.alloc (.cells #[.slice none 0 0, .slice none 0 0] 52)).heap.size := by simp
 have P := newWalk_any hq0.c0 hq0.ar
 have k1' := hq.ar.hN'
 have k2' := hq.ar.hy
 have k3' := hq.ar.hO
 have k4' := hq.ar.hg
 have hTb : ∀ a ∈ thY N y g ws ++ thO N y g ws, 0 <= a /\ a < 2000 := fun a ha => by
  rcases List.mem_append.1 ha with ha | ha
  ·have := thY_bd a ha; omega
  ·have := thO_bd a ha; omega
 have hTl : (thY N y g ws ++ thO N y g ws).length <= 100000 := by
  have h1 : (thY N y g ws).length <= 2000 := ths_le _ _
  have h2 : (thO N y g ws).length <= 2000 := ths_le _ _
  simp
  omega
 have KV : Hid (∀ (kb mq : Nat) (w1 : World), Wk (w.alloc (.cells #[.slice none 0 0, .slice none 0 0] 52)) w1 kb mq pw (thY N y g ws ++ thO N y g ws) ([], []) (.slice none 0 0) [] -> Calls Tryz.prog 82 #[.pointer (some ⟨kb, 0, none⟩), .slice ra l.length rc] w1 fun e w' => ∃ vn' m' a2 c2, e = .returned (.slice a2 l.length c2) /\ w'.ownsRow w1.heap.size 95 2 (.slice a2 l.length c2) l.length (ev (vwL N y g ws Q l).1) /\ Wk (w.alloc (.cells #[.slice none 0 0, .slice none 0 0] 52)) w' kb mq pw (thY N y g ws ++ thO N y g ws) (vwL N y g ws Q l).2 vn' m' /\ Kv (w.alloc (.cells #[.slice none 0 0, .slice none 0 0] 52)) w1 [] w' m' /\ (∀ k, Fb m' k -> some k ≠ (Value.slice a2 l.length c2).ownBlock)) :=
  fun kb mq w1 h1 => values_any (meet_any hq0 hTb hTl _) (met_go _) h1 (VOk.start _) (by simp) l ra rc (hl0.kf (Kf.of (B := 0) h1.bel)) hm
 have hvl : Hid ((vwL N y g ws Q l).1.length = l.length) := vls_len _ _ _ _
 clear hq hq0 hl hl0 k1' k2' k3' k4' hTb hTl c3
 generalize vwL N y g ws Q l = R at *
 obtain ⟨V, s⟩ := R
 generalize thY N y g ws ++ thO N y g ws = T at *
 dsimp only at *
 go_enter Tryz.func23, Tryz.ntmps23
 go_wp2_with fail
 refine P.mono ?_
 clear P
 rintro e w1 ⟨kb, mq, rfl, h1⟩
 have x3 := (h1.bel.cell (p := ⟨pw, 3, none⟩) lpw0).trans c30
 have H1 : Hid (_) := h1
 clear h1
 go_wp2_with fail
 refine (KV.out kb mq w1 H1.out).mono ?_
 clear KV
 rintro e w2 ⟨vn, m, a2, c2, rfl, hr2, hW2, hK2, _⟩
 obtain ⟨na, nc, e2⟩ := row_slice hW2.row
 subst e2
 have z2 := hW2.cells.2.2.1
 have hb2 := ba.trans (hW2.bel.mono ba.size)
 have hr3 := (hW2.bel.block _ lr0).trans hr0
 have y0 : w2.cell? ⟨w.heap.size, 0, none⟩ = some (.slice none 0 0) := by simp [World.cell?, hr3]
 have y1 : w2.cell? ⟨w.heap.size, 1, none⟩ = some (.slice none 0 0) := by simp [World.cell?, hr3]
 have f0 : w2.frozen? ⟨w.heap.size, 0, none⟩ = false := by simp [World.frozen?, hr3]
 have f1 : w2.frozen? ⟨w.heap.size, 1, none⟩ = false := by simp [World.frozen?, hr3]
 have l2 : w.heap.size < w2.heap.size := lt_of_some hr3
 have HW2 : Hid (_ /\ _) := ⟨hW2, hr2⟩
 have hml : Hid (m.length = s.2.length) := hW2.len
 have HB2 : Hid (_) := hb2
 have HR3 : Hid (_ = _) := hr3
 have hs1 : w.heap.size <= w1.heap.size := by
  have := H1.out.bel.size
  simp at this
  omega
 have HFB : Hid (∀ k, Fb m k -> w.heap.size <= k) := fun k hk => (hK2.2 k hk).elim (fun ⟨x, hx, _⟩ => by cases hx) (fun d => Nat.le_trans hs1 d)
 clear hW2 hr2 hK2 hb2 hr3 ba hr0 x3 c30 H1
 go_wp2_with fail
 obtain ⟨W0, hW0⟩ : ∃ W0, W0 = (w2.setCell ⟨w.heap.size, 0, none⟩ (.slice a2 l.length c2)).setCell ⟨w.heap.size, 1, none⟩ (.slice na m.length nc) := ⟨_, rfl⟩
 rw [<- hW0]
 have g0 : W0.cell? ⟨w.heap.size, 0, none⟩ = some (.slice a2 l.length c2) := by
  rw [hW0, World.cell?_setCell_other _ _ _ _ (by simp)]
  exact World.cell?_setCell_same _ _ _ y0
 have g1 : W0.cell? ⟨w.heap.size, 1, none⟩ = some (.slice na m.length nc) := by
  rw [hW0]
  exact World.cell?_setCell_same _ _ _ ((World.cell?_setCell_other w2 ⟨w.heap.size, 0, none⟩ ⟨w.heap.size, 1, none⟩ _ (by simp)).trans y1)
 have hF : Fr (fun k => k = w.heap.size) w2 W0 := by rw [hW0]; exact ((Fr.refl (fun k => k = w.heap.size) w2).set w.heap.size 0 _ rfl).set w.heap.size 1 _ rfl
 clear hW0
 obtain ⟨hW2, hr2⟩ := HW2.out
 have eL : ∀ {ad : Option Addr} {L : List (Int × Int)}, Lv w2 ad L -> Lp W0 ad L := fun {ad L} h => h.1.keep hF.size (fun hp b e => by
  obtain ⟨b0, o0, cs, e0, hb⟩ := h.2 hp
  rw [e0] at e
  cases e
  refine hF.block _ (lt_of_some hb) (fun c => ?_)
  have c : b0 = w.heap.size := c
  rw [c, HR3.out] at hb
  simp at hb)
 refine bodyPost_ret (v := .agg #[.slice a2 l.length c2, .slice na m.length nc]) (by simp [results, Tryz.results23, go_sem, g0, g1]) rfl ⟨a2, c2, na, m.length, nc, rfl, ⟨eL (Lv.of (by rw [hvl.out]; exact hr2)), fun hp => ?_⟩, ⟨m, hW2.nd, fun x hx => eL (hW2.fl x hx), HFB.out, fun hp => ?_⟩, hml.out, HB2.out.trans (hF.below (Nat.le_of_lt l2) (fun k e => Nat.le_of_eq (Eq.symm e)))⟩
 ·obtain ⟨b, cap, e⟩ := row_shape hr2 (by rw [<- hvl.out]; exact hp)
  cases e
  exact ⟨b, 0, rfl, Nat.le_trans hs1 (row_lt hr2 b rfl).1⟩
 obtain ⟨b, cap, e⟩ := row_shape hW2.row hp
 cases e
 have hbs := (row_lt hW2.row b rfl).1
 simp at hbs
 obtain ⟨cur, hcur⟩ := row_type hW2.row b rfl
 have hne : b ≠ w.heap.size := fun c => by
  rw [c, HR3.out] at hcur
  simp at hcur
 refine ⟨b, 0, rfl, by omega, Nat.lt_of_lt_of_le (lt_of_some hcur) hF.size, fun i x hx => ?_⟩
 obtain ⟨n1, n2⟩ := nv_get m i x hx
 rw [Nat.zero_add]
 exact ⟨(World.cell?_of_block (a := ⟨b, i * 2, none⟩) (hF.block b (lt_of_some hcur) hne)).trans (row_cell hW2.row n1).1, (World.cell?_of_block (a := ⟨b, i * 2 + 1, none⟩) (hF.block b (lt_of_some hcur) hne)).trans (row_cell hW2.row n2).1⟩
end
end Go.Proofs.YtalgochmjddodaaGreat

namespace Go.Proofs.YtalgochmjddodaaGreat
set_option maxRecDepth 100000
set_option maxHeartbeats 1000000
open Go.RowKit W Kp Stl
section
variable {a : Wc} {hp : Nat} {F : Nat -> Prop} {S : Ww} {w : World}
theorem viewH_new (h : (heO a hp).J F S w) (hq : S.q.length <= 90000) :
  Calls Tryz.prog 23 #[.pointer (some ⟨a.pw, 0, none⟩)] w fun e w' => ∃ r2 d2 na nc, e = .returned (.agg #[.slice r2 12 d2, .slice na (vwL a.N S.s.y S.s.g S.s.ws S.q S.s.rs).2.2.length nc]) /\ LpN w' w.heap.size r2 (vwL a.N S.s.y S.s.g S.s.ws S.q S.s.rs).1 /\ LnN w' w.heap.size na (vwL a.N S.s.y S.s.g S.s.ws S.q S.s.rs).2.2 /\ Below w.heap.size w w' := by
 obtain ⟨FW, h1, _⟩ := he_ws h
 obtain ⟨F0, g1, _⟩ := ws_wod h1
 obtain ⟨c0, _, c2, c3, _, rl, _, cr9⟩ := wod_cells g1
 have ha := (wod_arena g1).1
 obtain ⟨F0', ar, cr, ⟨F00, ad, cap, ⟨own, pq, hM, hO⟩, d2, d3, d4, _⟩, r0, r1, hFW⟩ := h1
 have hl : Lq w (some ⟨a.nb, 0, none⟩) S.s.rs := by
  have hr := hM.rt
  refine ⟨fun _ => ⟨a.nb, 0, rfl, lt_of_some hr, fun i hi => ?_⟩, fun _ => ⟨a.nb, 0, _, rfl, hr⟩⟩
  rw [Nat.zero_add]
  exact (cr9 i (by rw [<- rl]; exact hi)).1
 have P := view_new (l := S.s.rs) (ra := some ⟨a.nb, 0, none⟩) (rc := 12) ⟨c0, c2, ha, d2, row_pairs d3, hq⟩ (by rw [rl]; exact c3) hl (by rw [rl]; decide)
 rw [rl] at P
 refine P.mono ?_
 rintro e w' ⟨r2, d2, na, nn, nc, rfl, q1, q2, rfl, q4⟩
 exact ⟨r2, d2, na, nc, rfl, q1, q2, q4⟩
theorem usedH_any (h : (heO a hp).J F S w) : Calls Tryz.prog 24 #[.pointer (some ⟨a.p, 0, none⟩)] w fun e w' => e = .returned (.tuple #[.int .i64 S.s.y, .int .i64 S.s.g]) /\ Below w.heap.size w w' :=
 used_any w (he_at h).1
theorem newH_no (n o : Int) (w : World) (h : n < 16 \/ 256 < n \/ o < 0 \/ 1024 < o) :
  Calls Tryz.prog 28 #[.int .i64 n, .int .i64 o] w fun e w' => e = .returned (.tuple #[.pointer none, .agg #[.int .i64 1, .int .i64 (-1)]]) /\ Below w.heap.size w w' := by
 have hba := (Below.refl w.heap.size w).alloc (Nat.le_refl _) (.cells #[.int .i64 0, .int .i64 0] 28)
 have hr0 := heap_alloc_new w (.cells #[.int .i64 0, .int .i64 0] 28)
 have P := newW_no n o (w.alloc (.cells #[.int .i64 0, .int .i64 0] 28)) h
 clear h
 go_enter Tryz.func28, Tryz.ntmps28
 go_wp2_with fail
 refine P.mono ?_
 clear P
 rintro e w1 ⟨rfl, hb1⟩
 have hr1 := (hb1.block w.heap.size (by simp)).trans hr0
 have hB1 := hba.trans (hb1.mono (by simp))
 have hs1 := hb1.size
 simp at hs1
 have y0 : w1.cell? ⟨w.heap.size, 0, none⟩ = some (.int .i64 0) := by simp [World.cell?, hr1]
 have y1 : w1.cell? ⟨w.heap.size, 1, none⟩ = some (.int .i64 0) := by simp [World.cell?, hr1]
 have f0 : w1.frozen? ⟨w.heap.size, 0, none⟩ = false := by simp [World.frozen?, hr1]
 have f1 : w1.frozen? ⟨w.heap.size, 1, none⟩ = false := by simp [World.frozen?, hr1]
 have l1 : w.heap.size < w1.heap.size := by omega
 have hne : ¬ w.heap.size = w1.heap.size := by omega
 have hne2 : ¬ w1.heap.size = w.heap.size := by omega
 clear hb1 hr0 hba hr1
 go_wp2_with fail
 go_region_law (fail)
 all_goals
  obtain ⟨W0, hW0⟩ : ∃ W0, W0 = (w1.setCell ⟨w.heap.size, 0, none⟩ (.int .i64 1)).setCell ⟨w.heap.size, 1, none⟩ (.int .i64 (-1)) := ⟨_, rfl⟩
  rw [<- hW0]
  have sz0 : W0.heap.size = w1.heap.size := by rw [hW0]; simp [World.setCell]
  have g0 : W0.cell? ⟨w.heap.size, 0, none⟩ = some (.int .i64 1) := by
   rw [hW0, World.cell?_setCell_other _ _ _ _ (by simp)]
   exact World.cell?_setCell_same _ _ _ y0
  have g1 : W0.cell? ⟨w.heap.size, 1, none⟩ = some (.int .i64 (-1)) := by
   rw [hW0]
   exact World.cell?_setCell_same _ _ _ ((World.cell?_setCell_other w1 ⟨w.heap.size, 0, none⟩ ⟨w.heap.size, 1, none⟩ _ (by simp)).trans y1)
  have hF0 : Below w.heap.size w W0 := by
   rw [hW0]
   exact hB1.trans ((((Fr.refl (fun k => k = w.heap.size) w1).set w.heap.size 0 _ rfl).set w.heap.size 1 _ rfl).below (Nat.le_of_lt l1) (fun x e => by have e : x = w.heap.size := e; omega))
  have hbN := ((Below.refl W0.heap.size W0).alloc (Nat.le_refl _) (.cells #[.int .i64 1, .int .i64 (-1)] 28)).drew
  have r0 := (hbN.cell (p := ⟨w.heap.size, 0, none⟩) (by show w.heap.size < _; omega)).trans g0
  have r1 := (hbN.cell (p := ⟨w.heap.size, 1, none⟩) (by show w.heap.size < _; omega)).trans g1
  have hfin := hF0.trans (hbN.mono (by omega))
  clear y0 y1 f0 f1 hW0 hbN g0 g1
  generalize (W0.alloc (.cells #[.int .i64 1, .int .i64 (-1)] 28)).drew = WF at *
  go_wp2_with fail
  refine bodyPost_ret (v := .tuple #[.pointer none, .agg #[.int .i64 1, .int .i64 (-1)]]) (by simp [results, Tryz.results28, go_sem, r0, r1]) rfl ⟨rfl, hfin⟩
end
end Go.Proofs.YtalgochmjddodaaGreat
