/- Joined: He8, Wv3, Wv4, He4. -/
import Derived.Test.YtalgochmjddodaaGreatHe7
import Derived.Test.YtalgochmjddodaaGreatJ17
import Derived.Test.YtalgochmjddodaaGreatJ03
import Derived.Test.YtalgochmjddodaaGreatJ33
namespace Go.Proofs.YtalgochmjddodaaGreat
set_option maxRecDepth 100000
set_option maxHeartbeats 2000000
open Go.RowKit W Kp Stl
section
variable {a : Wc} {hp : Nat} {F : Nat -> Prop} {S : Ww} {w : World}
theorem he_wbd (h : (heO a hp).J F S w) : Wbd a S.s := by
 obtain ⟨FW, h1, _⟩ := he_ws h
 obtain ⟨F0, g1, _⟩ := ws_wod h1
 obtain ⟨_, _, _, _, _, rl, _⟩ := wod_cells g1
 have ha := (wod_arena g1).1
 exact ⟨ha.hN, ha.hN', ha.hO, ha.hy, ha.hg, ha.hl, rl⟩
theorem setH_any (h : (heO a hp).J F S w) (x i z : Int) (hM : S.s.M.length <= 100000) :
  Calls Tryz.prog 51 #[.pointer (some ⟨a.pw, 0, none⟩), .int .i64 x, .int .i64 i, .int .i64 z] w fun e w' => ∃ F', e = .returned (.int .i64 (fcC a.N S.s.y S.s.g S.s.ws x i)) /\ (heO a hp).J F' (S.set a x i z) w' /\ Tn F w F' w' := by
 obtain ⟨FW, h1, _, h3⟩ := he_ws h
 obtain ⟨F0, g1, g2⟩ := ws_wod h1
 refine (setW_any g1 x i z hM).mono ?_
 rintro e w' ⟨rfl, j1, t1⟩
 obtain ⟨F2, j2, t2⟩ := g2 _ _ _ j1 t1
 obtain ⟨F3, j3, t3⟩ := h3 _ _ _ j2 t2
 exact ⟨F3, rfl, j3, t3⟩
theorem us_root {k R A B n : Int} (hc : ckC k R A B n = 0) (k9 : k ≠ 9) (k12 : k ≠ 12) (k15 : k ≠ 15) (k16 : k ≠ 16) : usK k = 1 \/ usK k = 3 \/ usK k = 7 := by
 rcases kind_all k with d | d | d | d | d | d | d | d | d | d | d | d | d | d | d | d | d
 case' inr.inr.inr.inr.inr.inr.inr.inr.inr.inr.inr.inr.inr.inr.inr.inr =>
  have := usK_no d
  unfold ckC at hc
  rw [if_pos this] at hc
  omega
 all_goals
  first
   | (subst d; decide)
   | (exfalso; omega)
theorem doH_bad (k R A B I n : Int) (hc : ckC k R A B n ≠ 0) :
  Calls Tryz.prog 30 #[.pointer (some ⟨hp, 0, none⟩), hsV k R A B I n] w fun e w' => e = .returned (.int .i64 (ckC k R A B n)) /\ Below w.heap.size w w' := by
 have hb0 := (Below.refl w.heap.size w).alloc (Nat.le_refl _) (hsC k R A B I n)
 have PC := checkH_any k R A B I n (w.alloc (hsC k R A B I n))
 have HB : Hid (Below w.heap.size w (w.alloc (hsC k R A B I n))) := hb0
 have cb : (ckC k R A B n == 0) = false := by simpa using hc
 generalize ckC k R A B n = cd at *
 clear hb0 hc
 go_enter Tryz.func30, Tryz.ntmps30
 go_wp2_with fail
 refine PC.mono ?_
 clear PC
 rintro e w1 ⟨rfl, hb1⟩
 have hbt := HB.out.trans (hb1.mono HB.out.size)
 clear hb1
 go_wp2_with fail
 go_ret
 exact ⟨rfl, hbt⟩
theorem doH_minor (h : (heO a hp).J F S w) (R A B I n : Int) (hc : ckC 15 R A B n = 0) (hq : S.q.length + S.r.length <= 90000) :
  Calls Tryz.prog 30 #[.pointer (some ⟨hp, 0, none⟩), hsV 15 R A B I n] w fun e w' => ∃ F', e = .returned (.int .i64 (S.code a)) /\ (heO a hp).J F' (S.cut a) w' /\ Tn F w F' w' := by
 have hb0 := (Below.refl w.heap.size w).alloc (Nat.le_refl _) (hsC 15 R A B I n)
 have hx0 := heap_alloc_new w (.cells #[.int .i64 15, .int .i64 R, .int .i64 A, .int .i64 B, .int .i64 I, .int .i64 n] 65)
 have PC := checkH_any 15 R A B I n (w.alloc (hsC 15 R A B I n))
 rw [hc] at PC
 have HJ : Hid ((heO a hp).J F S w /\ Below w.heap.size w (w.alloc (hsC 15 R A B I n)) /\ (w.alloc (hsC 15 R A B I n)).heap[w.heap.size]? = some (hsC 15 R A B I n)) := ⟨h, hb0, hx0⟩
 have HPR : Hid (∀ F' w', (heO a hp).J F' S w' -> Calls Tryz.prog 16 #[.pointer (some ⟨a.pw, 0, none⟩)] w' fun e w'' => ∃ F2, e = .returned (.int .i64 (S.code a)) /\ (heO a hp).J F2 (S.cut a) w'' /\ Tn F' w' F2 w'') := fun F' w' hJ => cutH_any hJ hq
 generalize S.cut a = S2 at *
 generalize S.code a = cd at *
 clear h hb0 hc hx0
 go_enter Tryz.func30, Tryz.ntmps30
 go_wp2_with fail
 generalize w.alloc (hsC 15 R A B I n) = w0 at *
 generalize hxb : w.heap.size = xb at *
 refine PC.mono ?_
 clear PC
 rintro e w1 ⟨rfl, hb1⟩
 have hbt : Below w.heap.size w w1 := by rw [hxb]; exact HJ.out.2.1.trans (hb1.mono (by have := lt_of_some HJ.out.2.2; omega))
 obtain ⟨q0, q1, q2, q3, q4, q5⟩ := hs_cells ((hb1.block xb (lt_of_some HJ.out.2.2)).trans HJ.out.2.2)
 have J1 := (heO a hp).below HJ.out.1 hbt
 obtain ⟨h0, _⟩ := he_lk J1
 have P := HPR.out F w1 J1
 have HT : Hid (Tn F w F w1) := Tn.of hbt
 clear hb1 hbt J1 q1 q2 q3 q4 q5
 go_wp2_with fail
 refine P.mono ?_
 clear P
 rintro e w2 ⟨F2, rfl, J2, T2⟩
 have HF : Hid ((heO a hp).J F2 S2 w2 /\ Tn F w F2 w2) := ⟨J2, HT.out.trans T2⟩
 clear J2 T2
 go_wp2_with fail
 go_ret
 exact ⟨F2, rfl, HF.out.1, HF.out.2⟩
theorem doH_major (h : (heO a hp).J F S w) (R A B I n : Int) (hc : ckC 16 R A B n = 0) (hq : S.q.length + S.r.length <= 90000) (hsl : S.jfull a = false -> ∃ G, SlG (S.k5 a) (S.j5 a) G /\ G 0 (S.k5 a, 0)) :
  Calls Tryz.prog 30 #[.pointer (some ⟨hp, 0, none⟩), hsV 16 R A B I n] w fun e w' => ∃ F', e = .returned (.int .i64 (S.gcode a)) /\ (heO a hp).J F' (S.gcut a) w' /\ Tn F w F' w' := by
 have hb0 := (Below.refl w.heap.size w).alloc (Nat.le_refl _) (hsC 16 R A B I n)
 have hx0 := heap_alloc_new w (.cells #[.int .i64 16, .int .i64 R, .int .i64 A, .int .i64 B, .int .i64 I, .int .i64 n] 65)
 have PC := checkH_any 16 R A B I n (w.alloc (hsC 16 R A B I n))
 rw [hc] at PC
 have HJ : Hid ((heO a hp).J F S w /\ Below w.heap.size w (w.alloc (hsC 16 R A B I n)) /\ (w.alloc (hsC 16 R A B I n)).heap[w.heap.size]? = some (hsC 16 R A B I n)) := ⟨h, hb0, hx0⟩
 have HPR : Hid (∀ F' w', (heO a hp).J F' S w' -> Calls Tryz.prog 22 #[.pointer (some ⟨a.pw, 0, none⟩)] w' fun e w'' => ∃ F2, e = .returned (.int .i64 (S.gcode a)) /\ (heO a hp).J F2 (S.gcut a) w'' /\ Tn F' w' F2 w'') := fun F' w' hJ => gcutH_any hJ hq hsl
 generalize S.gcut a = S2 at *
 generalize S.gcode a = cd at *
 clear h hb0 hc hx0 hsl
 go_enter Tryz.func30, Tryz.ntmps30
 go_wp2_with fail
 generalize w.alloc (hsC 16 R A B I n) = w0 at *
 generalize hxb : w.heap.size = xb at *
 refine PC.mono ?_
 clear PC
 rintro e w1 ⟨rfl, hb1⟩
 have hbt : Below w.heap.size w w1 := by rw [hxb]; exact HJ.out.2.1.trans (hb1.mono (by have := lt_of_some HJ.out.2.2; omega))
 obtain ⟨q0, q1, q2, q3, q4, q5⟩ := hs_cells ((hb1.block xb (lt_of_some HJ.out.2.2)).trans HJ.out.2.2)
 have J1 := (heO a hp).below HJ.out.1 hbt
 obtain ⟨h0, _⟩ := he_lk J1
 have P := HPR.out F w1 J1
 have HT : Hid (Tn F w F w1) := Tn.of hbt
 clear hb1 hbt J1 q1 q2 q3 q4 q5
 go_wp2_with fail
 refine P.mono ?_
 clear P
 rintro e w2 ⟨F2, rfl, J2, T2⟩
 have HF : Hid ((heO a hp).J F2 S2 w2 /\ Tn F w F2 w2) := ⟨J2, HT.out.trans T2⟩
 clear J2 T2
 go_wp2_with fail
 go_ret
 exact ⟨F2, rfl, HF.out.1, HF.out.2⟩
theorem doH_reg (h : (heO a hp).J F S w) (R I n : Int) (A B : Nat) (hA : A < 12) (hB : B < 12) (hc : ckC 9 R A B n = 0) (hr : S.r.length <= 90000) (hq : S.q.length <= 90000) :
  Calls Tryz.prog 30 #[.pointer (some ⟨hp, 0, none⟩), hsV 9 R A B I n] w fun e w' => ∃ F', e = .returned (.int .i64 (S.reg a (S.s.rs.getD A 0) (S.s.rs.getD B 0)).1) /\ (heO a hp).J F' (S.reg a (S.s.rs.getD A 0) (S.s.rs.getD B 0)).2 w' /\ Tn F w F' w' := by
 have hb0 := (Below.refl w.heap.size w).alloc (Nat.le_refl _) (hsC 9 R A B I n)
 have hx0 := heap_alloc_new w (.cells #[.int .i64 9, .int .i64 R, .int .i64 (A : Int), .int .i64 (B : Int), .int .i64 I, .int .i64 n] 65)
 have PC := checkH_any 9 R A B I n (w.alloc (hsC 9 R A B I n))
 rw [hc] at PC
 have HJ : Hid ((heO a hp).J F S w /\ Below w.heap.size w (w.alloc (hsC 9 R A B I n)) /\ (w.alloc (hsC 9 R A B I n)).heap[w.heap.size]? = some (hsC 9 R A B I n) /\ ¬ F w.heap.size) := ⟨h, hb0, hx0, fun d => by have := (heO a hp).lt h _ d; omega⟩
 have i0 : (0 : Int) <= (A : Int) := by omega
 have i1 : (A : Int) < 12 := by omega
 have i2 : (0 : Int) <= (B : Int) := by omega
 have i3 : (B : Int) < 12 := by omega
 have HPR : Hid (∀ F' w', (heO a hp).J F' S w' -> Calls Tryz.prog 86 #[.pointer (some ⟨hp, 0, none⟩), .int .i64 (S.s.rs.getD A 0), .int .i64 (S.s.rs.getD B 0)] w' fun e w'' => ∃ F2, e = .returned (.int .i64 (S.reg a (S.s.rs.getD A 0) (S.s.rs.getD B 0)).1) /\ (heO a hp).J F2 (S.reg a (S.s.rs.getD A 0) (S.s.rs.getD B 0)).2 w'' /\ Tn F' w' F2 w'') := fun F' w' hJ => registerH_any hJ _ _ hr hq
 have HRS : Hid ((S.reg a (S.s.rs.getD A 0) (S.s.rs.getD B 0)).2.s.rs = S.s.rs) := reg_rs a S _ _
 generalize S.reg a (S.s.rs.getD A 0) (S.s.rs.getD B 0) = g at *
 obtain ⟨cd, S2⟩ := g
 dsimp only at *
 clear h hb0 hc hx0
 go_enter Tryz.func30, Tryz.ntmps30
 go_wp2_with fail
 generalize w.alloc (hsC 9 R A B I n) = w0 at *
 generalize hxb : w.heap.size = xb at *
 refine PC.mono ?_
 clear PC
 rintro e w1 ⟨rfl, hb1⟩
 have hbt : Below w.heap.size w w1 := by rw [hxb]; exact HJ.out.2.1.trans (hb1.mono (by have := lt_of_some HJ.out.2.2.1; omega))
 have hx1 := (hb1.block xb (lt_of_some HJ.out.2.2.1)).trans HJ.out.2.2.1
 obtain ⟨q0, q1, q2, q3, q4, q5⟩ := hs_cells hx1
 have J1 := (heO a hp).below HJ.out.1 hbt
 obtain ⟨h0, c0, c3, rt, _⟩ := he_lk J1
 obtain ⟨r1, _⟩ := rt A hA
 obtain ⟨r2, _⟩ := rt B hB
 have J2 := (heO a hp).below J1 (Below.refl _ w1).drew
 have P := HPR.out F w1.drew J2
 have HT : Hid (Tn F w F w1.drew) := (Tn.of hbt).below (Below.refl _ w1).drew
 have lx := lt_of_some hx1
 have HR : Hid (∀ F' w' S', (heO a hp).J F' S' w' -> Tn F w1.drew F' w' -> S'.s.rs = S.s.rs -> (w'.cell? ⟨hp, 0, none⟩ = some (.pointer (some ⟨a.pw, 0, none⟩)) /\ w'.cell? ⟨a.pw, 3, none⟩ = some (.slice (some ⟨a.nb, 0, none⟩) 12 12) /\ w'.cell? ⟨a.nb, A, none⟩ = some (.int .i64 (S.s.rs.getD A 0)) /\ w'.cell? ⟨a.nb, B, none⟩ = some (.int .i64 (S.s.rs.getD B 0))) /\ w'.cell? ⟨xb, 2, none⟩ = some (.int .i64 (A : Int)) /\ w'.cell? ⟨xb, 3, none⟩ = some (.int .i64 (B : Int))) := fun F' w' S' j t es => by
  obtain ⟨g0, _, g3, grt, _⟩ := he_lk j
  rw [es] at grt
  exact ⟨⟨g0, g3, (grt A hA).1, (grt B hB).1⟩, (World.cell?_of_block (a := ⟨xb, 2, none⟩) (t.fr.block xb lx HJ.out.2.2.2)).trans q2, (World.cell?_of_block (a := ⟨xb, 3, none⟩) (t.fr.block xb lx HJ.out.2.2.2)).trans q3⟩
 clear hb1 hbt J1 J2 rt hx1
 have HX : Hid (S.s.rs.getD A 0 = S.s.rs.getD A 0) := rfl
 generalize S.s.rs.getD A 0 = x at *
 generalize S.s.rs.getD B 0 = y at *
 go_wp2_with fail
 go_region_held3 (fun w' => w'.cell? ⟨hp, 0, none⟩ = some (.pointer (some ⟨a.pw, 0, none⟩)) /\ w'.cell? ⟨a.pw, 3, none⟩ = some (.slice (some ⟨a.nb, 0, none⟩) 12 12) /\ w'.cell? ⟨a.nb, A, none⟩ = some (.int .i64 x) /\ w'.cell? ⟨a.nb, B, none⟩ = some (.int .i64 y) /\ w'.cell? ⟨xb, 2, none⟩ = some (.int .i64 (A : Int)) /\ w'.cell? ⟨xb, 3, none⟩ = some (.int .i64 (B : Int))) (go_keep)
  (first
   | (go_at_call 86; refine P.mono ?_; clear P; rintro e w2 ⟨F2, rfl, j2, t2⟩; obtain ⟨⟨g0, g3, gr, gs⟩, gx2, gx3⟩ := HR.out F2 w2 _ j2 t2 HRS.out; have HF : Hid ((heO a hp).J F2 S2 w2 /\ Tn F w F2 w2) := ⟨j2, HT.out.trans t2⟩; clear j2 t2))
 go_wp2_with fail
 go_ret
 exact ⟨F2, rfl, HF.out.1, HF.out.2⟩
theorem doH_set (h : (heO a hp).J F S w) (R I n : Int) (A B : Nat) (hA : A < 12) (hB : B < 12) (hc : ckC 12 R A B n = 0) (hM : S.s.M.length <= 100000) :
  Calls Tryz.prog 30 #[.pointer (some ⟨hp, 0, none⟩), hsV 12 R A B I n] w fun e w' => ∃ F', e = .returned (.int .i64 (fcC a.N S.s.y S.s.g S.s.ws (S.s.rs.getD A 0) I)) /\ (heO a hp).J F' (S.set a (S.s.rs.getD A 0) I (S.s.rs.getD B 0)) w' /\ Tn F w F' w' := by
 have hb0 := (Below.refl w.heap.size w).alloc (Nat.le_refl _) (hsC 12 R A B I n)
 have hx0 := heap_alloc_new w (.cells #[.int .i64 12, .int .i64 R, .int .i64 (A : Int), .int .i64 (B : Int), .int .i64 I, .int .i64 n] 65)
 have PC := checkH_any 12 R A B I n (w.alloc (hsC 12 R A B I n))
 rw [hc] at PC
 have HJ : Hid ((heO a hp).J F S w /\ Below w.heap.size w (w.alloc (hsC 12 R A B I n)) /\ (w.alloc (hsC 12 R A B I n)).heap[w.heap.size]? = some (hsC 12 R A B I n) /\ ¬ F w.heap.size) := ⟨h, hb0, hx0, fun d => by have := (heO a hp).lt h _ d; omega⟩
 have i0 : (0 : Int) <= (A : Int) := by omega
 have i1 : (A : Int) < 12 := by omega
 have i2 : (0 : Int) <= (B : Int) := by omega
 have i3 : (B : Int) < 12 := by omega
 have HPR : Hid (∀ F' w', (heO a hp).J F' S w' -> Calls Tryz.prog 51 #[.pointer (some ⟨a.pw, 0, none⟩), .int .i64 (S.s.rs.getD A 0), .int .i64 I, .int .i64 (S.s.rs.getD B 0)] w' fun e w'' => ∃ F2, e = .returned (.int .i64 (fcC a.N S.s.y S.s.g S.s.ws (S.s.rs.getD A 0) I)) /\ (heO a hp).J F2 (S.set a (S.s.rs.getD A 0) I (S.s.rs.getD B 0)) w'' /\ Tn F' w' F2 w'') := fun F' w' hJ => setH_any hJ _ _ _ hM
 have HRS : Hid ((S.set a (S.s.rs.getD A 0) I (S.s.rs.getD B 0)).s.rs = S.s.rs) := rfl
 generalize S.set a (S.s.rs.getD A 0) I (S.s.rs.getD B 0) = S2 at *
 generalize fcC a.N S.s.y S.s.g S.s.ws (S.s.rs.getD A 0) I = cd at *
 clear h hb0 hc hx0
 go_enter Tryz.func30, Tryz.ntmps30
 go_wp2_with fail
 generalize w.alloc (hsC 12 R A B I n) = w0 at *
 generalize hxb : w.heap.size = xb at *
 refine PC.mono ?_
 clear PC
 rintro e w1 ⟨rfl, hb1⟩
 have hbt : Below w.heap.size w w1 := by rw [hxb]; exact HJ.out.2.1.trans (hb1.mono (by have := lt_of_some HJ.out.2.2.1; omega))
 have hx1 := (hb1.block xb (lt_of_some HJ.out.2.2.1)).trans HJ.out.2.2.1
 obtain ⟨q0, q1, q2, q3, q4, q5⟩ := hs_cells hx1
 have J1 := (heO a hp).below HJ.out.1 hbt
 obtain ⟨h0, c0, c3, rt, _⟩ := he_lk J1
 obtain ⟨r1, _⟩ := rt A hA
 obtain ⟨r2, _⟩ := rt B hB
 have J2 := (heO a hp).below J1 (Below.refl _ w1).drew
 have P := HPR.out F w1.drew J2
 have HT : Hid (Tn F w F w1.drew) := (Tn.of hbt).below (Below.refl _ w1).drew
 have lx := lt_of_some hx1
 have HR : Hid (∀ F' w' S', (heO a hp).J F' S' w' -> Tn F w1.drew F' w' -> S'.s.rs = S.s.rs -> (w'.cell? ⟨hp, 0, none⟩ = some (.pointer (some ⟨a.pw, 0, none⟩)) /\ w'.cell? ⟨a.pw, 3, none⟩ = some (.slice (some ⟨a.nb, 0, none⟩) 12 12) /\ w'.cell? ⟨a.nb, A, none⟩ = some (.int .i64 (S.s.rs.getD A 0)) /\ w'.cell? ⟨a.nb, B, none⟩ = some (.int .i64 (S.s.rs.getD B 0))) /\ w'.cell? ⟨xb, 2, none⟩ = some (.int .i64 (A : Int)) /\ w'.cell? ⟨xb, 3, none⟩ = some (.int .i64 (B : Int)) /\ w'.cell? ⟨xb, 4, none⟩ = some (.int .i64 I)) := fun F' w' S' j t es => by
  obtain ⟨g0, _, g3, grt, _⟩ := he_lk j
  rw [es] at grt
  exact ⟨⟨g0, g3, (grt A hA).1, (grt B hB).1⟩, (World.cell?_of_block (a := ⟨xb, 2, none⟩) (t.fr.block xb lx HJ.out.2.2.2)).trans q2, (World.cell?_of_block (a := ⟨xb, 3, none⟩) (t.fr.block xb lx HJ.out.2.2.2)).trans q3, (World.cell?_of_block (a := ⟨xb, 4, none⟩) (t.fr.block xb lx HJ.out.2.2.2)).trans q4⟩
 clear hb1 hbt J1 J2 rt hx1
 have HX : Hid (S.s.rs.getD A 0 = S.s.rs.getD A 0) := rfl
 generalize S.s.rs.getD A 0 = x at *
 generalize S.s.rs.getD B 0 = y at *
 go_wp2_with fail
 go_region_held3 (fun w' => w'.cell? ⟨hp, 0, none⟩ = some (.pointer (some ⟨a.pw, 0, none⟩)) /\ w'.cell? ⟨a.pw, 3, none⟩ = some (.slice (some ⟨a.nb, 0, none⟩) 12 12) /\ w'.cell? ⟨a.nb, A, none⟩ = some (.int .i64 x) /\ w'.cell? ⟨a.nb, B, none⟩ = some (.int .i64 y) /\ w'.cell? ⟨xb, 2, none⟩ = some (.int .i64 (A : Int)) /\ w'.cell? ⟨xb, 3, none⟩ = some (.int .i64 (B : Int)) /\ w'.cell? ⟨xb, 4, none⟩ = some (.int .i64 I)) (go_keep)
  (first
   | (go_at_call 51; refine P.mono ?_; clear P; rintro e w2 ⟨F2, rfl, j2, t2⟩; obtain ⟨⟨g0, g3, gr, gs⟩, gx2, gx3, gx4⟩ := HR.out F2 w2 _ j2 t2 HRS.out; have HF : Hid ((heO a hp).J F2 S2 w2 /\ Tn F w F2 w2) := ⟨j2, HT.out.trans t2⟩; clear j2 t2))
 go_wp2_with fail
 go_ret
 exact ⟨F2, rfl, HF.out.1, HF.out.2⟩
theorem doH_codeT (h : (heO a hp).J F S w) (k R A B I n : Int) (hc : ckC k R A B n = 0) (k1 : k ≠ 9) (k2 : k ≠ 12) (k3 : k ≠ 15) (k4 : k ≠ 16) (v cd : Int) (h0 : cd ≠ 0) (S2 : Ww)
  (PR : ∀ F' w', (heO a hp).J F' S w' -> Calls Tryz.prog 87 #[.pointer (some ⟨hp, 0, none⟩), hsV k R A B I n] w' fun e w'' => ∃ F2, e = .returned (.tuple #[.int .i64 v, .int .i64 cd]) /\ (heO a hp).J F2 S2 w'' /\ Tn F' w' F2 w'') :
  Calls Tryz.prog 30 #[.pointer (some ⟨hp, 0, none⟩), hsV k R A B I n] w fun e w' => ∃ F', e = .returned (.int .i64 cd) /\ (heO a hp).J F' S2 w' /\ Tn F w F' w' := by
 have hb0 := (Below.refl w.heap.size w).alloc (Nat.le_refl _) (hsC k R A B I n)
 have hx0 := heap_alloc_new w (.cells #[.int .i64 k, .int .i64 R, .int .i64 A, .int .i64 B, .int .i64 I, .int .i64 n] 65)
 have PC := checkH_any k R A B I n (w.alloc (hsC k R A B I n))
 rw [hc] at PC
 have HJ : Hid ((heO a hp).J F S (w.alloc (hsC k R A B I n)) /\ Below w.heap.size w (w.alloc (hsC k R A B I n)) /\ (w.alloc (hsC k R A B I n)).heap[w.heap.size]? = some (hsC k R A B I n)) := ⟨(heO a hp).below h hb0, hb0, hx0⟩
 have HPR : Hid (∀ F' w', (heO a hp).J F' S w' -> Calls Tryz.prog 87 #[.pointer (some ⟨hp, 0, none⟩), hsV k R A B I n] w' fun e w'' => ∃ F2, e = .returned (.tuple #[.int .i64 v, .int .i64 cd]) /\ (heO a hp).J F2 S2 w'' /\ Tn F' w' F2 w'') := PR
 have k1b : (k == 9) = false := by simpa using k1
 have k2b : (k == 12) = false := by simpa using k2
 have k3b : (k == 15) = false := by simpa using k3
 have k4b : (k == 16) = false := by simpa using k4
 have h0b : (cd == 0) = false := by simpa using h0
 clear h hb0 hx0 PR hc
 go_enter Tryz.func30, Tryz.ntmps30
 go_wp2_with fail
 generalize w.alloc (hsC k R A B I n) = w0 at *
 generalize hxb : w.heap.size = xb at *
 refine PC.mono ?_
 clear PC
 rintro e w1 ⟨rfl, hb1⟩
 have HJ1 : Hid ((heO a hp).J F S w1 /\ Below xb w w1) := ⟨(heO a hp).below HJ.out.1 hb1, HJ.out.2.1.trans (hb1.mono (by have := lt_of_some HJ.out.2.2; omega))⟩
 obtain ⟨q0, q1, q2, q3, q4, q5⟩ := hs_cells ((hb1.block xb (lt_of_some HJ.out.2.2)).trans HJ.out.2.2)
 clear HJ hb1
 go_wp2_with fail
 refine (HPR.out F w1 HJ1.out.1).mono ?_
 clear HPR
 rintro e w2 ⟨F2, rfl, j2, t2⟩
 have HF : Hid ((heO a hp).J F2 S2 w2 /\ Tn F w F2 w2) := ⟨j2, (Tn.of (by rw [hxb]; exact HJ1.out.2)).trans t2⟩
 clear j2 t2 HJ1 q0 q1 q2 q3 q4 q5
 go_wp2_with fail
 go_ret
 exact ⟨F2, rfl, HF.out.1, HF.out.2⟩
theorem doH_any (h : (heO a hp).J F S w) {j : Nat} (ok : Hok a S j) (hj : j <= 100000) (k R A B I n : Int) :
  Calls Tryz.prog 30 #[.pointer (some ⟨hp, 0, none⟩), hsV k R A B I n] w fun e w' => ∃ F', e = .returned (.int .i64 (S.hd a k R A B I n).1) /\ (heO a hp).J F' (S.hd a k R A B I n).2 w' /\ Tn F w F' w' := by
 have hb := he_wbd h
 have hrq := ok.rq
 have hm := ok.m
 have hq : S.q.length + S.r.length <= 90000 := by omega
 unfold Ww.hd
 by_cases hc : ckC k R A B n = 0
 ·rw [if_pos hc]
  by_cases e9 : k = 9
  ·rw [if_pos e9]
   subst e9
   have h1 := ck_A hc (by decide)
   have h2 := ck_B hc (by decide)
   obtain ⟨A, rfl⟩ := Int.eq_ofNat_of_zero_le h1.1
   obtain ⟨B, rfl⟩ := Int.eq_ofNat_of_zero_le h2.1
   rw [Int.toNat_natCast, Int.toNat_natCast]
   exact doH_reg h R I n A B (by omega) (by omega) hc (by omega) (by omega)
  rw [if_neg e9]
  by_cases e12 : k = 12
  ·rw [if_pos e12]
   subst e12
   have h1 := ck_A hc (by decide)
   have h2 := ck_B hc (by decide)
   obtain ⟨A, rfl⟩ := Int.eq_ofNat_of_zero_le h1.1
   obtain ⟨B, rfl⟩ := Int.eq_ofNat_of_zero_le h2.1
   rw [Int.toNat_natCast, Int.toNat_natCast]
   exact doH_set h R I n A B (by omega) (by omega) hc (by omega)
  rw [if_neg e12]
  by_cases e15 : k = 15
  ·rw [if_pos e15]
   subst e15
   exact doH_minor h R A B I n hc hq
  rw [if_neg e15]
  by_cases e16 : k = 16
  ·rw [if_pos e16]
   subst e16
   exact doH_major h R A B I n hc hq (ok.slg hb)
  rw [if_neg e16]
  have hR := ck_R hc (us_root hc e9 e12 e15 e16)
  obtain ⟨R, rfl⟩ := Int.eq_ofNat_of_zero_le hR.1
  rw [Int.toNat_natCast]
  have PR : ∀ F' w', (heO a hp).J F' S w' -> Calls Tryz.prog 87 #[.pointer (some ⟨hp, 0, none⟩), hsV k R A B I n] w' fun e w'' => ∃ F2, e = .returned (.tuple #[.int .i64 (S.rt a k A.toNat B.toNat I n).1, .int .i64 (S.rt a k A.toNat B.toNat I n).2.1]) /\ (heO a hp).J F2 (S.rt a k A.toNat B.toNat I n).2.2 w'' /\ Tn F' w' F2 w'' := fun F' w' hJ => rootH_any hJ ok hb k R A B I n hc e9 e12 e15 e16
  generalize S.rt a k A.toNat B.toNat I n = g at *
  obtain ⟨v, cd, S2⟩ := g
  dsimp only at *
  by_cases c : cd = 0
  ·rw [if_pos c]
   subst c
   exact doH_root h k R A B I n (by omega) hc e9 e12 e15 e16 v S2 PR
  ·rw [if_neg c]
   exact doH_codeT h k R A B I n hc e9 e12 e15 e16 v cd c S2 PR
 ·rw [if_neg hc]
  refine (doH_bad (hp := hp) (w := w) k R A B I n hc).mono ?_
  rintro e w' ⟨rfl, hb⟩
  exact ⟨F, rfl, (heO a hp).below h hb, Tn.of hb⟩
end
end Go.Proofs.YtalgochmjddodaaGreat

namespace Go.Proofs.YtalgochmjddodaaGreat
set_option maxRecDepth 100000
set_option maxHeartbeats 1000000
open Go.RowKit W Kp Stl
theorem sameVals_eq (a b : Option Addr) (ca cb : Nat) (l : List (Int × Int)) (w : World) (hm : l.length <= 100000) (ha : Lp w a l) (hb : Lp w b l) :
  Calls Tryz.prog 83 #[.slice a l.length ca, .slice b l.length cb] w fun e w' => e = .returned (.bool true) /\ Below w.heap.size w w' := by
 have HA : Hid (Lp w a l) := ha
 have HB : Hid (Lp w b l) := hb
 clear ha hb
 go_enter Tryz.func83, Tryz.ntmps83
 go_wp2_with fail
 go_loopw [5] (fun iv wr => ∃ j : Nat, j <= l.length /\ iv = .int .i64 j /\ Below w.heap.size w wr) (fun iv _ => l.length - (intOf iv).toNat)
 case atStart => exact ⟨0, Nat.zero_le _, rfl, Below.refl _ _⟩
 case round =>
  obtain ⟨j, hj, rfl, hb⟩ := hrel
  by_cases hlt : j < l.length
  ·obtain ⟨b0, o0, e0, hb0, hc⟩ := (HA.out.below hb) (by omega)
   obtain ⟨x1, x2⟩ := hc j hlt
   subst e0
   obtain ⟨b2, o2, e2, hb2, hc2⟩ := (HB.out.below hb) (by omega)
   obtain ⟨x3, x4⟩ := hc2 j hlt
   subst e2
   clear hc hc2
   generalize (l.getD j (0, 0)).1 = u at x1 x3
   generalize (l.getD j (0, 0)).2 = v at x2 x4
   have j0 : (0 : Int) <= (j : Int) := by omega
   have j1 : (j : Int) < (l.length : Int) := by omega
   go_wp2_with fail
   go_quiet (fail)
   go_wp2_with fail
   go_roundw
   case rel => exact ⟨j + 1, by omega, by go_num, by first | exact below_drewN hb _ | exact hb.drew | exact hb⟩
   case measure => simp [intOf]; omega
  ·obtain rfl : j = l.length := by omega
   go_wp2_with fail
   go_ret
   exact ⟨rfl, hb⟩
end Go.Proofs.YtalgochmjddodaaGreat

namespace Go.Proofs.YtalgochmjddodaaGreat
set_option maxRecDepth 100000
set_option maxHeartbeats 2000000
open Go.RowKit W Kp Stl
theorem Ln.at {w : World} {ad : Option Addr} {ns : List (Int × List (Int × Int))} (h : Ln w ad ns) {i : Nat} (hi : i < ns.length) : ∃ b o fa fc, ad = some ⟨b, o, none⟩ /\ b < w.heap.size /\ w.cell? ⟨b, o + i * 2, none⟩ = some (.int .i64 (ns.getD i (0, [])).1) /\ w.cell? ⟨b, o + i * 2 + 1, none⟩ = some (.slice fa (ns.getD i (0, [])).2.length fc) /\ Lp w fa (ns.getD i (0, [])).2 := by
 obtain ⟨m, h1, h2, h3⟩ := h
 have hl : m.length = ns.length := by rw [<- h1]; simp [nds]
 obtain ⟨b, o, e, hb, hc⟩ := h3 (by omega)
 obtain ⟨x, hx⟩ : ∃ x, m[i]? = some x := ⟨_, List.getElem?_eq_getElem (by omega)⟩
 have en : ns.getD i (0, []) = (x.1, x.2.2.2) := by
  subst h1
  rw [List.getD_eq_getElem?_getD, nds, List.getElem?_map, hx]
  rfl
 rw [en]
 exact ⟨b, o, _, _, e, hb, (hc i _ hx).1, (hc i _ hx).2, h2 _ (List.mem_of_getElem? hx)⟩
theorem sameView_eq (r1 r2 n1 n2 : Option Addr) (c1 c2 d1 d2 : Nat) (vs : List (Int × Int)) (ns : List (Int × List (Int × Int))) (w : World) (hm : vs.length <= 100000) (hl : ns.length <= 100000) (hf : ∀ nd ∈ ns, nd.2.length <= 100000) (h1 : Lp w r1 vs) (h2 : Lp w r2 vs) (h3 : Ln w n1 ns) (h4 : Ln w n2 ns) :
  Calls Tryz.prog 25 #[.agg #[.slice r1 vs.length c1, .slice n1 ns.length d1], .agg #[.slice r2 vs.length c2, .slice n2 ns.length d2]] w fun e w' => e = .returned (.bool true) /\ Below w.heap.size w w' := by
 have ba := ((Below.refl w.heap.size w).alloc (Nat.le_refl _) (.cells #[.slice r1 vs.length c1, .slice n1 ns.length d1] 52)).alloc (by simp) (.cells #[.slice r2 vs.length c2, .slice n2 ns.length d2] 52)
 have k0 : ((w.alloc (.cells #[.slice r1 vs.length c1, .slice n1 ns.length d1] 52)).alloc (.cells #[.slice r2 vs.length c2, .slice n2 ns.length d2] 52)).cell? ⟨w.heap.size, 1, none⟩ = some (.slice n1 ns.length d1) := by simp [go_sem]
 have k1 : ((w.alloc (.cells #[.slice r1 vs.length c1, .slice n1 ns.length d1] 52)).alloc (.cells #[.slice r2 vs.length c2, .slice n2 ns.length d2] 52)).cell? ⟨w.heap.size + 1, 1, none⟩ = some (.slice n2 ns.length d2) := by simp [go_sem]
 have hs0 : ((w.alloc (.cells #[.slice r1 vs.length c1, .slice n1 ns.length d1] 52)).alloc (.cells #[.slice r2 vs.length c2, .slice n2 ns.length d2] 52)).heap.size = w.heap.size + 2 := by simp
 have P := sameVals_eq r1 r2 c1 c2 vs _ hm (h1.below ba) (h2.below ba)
 have H3 : Hid (∀ w', Below w.heap.size w w' -> Ln w' n1 ns) := fun w' hb => h3.below hb
 have H4 : Hid (∀ w', Below w.heap.size w w' -> Ln w' n2 ns) := fun w' hb => h4.below hb
 have HF : Hid (∀ nd ∈ ns, nd.2.length <= 100000) := hf
 clear h1 h2 h3 h4 hf
 go_enter Tryz.func25, Tryz.ntmps25
 go_wp2_with fail
 refine P.mono ?_
 clear P
 rintro e w1 ⟨rfl, hb1⟩
 have hB1 := ba.trans (hb1.mono (by omega))
 have hs1 := hb1.size
 rw [hs0] at hs1
 have x0 := (hb1.cell (p := ⟨w.heap.size, 1, none⟩) (by show w.heap.size < _; omega)).trans k0
 have x1 := (hb1.cell (p := ⟨w.heap.size + 1, 1, none⟩) (by show w.heap.size + 1 < _; omega)).trans k1
 clear ba k0 k1 hs0 hb1
 go_wp2_with fail
 go_loopw [5] (fun iv wr => ∃ j : Nat, j <= ns.length /\ iv = .int .i64 j /\ Below w1.heap.size w1 wr) (fun iv _ => ns.length - (intOf iv).toNat)
 case atStart => exact ⟨0, Nat.zero_le _, rfl, Below.refl _ _⟩
 case round =>
  obtain ⟨j, hj, rfl, hb⟩ := hrel
  have hsr := hb.size
  have hBr := hB1.trans (hb.mono (by omega))
  have y0 := (hb.cell (p := ⟨w.heap.size, 1, none⟩) (by show w.heap.size < _; omega)).trans x0
  have y1 := (hb.cell (p := ⟨w.heap.size + 1, 1, none⟩) (by show w.heap.size + 1 < _; omega)).trans x1
  have ly0 : w.heap.size < wr.heap.size := by omega
  have ly1 : w.heap.size + 1 < wr.heap.size := by omega
  by_cases hlt : j < ns.length
  ·obtain ⟨b1, o1, fa1, fc1, e1, l1, z1, z2, z3⟩ := (H3.out wr hBr).at hlt
   obtain ⟨b2, o2, fa2, fc2, e2, l2, z4, z5, z6⟩ := (H4.out wr hBr).at hlt
   subst e1 e2
   have hfl : (ns.getD j (0, [])).2.length <= 100000 := HF.out _ (by rw [List.getD_eq_getElem?_getD, List.getElem?_eq_getElem hlt]; exact List.getElem_mem hlt)
   generalize (ns.getD j (0, [])).1 = kd at z1 z4
   generalize (ns.getD j (0, [])).2 = fs at z2 z3 z5 z6 hfl
   have j0 : (0 : Int) <= (j : Int) := by omega
   have j1 : (j : Int) < (ns.length : Int) := by omega
   have hd := (Below.refl wr.heap.size wr).drew
   have P := sameVals_eq fa1 fa2 fc1 fc2 fs wr.drew hfl (z3.below hd) (z6.below hd)
   clear z3 z6 x0 x1
   go_wp2_with fail
   go_region_held3 (fun w' => w'.cell? ⟨w.heap.size, 1, none⟩ = some (.slice (some ⟨b1, o1, none⟩) ns.length d1) /\ w'.cell? ⟨w.heap.size + 1, 1, none⟩ = some (.slice (some ⟨b2, o2, none⟩) ns.length d2) /\ w'.cell? ⟨b1, o1 + j * 2, none⟩ = some (.int .i64 kd) /\ w'.cell? ⟨b1, o1 + j * 2 + 1, none⟩ = some (.slice fa1 fs.length fc1) /\ w'.cell? ⟨b2, o2 + j * 2, none⟩ = some (.int .i64 kd) /\ w'.cell? ⟨b2, o2 + j * 2 + 1, none⟩ = some (.slice fa2 fs.length fc2)) (first | exact ⟨y0, y1, z1, z2, z4, z5⟩ | exact ⟨u0, u1, u2, u3, u4, u5⟩ | go_keep)
    (first | (go_at_call 83; refine P.mono ?_; rintro e w3 ⟨rfl, hb3'⟩; have hb3 : Below wr.heap.size wr w3 := hd.trans hb3'; have u0 := (hb3.cell (p := ⟨w.heap.size, 1, none⟩) ly0).trans y0; have u1 := (hb3.cell (p := ⟨w.heap.size + 1, 1, none⟩) ly1).trans y1; have u2 := (hb3.cell (p := ⟨b1, o1 + j * 2, none⟩) l1).trans z1; have u3 := (hb3.cell (p := ⟨b1, o1 + j * 2 + 1, none⟩) l1).trans z2; have u4 := (hb3.cell (p := ⟨b2, o2 + j * 2, none⟩) l2).trans z4; have u5 := (hb3.cell (p := ⟨b2, o2 + j * 2 + 1, none⟩) l2).trans z5))
   have hbN : Below w1.heap.size w1 w3 := hb.trans (hb3.mono hsr)
   clear P u0 u1 u2 u3 u4 u5 y0 y1 z1 z2 z4 z5 hb3 hb3' hd
   go_wp2_with fail
   go_roundw
   case rel => exact ⟨j + 1, by omega, by go_num, hbN⟩
   case measure => simp [intOf]; omega
  ·obtain rfl : j = ns.length := by omega
   go_wp2_with fail
   go_ret
   exact ⟨rfl, hBr⟩
end Go.Proofs.YtalgochmjddodaaGreat

namespace Go.Proofs.YtalgochmjddodaaGreat
set_option maxRecDepth 100000
set_option maxHeartbeats 4000000
open Go.RowKit W Kp Stl
section
variable {a : Wc} {hp : Nat} {F : Nat -> Prop} {S : Ww} {w : World}
theorem viewS_any (h1 : (wsO a).J F S w) (hq : S.q.length <= 90000) :
  Calls Tryz.prog 23 #[.pointer (some ⟨a.pw, 0, none⟩)] w fun e w' => ∃ r2 d2 na nn nc, e = .returned (.agg #[.slice r2 12 d2, .slice na nn nc]) /\ Lp w' r2 (vwL a.N S.s.y S.s.g S.s.ws S.q S.s.rs).1 /\ Ln w' na (vwL a.N S.s.y S.s.g S.s.ws S.q S.s.rs).2.2 /\ nn = (vwL a.N S.s.y S.s.g S.s.ws S.q S.s.rs).2.2.length /\ Below w.heap.size w w' := by
 obtain ⟨F0, g1, _⟩ := ws_wod h1
 obtain ⟨c0, _, c2, c3, _, rl, _, cr9⟩ := wod_cells g1
 have ha := (wod_arena g1).1
 obtain ⟨F0', ar, cr, ⟨F00, ad, cap, ⟨own, pq, hM, hO⟩, d2, d3, d4, _⟩, r0, r1, hFW⟩ := h1
 have hl : Lq w (some ⟨a.nb, 0, none⟩) S.s.rs := by
  have hr := hM.rt
  refine ⟨fun _ => ⟨a.nb, 0, rfl, lt_of_some hr, fun i hi => ?_⟩, fun _ => ⟨a.nb, 0, _, rfl, hr⟩⟩
  rw [Nat.zero_add]
  exact (cr9 i (by rw [<- rl]; exact hi)).1
 have P := view_any (l := S.s.rs) (ra := some ⟨a.nb, 0, none⟩) (rc := 12) ⟨c0, c2, ha, d2, row_pairs d3, hq⟩ (by rw [rl]; exact c3) hl (by rw [rl]; decide)
 rw [rl] at P
 exact P
theorem viewH_any (h : (heO a hp).J F S w) (hq : S.q.length <= 90000) :
  Calls Tryz.prog 23 #[.pointer (some ⟨a.pw, 0, none⟩)] w fun e w' => ∃ r2 d2 na nn nc, e = .returned (.agg #[.slice r2 12 d2, .slice na nn nc]) /\ Lp w' r2 (vwL a.N S.s.y S.s.g S.s.ws S.q S.s.rs).1 /\ Ln w' na (vwL a.N S.s.y S.s.g S.s.ws S.q S.s.rs).2.2 /\ nn = (vwL a.N S.s.y S.s.g S.s.ws S.q S.s.rs).2.2.length /\ Below w.heap.size w w' := by
 obtain ⟨FW, h1, _⟩ := he_ws h
 exact viewS_any h1 hq
end
def hb1S : Ww := ⟨{ (bo0 16 8).1.s with rs := (bo0 16 8).1.s.rs.set 0 (ew 1 7) }, [], []⟩
def hb2S : Ww := ⟨{ hb1S.s with y := hb1S.s.y + 3, ws := putF hb1S.s.rs hb1S.s.y (mkW 16 hb1S.s.y 1 2 hb1S.s.ws) [0, 0] 2 }, [], []⟩
def hb3S : Ww := ⟨{ hb2S.s with rs := hb2S.s.rs.set 1 (ew 3 0) }, [], []⟩
theorem hb_code : fcC 16 hb3S.s.y hb3S.s.g hb3S.s.ws (hb3S.s.rs.getD 1 0) 2 = 1 := by decide +kernel
theorem hb_view : (vwL 16 hb3S.s.y hb3S.s.g hb3S.s.ws hb3S.q hb3S.s.rs).2.2 = [(1, [(1, 7), (1, 7)])] := by decide +kernel
theorem hb_vc : vc 1 7 = 0 := by decide
theorem run_nodesH (x y : Value) (w : World) : Sem.run Tryz.prog (Instr.field 52 (.agg #[x, y]) 1) w = .ok y w := by
 unfold Instr.field
 simp [go_sem]
 rfl
theorem heapBegun_any (w : World) : Calls Tryz.prog 27 #[] w fun e w' => e = .returned (.bool true) /\ Below w.heap.size w w' := by
 go_enter Tryz.func27, Tryz.ntmps27
 go_wp2_with fail
 refine (newH_yes 16 8 w (by omega) (by omega) (by omega)).mono ?_
 rintro e w1 ⟨a, hp, F1, rfl, j1, ⟨k1, k2⟩, g1, b1⟩
 have hba := (Below.refl w1.heap.size w1).alloc (Nat.le_refl _) (.cells #[.int .i64 0, .int .i64 0] 28)
 have D1 : Calls Tryz.prog 30 #[.pointer (some ⟨hp, 0, none⟩), .agg #[.int .i64 1, .int .i64 0, .int .i64 0, .int .i64 0, .int .i64 0, .int .i64 7]] (w1.alloc (.cells #[.int .i64 0, .int .i64 0] 28)) fun e w' => ∃ F', e = .returned (.int .i64 0) /\ (heO a hp).J F' hb1S w' /\ Tn F1 (w1.alloc (.cells #[.int .i64 0, .int .i64 0] 28)) F' w' := doH_int ((heO a hp).below j1 hba) 0 (by omega) 7 hb_vc
 have HB : Hid ((∀ b, F1 b -> w.heap.size <= b) /\ Below w.heap.size w (w1.alloc (.cells #[.int .i64 0, .int .i64 0] 28)) /\ a.N = 16) := ⟨g1, b1.trans (hba.mono b1.size), k1⟩
 clear j1 k1 k2 g1 b1 hba
 go_wp2_with fail
 generalize w1.alloc (.cells #[.int .i64 0, .int .i64 0] 28) = w2 at *
 refine D1.mono ?_
 clear D1
 rintro e w3 ⟨F3, rfl, j3, t3⟩
 have HB3 : Hid ((∀ b, F3 b -> w.heap.size <= b) /\ Below w.heap.size w w3) := ⟨fun b d => (t3.sub b d).elim (HB.out.1 b) (fun d => Nat.le_trans HB.out.2.1.size d), HB.out.2.1.trans (t3.fr.below HB.out.2.1.size HB.out.1)⟩
 have eN := HB.out.2.2
 have D2 : Calls Tryz.prog 30 #[.pointer (some ⟨hp, 0, none⟩), .agg #[.int .i64 4, .int .i64 1, .int .i64 0, .int .i64 0, .int .i64 0, .int .i64 0]] w3 fun e w' => ∃ F', e = .returned (.int .i64 0) /\ (heO a hp).J F' hb3S w' /\ Tn F3 w3 F' w' := by
  refine doH_root j3 4 1 0 0 0 0 (by omega) (ck_pair 1 0 0 (by omega) (by omega) (by omega)) (by omega) (by omega) (by omega) (by omega) (ew 3 0) hb2S (fun F' w' hJ => ?_)
  have P := rootH_pair hJ 1 0 0 (by omega) (by omega) (by rw [eN]; decide)
  rw [eN] at P
  exact P
 have HN : Hid (a.N = 16) := eN
 clear j3 t3 HB eN
 go_wp2_with fail
 refine D2.mono ?_
 clear D2
 rintro e w4 ⟨F4, rfl, j4, t4⟩
 have HB4 : Hid ((∀ b, F4 b -> w.heap.size <= b) /\ Below w.heap.size w w4) := ⟨fun b d => (t4.sub b d).elim (HB3.out.1 b) (fun d => Nat.le_trans HB3.out.2.size d), HB3.out.2.trans (t4.fr.below HB3.out.2.size HB3.out.1)⟩
 have D3 : Calls Tryz.prog 30 #[.pointer (some ⟨hp, 0, none⟩), .agg #[.int .i64 11, .int .i64 2, .int .i64 1, .int .i64 0, .int .i64 2, .int .i64 0]] w4 fun e w' => e = .returned (.int .i64 1) /\ Below w4.heap.size w4 w' := by
  refine doH_code j4 11 2 1 0 2 0 (ck_get 2 1 (by omega) (by omega)) (by omega) (by omega) (by omega) (by omega) 0 1 (by omega) (fun F' w' hJ => ?_)
  have P := rootH_get hJ 2 2 1 (by omega)
  rw [HN.out, hb_code, if_neg (by omega)] at P
  exact P
 have HJ4 : Hid ((heO a hp).J F4 hb3S w4) := j4
 clear j4 t4 HB3
 go_wp2_with fail
 refine D3.mono ?_
 clear D3
 rintro e w5 ⟨rfl, hb5⟩
 have J5 := (heO a hp).below HJ4.out hb5
 have P := viewH_any J5 (by decide)
 rw [HN.out, hb_view] at P
 obtain ⟨h0, _⟩ := he_lk J5
 have HB5 : Hid (Below w.heap.size w w5) := HB4.out.2.trans (hb5.mono HB4.out.2.size)
 clear J5 hb5 HJ4 HB4
 go_wp2_with fail
 refine P.mono ?_
 clear P
 rintro e w6 ⟨r2, d2, na, nn, nc, rfl, _, hn6, rfl, hb6⟩
 obtain ⟨b, o, fa, fc, e1, lb, x1, x2, x3⟩ := hn6.at (i := 0) (by decide)
 subst e1
 have x2 : w6.cell? ⟨b, o + 0 * 2 + 1, none⟩ = some (.slice fa 2 fc) := x2
 have x3 : Lp w6 fa [(1, 7), (1, 7)] := x3
 obtain ⟨b2, o2, e2, lb2, hc2⟩ := x3 (by decide)
 subst e2
 have x4 : w6.cell? ⟨b2, o2 + 0 * 2 + 1, none⟩ = some (.int .i64 7) := (hc2 0 (by decide)).2
 rw [show o + 0 * 2 + 1 = o + 1 by omega] at x2
 rw [show o2 + 0 * 2 + 1 = o2 + 1 by omega] at x4
 have HB6 : Hid (Below w.heap.size w w6) := HB5.out.trans (hb6.mono HB5.out.size)
 have hrn := run_nodesH (.slice r2 12 d2) (.slice (some ⟨b, o, none⟩) 1 nc)
 have U := usesH_any 9 w6
 rw [show usK 9 = 6 from rfl] at U
 clear hn6 hb6 hc2 HB5 x1
 go_wp2_with fail
 refine U.mono ?_
 rintro e w7 ⟨rfl, rfl⟩
 go_wp2_with fail
 go_ret
 exact ⟨rfl, HB6.out⟩
end Go.Proofs.YtalgochmjddodaaGreat
