/- MinorStrong: its walk. -/
import Derived.Test.YtakofbkmhmcnfabGreatMs3
import Derived.Test.YtakofbkmhmcnfabGreatMs4
import Derived.Test.YtakofbkmhmcnfabGreatWs21
import Derived.Test.YtakofbkmhmcnfabGreatJ28
namespace Go.Proofs.YtakofbkmhmcnfabGreat.MSl
open Go.RowKit W Kp Stl

theorem run_code (x y : Value) (w : World) : Sem.run Tryz.prog (Instr.field 28 (.agg #[x, y]) 0) w = .ok x w := by
  unfold Instr.field
  simp [go_sem]
  rfl
theorem Bok.more {c : Bc} {S : Ww × Wrs} {j : Nat} (h : Bok c S j) : Bok c S (j + 1) :=
  ⟨h.kv, h.wok, Nat.le_succ_of_le h.m, Nat.le_succ_of_le h.rq, Nat.le_succ_of_le h.t, Nat.le_succ_of_le h.rg, h.wt⟩
theorem cellx {w : World} {xb : Nat} {d A B C : Value} (hx : w.heap[xb]? = some (.cells #[d, A, B, C] 31 (0, 0))) : w.cell? ⟨xb, 0, none⟩ = some d ∧ w.cell? ⟨xb, 1, none⟩ = some A ∧ w.cell? ⟨xb, 2, none⟩ = some B ∧ w.cell? ⟨xb, 3, none⟩ = some C := by
  refine ⟨?_, ?_, ?_, ?_⟩ <;> simp [World.cell?, hx]
theorem cellv {w : World} {xb : Nat} {a b : Value} (hx : w.heap[xb]? = some (.cells #[a, b] 50 (0, 0))) : w.cell? ⟨xb, 0, none⟩ = some a ∧ w.cell? ⟨xb, 1, none⟩ = some b := by
  refine ⟨?_, ?_⟩ <;> simp [World.cell?, hx]

set_option maxRecDepth 100000 in
set_option maxHeartbeats 8000000 in
theorem walk (n o : Int) (a : Option Addr) (cc : Nat) (l : List S4) (w : World) (hl : L4 w a l) :
    Calls Tryz.prog 4 #[.int .i64 n, .int .i64 o, .slice a l.length cc] w fun e w' => e = .returned (.bool true) ∧ Below w.heap.size w w' := by
  have HL : Hid (L4 w a l) := hl
  clear hl
  by_cases hlen : 250 < l.length
  · go_enter Tryz.func4, Tryz.ntmps4
    go_wp2_with fail
    refine (minorBegun_any w).mono ?_
    rintro e w1 ⟨rfl, hb1⟩
    have h2 : (250 : Int) < (l.length : Int) := by omega
    go_wp2_with fail
    go_ret
    exact ⟨rfl, hb1⟩
  · have h2 : ¬ ((250 : Int) < (l.length : Int)) := by omega
    by_cases hno : n < 16 ∨ 256 < n ∨ o < 0 ∨ 1024 < o
    · have HNO : Hid (n < 16 ∨ 256 < n ∨ o < 0 ∨ 1024 < o) := hno
      clear hno
      go_enter Tryz.func4, Tryz.ntmps4
      go_wp2_with fail
      refine (minorBegun_any w).mono ?_
      rintro e w1 ⟨rfl, hb1⟩
      go_wp2_with fail
      refine (start_no n o w1 HNO.out).mono ?_
      rintro e w2 ⟨rfl, hb2⟩
      go_wp2_with fail
      refine (roomFault_no n o w2 HNO.out).mono ?_
      rintro e w3 ⟨rfl, hb3⟩
      have hB2 := hb1.trans (hb2.mono hb1.size)
      have hrn := run_code (.int .i64 1) (.int .i64 (-1))
      go_wp2_with fail
      go_ret
      exact ⟨rfl, hB2.trans (hb3.mono hB2.size)⟩
    · have hn0 : 16 ≤ n ∧ n ≤ 256 ∧ 0 ≤ o ∧ o ≤ 1024 := by omega
      obtain ⟨n, rfl⟩ := Int.eq_ofNat_of_zero_le (show 0 ≤ n by omega)
      obtain ⟨o, rfl⟩ := Int.eq_ofNat_of_zero_le (show 0 ≤ o by omega)
      go_enter Tryz.func4, Tryz.ntmps4
      go_wp2_with fail
      refine (minorBegun_any w).mono ?_
      rintro e w1 ⟨rfl, hb1⟩
      go_wp2_with fail
      refine (start_yes n o w1 (by omega) (by omega) (by omega)).mono ?_
      rintro e w2 ⟨c, F1, rfl, j1, ⟨k1, k2, k3, k4⟩, g1, b1⟩
      have HC : Hid (0 ≤ c.most ∧ c.most ≤ 100000 ∧ c.a.O = o) := ⟨by rw [k3]; omega, by rw [k3]; omega, k2⟩
      have H2 : Hid ((boO c).J F1 (bo0 n o) w2 ∧ Bok c (bo0 n o) 0 ∧ Sok c.a (bo0 n o).1.s ∧ ∀ b, F1 b → w1.heap.size ≤ b) := ⟨j1, Bok.start c n o, Sok.start c.a n o, g1⟩
      have HB2 : Hid (Below w1.heap.size w1 w2) := b1
      have o0 : (0 : Int) ≤ (o : Int) := by omega
      have o1 : (o : Int) ≤ 1024 := by omega
      clear j1 k1 k2 k3 k4 g1 b1 hno hn0
      go_wp2_with fail
      go_loopw [9] (fun iv wr => ∃ (j : Nat) (S : Ww × Wrs) (F : Nat → Prop), j ≤ l.length ∧ iv = .int .i64 j ∧ Hid ((boO c).J F S wr ∧ Bok c S j ∧ Sok c.a S.1.s ∧ ∀ b, F b → w1.heap.size ≤ b) ∧ Hid (Below w1.heap.size w1 wr)) (fun iv _ => l.length - (intOf iv).toNat)
      case atStart => exact ⟨0, bo0 n o, F1, Nat.zero_le _, rfl, H2, HB2⟩
      case round =>
        clear H2 HB2
        obtain ⟨j, S, F, hj, rfl, H, HB⟩ := hrel
        by_cases hlt : j < l.length
        · obtain ⟨b0, p0, e0, l0, hc⟩ := HL.out (by omega)
          obtain ⟨⟨x1, x2, x3, x4⟩, _, _⟩ := hc j hlt
          subst e0
          clear hc
          have hbw := hb1.trans (HB.out.mono hb1.size)
          have y1 := (hbw.cell (p := ⟨b0, p0 + j * 4, none⟩) l0).trans x1
          have y2 := (hbw.cell (p := ⟨b0, p0 + j * 4 + 1, none⟩) l0).trans x2
          have y3 := (hbw.cell (p := ⟨b0, p0 + j * 4 + 2, none⟩) l0).trans x3
          have y4 := (hbw.cell (p := ⟨b0, p0 + j * 4 + 3, none⟩) l0).trans x4
          clear x1 x2 x3 x4 hbw l0
          generalize (l.getD j (0, 0, 0, 0)).1 = d at *
          generalize (l.getD j (0, 0, 0, 0)).2.1 = A at *
          generalize (l.getD j (0, 0, 0, 0)).2.2.1 = B at *
          generalize (l.getD j (0, 0, 0, 0)).2.2.2 = C at *
          have j0 : (0 : Int) ≤ (j : Int) := by omega
          have j1 : (j : Int) < (l.length : Int) := by omega
          have hba := (Below.refl wr.heap.size wr).alloc (Nat.le_refl _) (.cells #[.int .i64 d, .int .i64 A, .int .i64 B, .int .i64 C] 31)
          have H4 : Hid ((boO c).J F S _ ∧ Bok c S j ∧ Sok c.a S.1.s ∧ ∀ b, F b → w1.heap.size ≤ b) := ⟨(boO c).below H.out.1 hba, H.out.2⟩
          have HB4 : Hid (Below w1.heap.size w1 _) := HB.out.trans (hba.mono HB.out.size)
          have HX4 : Hid (_ = _) := heap_alloc_new wr (.cells #[.int .i64 d, .int .i64 A, .int .i64 B, .int .i64 C] 31)
          clear H HB hba
          go_upto_region 12 with fail
          generalize wr.alloc (.cells #[.int .i64 d, .int .i64 A, .int .i64 B, .int .i64 C] 31) = w4 at *
          generalize wr.heap.size = xb at *
          obtain ⟨z0, z1, z2, z3⟩ := cellx HX4.out
          clear y1 y2 y3 y4 HX4
          by_cases hk : d = 0 ∧ A ≠ 1 ∧ A ≠ 2
          · obtain ⟨rfl, hA1, hA2⟩ := hk
            have hA3 : (A != 1) = true := by simpa using hA1
            have hA4 : (A != 2) = true := by simpa using hA2
            go_wp2_with fail
            go_roundw
            case rel => exact ⟨j + 1, S, F, by omega, by go_num, ⟨H4.out.1, Bok.more H4.out.2.1, H4.out.2.2.1, H4.out.2.2.2⟩, HB4⟩
            case measure => simp [intOf]; omega
          · have hwb := bo_wbd H4.out.1
            by_cases hd : d < 6
            · have P := do_any H4.out.1 (H4.out.2.1.rb (by omega)) HC.out.1 HC.out.2.1 (by have := H4.out.2.1.m; omega) (by have := H4.out.2.1.rq; omega) (by have := H4.out.2.1.rq; omega) d A B C
              have HN : Hid (Bok c (doS c S d A B C) (j + 1) ∧ Sok c.a (doS c S d A B C).1.s) := ⟨H4.out.2.1.do hwb d A B C, H4.out.2.2.1.do hwb d A B C (by omega)⟩
              generalize doS c S d A B C = S3 at *
              have hA : d ≠ 0 ∨ (d = 0 ∧ A = 1) ∨ (d = 0 ∧ A = 2) := by omega
              clear hk hwb
              as_aux_lemma =>
              rcases hA with hA | ⟨rfl, rfl⟩ | ⟨rfl, rfl⟩
              case' inl => have hA0 : (d == 0) = false := by simpa using hA
              all_goals
                go_wp2_with fail
                refine P.mono ?_
                clear P
                rintro e w5 ⟨F5, rfl, j5, t5⟩
                have H5 : Hid ((boO c).J F5 S3 w5 ∧ Bok c S3 (j + 1) ∧ Sok c.a S3.1.s ∧ ∀ b, F5 b → w1.heap.size ≤ b) := ⟨j5, HN.out.1, HN.out.2, fun b d => (t5.sub b d).elim (H4.out.2.2.2 b) (fun e => Nat.le_trans HB4.out.size e)⟩
                have HB5 : Hid (Below w1.heap.size w1 w5) := HB4.out.trans (t5.fr.below HB4.out.size H4.out.2.2.2)
                clear j5 t5
                go_wp2_with fail
                go_roundw
                case rel => exact ⟨j + 1, S3, F5, by omega, by go_num, H5, HB5⟩
                case measure => simp [intOf]; omega
            · have d0 : d ≠ 0 := by omega
              have d1 : (d == 0) = false := by simpa using d0
              have hq0 : S.1.q.length ≤ 250 := by have := H4.out.2.1.rq; omega
              have PV := viewB_new H4.out.1 (by omega)
              obtain ⟨sk, sv1, sv2, sf⟩ := strong_cut H4.out.2.2.1 hwb
              obtain ⟨bd1, bd2, bd3⟩ := view_bd c.a.N S.1.s.y S.1.s.g S.1.s.ws S.1.q S.1.s.rs
              rw [hwb.r1] at bd1
              have HN : Hid (Bok c (S.1.cut c.a, S.2) (j + 1) ∧ Sok c.a (S.1.cut c.a).s) := ⟨H4.out.2.1.cut hwb, sk⟩
              have HVW : Hid (∀ F' w', (boO c).J F' (S.1.cut c.a, S.2) w' → Calls Tryz.prog 20 #[.pointer (some ⟨c.a.pw, 0, none⟩)] w' fun e w'' => ∃ r2 d2 na nc, e = .returned (.agg #[.slice r2 12 d2, .slice na (vwL c.a.N S.1.s.y S.1.s.g S.1.s.ws S.1.q S.1.s.rs).2.2.length nc]) ∧ Lp w'' r2 (vwL c.a.N S.1.s.y S.1.s.g S.1.s.ws S.1.q S.1.s.rs).1 ∧ Ln w'' na (vwL c.a.N S.1.s.y S.1.s.g S.1.s.ws S.1.q S.1.s.rs).2.2 ∧ Below w'.heap.size w' w'') := fun F' w' hJ => by
                have hq := (H4.out.2.1.cut hwb).rq
                refine (viewB_any hJ (by dsimp only at hq ⊢; omega)).mono ?_
                rintro e w'' ⟨r2, d2, na, nn, nc, rfl, q1, q2, rfl, q4⟩
                dsimp only at q1 q2
                rw [sv1] at q1
                rw [sv2] at q2
                exact ⟨r2, d2, na, nc, by dsimp only; rw [sv2], q1, q2, q4⟩
              have gO := hwb.g1
              have gOO := hwb.o1
              have gY := hwb.y1
              have gN := hwb.n1
              have g'O : (S.1.cut c.a).s.g ≤ 2048 := by
                rcases sf with ⟨_, _, f3, _⟩ | ⟨_, _, f3, _⟩ <;> omega
              generalize vwL c.a.N S.1.s.y S.1.s.g S.1.s.ws S.1.q S.1.s.rs = R at *
              obtain ⟨vs, ms, ns⟩ := R
              dsimp only at *
              clear sv1 sv2 sk hwb hk
              obtain ⟨_, _, c0, _, b0c⟩ := bo_blk H4.out.1
              have lF : Hid (∀ b, F b → b < w4.heap.size) := (boO c).lt H4.out.1
              as_aux_lemma =>
              go_wp2_with fail
              refine PV.mono ?_
              clear PV
              rintro e w5 ⟨r2, d2, na, nn, nc, rfl, hp5, hn5, rfl, hb5⟩
              have hba := (Below.refl w5.heap.size w5).alloc (Nat.le_refl _) (.cells #[.slice r2 12 d2, .slice na ns.length nc] 50)
              have hb6 := hb5.trans (hba.mono hb5.size)
              have J6 := (boO c).below H4.out.1 hb6
              obtain ⟨_, _, c0, _, b0c⟩ := bo_blk J6
              have PU := usedB_any J6
              have HV6 : Hid (LpN (w5.alloc (.cells #[.slice r2 12 d2, .slice na ns.length nc] 50)) w4.heap.size r2 vs ∧ LnN (w5.alloc (.cells #[.slice r2 12 d2, .slice na ns.length nc] 50)) w4.heap.size na ns ∧ (w5.alloc (.cells #[.slice r2 12 d2, .slice na ns.length nc] 50)).heap[w5.heap.size]? = some (.cells #[.slice r2 12 d2, .slice na ns.length nc] 50 (0, 0)) ∧ w4.heap.size ≤ w5.heap.size) := ⟨hp5.below hba, hn5.below hba, heap_alloc_new _ _, hb5.size⟩
              have HJ6 : Hid ((boO c).J F S (w5.alloc (.cells #[.slice r2 12 d2, .slice na ns.length nc] 50)) ∧ Below w1.heap.size w1 (w5.alloc (.cells #[.slice r2 12 d2, .slice na ns.length nc] 50))) := ⟨J6, HB4.out.trans (hb6.mono HB4.out.size)⟩
              clear hp5 hn5 hb5 hba hb6 J6 z0 z1 z2 z3
              go_wp2_with fail
              generalize w5.alloc (.cells #[.slice r2 12 d2, .slice na ns.length nc] 50) = w6 at *
              generalize w5.heap.size = vb at *
              refine PU.mono ?_
              clear PU
              rintro e w7 ⟨rfl, hb7⟩
              have J7 := (boO c).below HJ6.out.1 hb7
              have HV7 : Hid (LpN w7 w4.heap.size r2 vs ∧ LnN w7 w4.heap.size na ns ∧ w7.heap[vb]? = some (.cells #[.slice r2 12 d2, .slice na ns.length nc] 50 (0, 0)) ∧ w4.heap.size ≤ vb) := ⟨HV6.out.1.below hb7, HV6.out.2.1.below hb7, (hb7.block vb (lt_of_some HV6.out.2.2.1)).trans HV6.out.2.2.1, HV6.out.2.2.2⟩
              have HJ7 : Hid (Below w1.heap.size w1 w7) := HJ6.out.2.trans (hb7.mono HJ6.out.2.size)
              obtain ⟨_, _, c0, _, b0c⟩ := bo_blk J7
              have PC := cutB_any J7 (by have := H4.out.2.1.rq; omega)
              clear hb7 J7 HV6 HJ6
              go_wp2_with fail
              refine PC.mono ?_
              clear PC
              rintro e w8 ⟨F8, rfl, j8, t8⟩
              have HJ8 : Hid (Below w1.heap.size w1 w8 ∧ ∀ b, F8 b → w1.heap.size ≤ b) := ⟨HJ7.out.trans (t8.fr.below HJ7.out.size H4.out.2.2.2), fun b d => (t8.sub b d).elim (H4.out.2.2.2 b) (fun e => Nat.le_trans HJ7.out.size e)⟩
              have HV8 : Hid (LpN w8 w4.heap.size r2 vs ∧ LnN w8 w4.heap.size na ns ∧ w8.heap[vb]? = some (.cells #[.slice r2 12 d2, .slice na ns.length nc] 50 (0, 0))) := ⟨HV7.out.1.fr t8.fr lF.out, HV7.out.2.1.fr t8.fr lF.out, (t8.fr.block vb (lt_of_some HV7.out.2.2.1) (fun d => by have := lF.out vb d; have := HV7.out.2.2.2; omega)).trans HV7.out.2.2.1⟩
              obtain ⟨_, _, c0, _, b0c⟩ := bo_blk j8
              have PU := usedB_any j8
              have HS8 : Hid ((boO c).J F8 (S.1.cut c.a, S.2) w8) := j8
              dsimp only at PU c0
              clear t8 j8 HV7 HJ7
              generalize (S.1.cut c.a).s.y = y' at *
              generalize (S.1.cut c.a).s.g = g' at *
              go_wp2_with fail
              refine PU.mono ?_
              clear PU
              rintro e w9 ⟨rfl, hb9⟩
              have J9 := (boO c).below HS8.out hb9
              have HV9 : Hid (LpN w9 w4.heap.size r2 vs ∧ LnN w9 w4.heap.size na ns ∧ w9.heap[vb]? = some (.cells #[.slice r2 12 d2, .slice na ns.length nc] 50 (0, 0))) := ⟨HV8.out.1.below hb9, HV8.out.2.1.below hb9, (hb9.block vb (lt_of_some HV8.out.2.2)).trans HV8.out.2.2⟩
              have HJ9 : Hid ((boO c).J F8 (S.1.cut c.a, S.2) w9 ∧ Below w1.heap.size w1 w9) := ⟨J9, HJ8.out.1.trans (hb9.mono HJ8.out.1.size)⟩
              obtain ⟨_, _, c0, _, b0c⟩ := bo_blk J9
              obtain ⟨q0, q1⟩ := cellv HV9.out.2.2
              have PV := HVW.out F8 w9.drew ((boO c).below J9 (Below.refl _ w9).drew)
              clear hb9 J9 HV8 HS8 HVW
              go_wp2_with fail
              go_region_held3 (fun w' => w'.cell? ⟨c.pb, 0, none⟩ = some (.pointer (some ⟨c.a.pw, 0, none⟩)) ∧ w'.cell? ⟨vb, 0, none⟩ = some (.slice r2 12 d2) ∧ w'.cell? ⟨vb, 1, none⟩ = some (.slice na ns.length nc)) (go_keep)
                (first
                  | (go_at_call 20; refine PV.mono ?_; clear PV; rintro e w10 ⟨r3, d3, na3, nc3, rfl, hp10, hn10, hb10⟩; have hbt := (Below.refl _ w9).drew.trans (hb10.mono (Nat.le_refl _)); have HW10 : Hid (Lp w10 r2 vs ∧ Ln w10 na ns ∧ Lp w10 r3 vs ∧ Ln w10 na3 ns ∧ w10.heap[vb]? = some (.cells #[.slice r2 12 d2, .slice na ns.length nc] 50 (0, 0)) ∧ Below w9.heap.size w9 w10) := ⟨(HV9.out.1.below hbt).1, (HV9.out.2.1.below hbt).ln, hp10, hn10, (hbt.block vb (lt_of_some HV9.out.2.2)).trans HV9.out.2.2, hbt⟩; obtain ⟨_, _, u0, _, ub⟩ := bo_blk ((boO c).below HJ9.out.1 hbt); obtain ⟨t0, t1⟩ := cellv HW10.out.2.2.2.2.1; clear hp10 hn10 hb10 hbt)
                  | (go_at_call 22; have PS := sameView_eq r2 r3 na na3 d2 d3 nc nc3 vs ns w10 (by omega) (by omega) (fun nd hnd => by have := bd3 nd hnd; omega) HW10.out.1 HW10.out.2.2.1 HW10.out.2.1 HW10.out.2.2.2.1; rw [bd1] at PS; refine PS.mono ?_; clear PS; rintro e w11 ⟨rfl, hb11⟩; have hbt := HW10.out.2.2.2.2.2.trans (hb11.mono HW10.out.2.2.2.2.2.size); have HW11 : Hid (Ln w11 na ns ∧ w11.heap[vb]? = some (.cells #[.slice r2 12 d2, .slice na ns.length nc] 50 (0, 0)) ∧ Below w9.heap.size w9 w11) := ⟨HW10.out.2.1.below hb11, (hb11.block vb (lt_of_some HW10.out.2.2.2.2.1)).trans HW10.out.2.2.2.2.1, hbt⟩; obtain ⟨_, _, u0, _, ub⟩ := bo_blk ((boO c).below HJ9.out.1 hbt); obtain ⟨t0, t1⟩ := cellv HW11.out.2.1; clear hb11 hbt))
              have PZ := size_any r2 na 12 d2 nc w11 (by omega) (fun nd hnd => by have := bd3 nd hnd; omega) HW11.out.1
              have HF : Hid ((boO c).J F8 (S.1.cut c.a, S.2) w11 ∧ Below w1.heap.size w1 w11) := ⟨(boO c).below HJ9.out.1 HW11.out.2.2, HJ9.out.2.trans (HW11.out.2.2.mono HJ9.out.2.size)⟩
              have eO := HC.out.2.2
              clear HW10 HW11 HV9 HJ9 q0 q1 c0 b0c u0 ub
              generalize S.1.code c.a = cd at *
              rcases sf with ⟨rfl, rfl, f3, f4⟩ | ⟨rfl, rfl, rfl, f4⟩
              · generalize szV ns = z at *
                have f5 : ¬ ((S.1.s.g : Int) + (S.1.s.y : Int) < (g' : Int)) := by omega
                have f6 : ¬ ((g' : Int) < (z : Int)) := by omega
                go_wp2_with fail
                refine PZ.mono ?_
                clear PZ
                rintro e w12 ⟨rfl, hb12⟩
                have HF2 : Hid ((boO c).J F8 (S.1.cut c.a, S.2) w12 ∧ Below w1.heap.size w1 w12) := ⟨(boO c).below HF.out.1 hb12, HF.out.2.trans (hb12.mono HF.out.2.size)⟩
                clear hb12 HF
                go_wp2_with fail
                go_roundw
                case rel => exact ⟨j + 1, (S.1.cut c.a, S.2), F8, by omega, by go_num, ⟨HF2.out.1, HN.out.1, HN.out.2, HJ8.out.2⟩, HF2.out.2⟩
                case measure => simp [intOf]; omega
              · clear PZ
                have f5 : ¬ ((S.1.s.y : Int) ≤ (o : Int) - (S.1.s.g : Int)) := by omega
                go_wp2_with fail
                go_roundw
                case rel => exact ⟨j + 1, (S.1.cut c.a, S.2), F8, by omega, by go_num, ⟨HF.out.1, HN.out.1, HN.out.2, HJ8.out.2⟩, HF.out.2⟩
                case measure => simp [intOf]; omega
        · obtain rfl : j = l.length := by omega
          have hfin : Below w.heap.size w wr := hb1.trans (HB.out.mono hb1.size)
          go_wp2_with fail
          go_ret
          exact ⟨rfl, hfin⟩

end Go.Proofs.YtakofbkmhmcnfabGreat.MSl
