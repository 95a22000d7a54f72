/- Joined: Rm2, MLe, MLeP. -/
import Derived.Test.YtmocakafnnkjfabGreatJ39
import Derived.Deep.RegionWith
import Derived.Test.YtmocakafnnkjfabGreatJ38
import Derived.Test.YtmocakafnnkjfabGreatRows
import Derived.ProofKit
import Derived.OpenShut
import Derived.Lib.SmallJoins
import Derived.ShutString
import Derived.ChangeOld
import Derived.Below
/- What the document's own arena answers and leaves where it is made, and where a thing is made in it: contracts, over the seat's own translation; no block but the room's turns. -/
namespace Go.Proofs.YtmocakafnnkjfabGreat
open Go.RowKit W

set_option maxRecDepth 100000 in
set_option maxHeartbeats 400000 in
theorem roomFault_no (n o : Int) (w : World) (h : n < 16 ∨ 256 < n ∨ o < 0 ∨ 1024 < o) :
    Calls Tryz.prog 14 #[.int .i64 n, .int .i64 o] w fun e w' => e = .returned (.agg #[.int .i64 1, .int .i64 (-1)]) ∧ Below w.heap.size w w' := by
  have fin : ∀ (R : Ending → World → Prop), (∀ w1, Below (w.alloc (.cells #[.int .i64 0, .int .i64 0] 28)).heap.size (w.alloc (.cells #[.int .i64 0, .int .i64 0] 28)) w1 → R (.returned (.agg #[.int .i64 1, .int .i64 (-1)])) w1) → Calls Tryz.prog 51 #[.int .i64 1, .int .i64 (-1)] (w.alloc (.cells #[.int .i64 0, .int .i64 0] 28)) R := by
    intro R hR
    refine (f_any 1 (-1) _).mono ?_
    rintro e w1 ⟨rfl, hb⟩
    exact hR w1 hb
  by_cases h1 : n < 16
  · go_enter Tryz.func14, Tryz.ntmps14
    go_wp2_with fail
    refine fin _ ?_
    intro w1 hb
    obtain ⟨c0, c1, hz⟩ := cells2 hb
    obtain ⟨_, hf⟩ := bcell hb
    have f0 := hf w.heap.size 0 (by simp)
    have f1 := hf w.heap.size 1 (by simp)
    simp [go_sem] at f0 f1
    go_wp2_with fail
    exact bodyPost_ret (v := .agg #[.int .i64 1, .int .i64 (-1)]) (by simp [results, Tryz.results14, go_sem, c0, c1]) rfl ⟨rfl, ((((Below.refl _ _).alloc (Nat.le_refl _) _).trans (hb.mono (by simp))).setCell (Nat.le_refl _) _).setCell (Nat.le_refl _) _⟩
  by_cases h2 : 256 < n
  · go_enter Tryz.func14, Tryz.ntmps14
    go_wp2_with fail
    refine fin _ ?_
    intro w1 hb
    obtain ⟨c0, c1, hz⟩ := cells2 hb
    obtain ⟨_, hf⟩ := bcell hb
    have f0 := hf w.heap.size 0 (by simp)
    have f1 := hf w.heap.size 1 (by simp)
    simp [go_sem] at f0 f1
    go_wp2_with fail
    exact bodyPost_ret (v := .agg #[.int .i64 1, .int .i64 (-1)]) (by simp [results, Tryz.results14, go_sem, c0, c1]) rfl ⟨rfl, ((((Below.refl _ _).alloc (Nat.le_refl _) _).trans (hb.mono (by simp))).setCell (Nat.le_refl _) _).setCell (Nat.le_refl _) _⟩
  by_cases h3 : o < 0
  · go_enter Tryz.func14, Tryz.ntmps14
    go_wp2_with fail
    refine fin _ ?_
    intro w1 hb
    obtain ⟨c0, c1, hz⟩ := cells2 hb
    obtain ⟨_, hf⟩ := bcell hb
    have f0 := hf w.heap.size 0 (by simp)
    have f1 := hf w.heap.size 1 (by simp)
    simp [go_sem] at f0 f1
    go_wp2_with fail
    exact bodyPost_ret (v := .agg #[.int .i64 1, .int .i64 (-1)]) (by simp [results, Tryz.results14, go_sem, c0, c1]) rfl ⟨rfl, ((((Below.refl _ _).alloc (Nat.le_refl _) _).trans (hb.mono (by simp))).setCell (Nat.le_refl _) _).setCell (Nat.le_refl _) _⟩
  have h4 : 1024 < o := by omega
  go_enter Tryz.func14, Tryz.ntmps14
  go_wp2_with fail
  refine fin _ ?_
  intro w1 hb
  obtain ⟨c0, c1, hz⟩ := cells2 hb
  obtain ⟨_, hf⟩ := bcell hb
  have f0 := hf w.heap.size 0 (by simp)
  have f1 := hf w.heap.size 1 (by simp)
  simp [go_sem] at f0 f1
  go_wp2_with fail
  exact bodyPost_ret (v := .agg #[.int .i64 1, .int .i64 (-1)]) (by simp [results, Tryz.results14, go_sem, c0, c1]) rfl ⟨rfl, ((((Below.refl _ _).alloc (Nat.le_refl _) _).trans (hb.mono (by simp))).setCell (Nat.le_refl _) _).setCell (Nat.le_refl _) _⟩

end Go.Proofs.YtmocakafnnkjfabGreat

/- MajorLeast: its walk. -/
namespace Go.Proofs.YtmocakafnnkjfabGreat.MLe
open Go.RowKit W Kp Stl

theorem run_code (x y : Value) (w : World) : Sem.run Tryz.prog (Instr.field 28 (.agg #[x, y]) 0) w = .ok x w := by
  unfold Instr.field
  simp [go_sem]
  rfl
theorem Bok.more {c : Bc} {S : Ww × Wrs} {j : Nat} (h : Bok c S j) : Bok c S (j + 1) :=
  ⟨h.kv, h.wok, Nat.le_succ_of_le h.m, Nat.le_succ_of_le h.rq, Nat.le_succ_of_le h.t, Nat.le_succ_of_le h.rg, h.wt⟩
theorem cellx {w : World} {xb : Nat} {d A B C : Value} (hx : w.heap[xb]? = some (.cells #[d, A, B, C] 31 (0, 0))) : w.cell? ⟨xb, 0, none⟩ = some d ∧ w.cell? ⟨xb, 1, none⟩ = some A ∧ w.cell? ⟨xb, 2, none⟩ = some B ∧ w.cell? ⟨xb, 3, none⟩ = some C := by
  refine ⟨?_, ?_, ?_, ?_⟩ <;> simp [World.cell?, hx]
theorem cellv {w : World} {xb : Nat} {a b : Value} (hx : w.heap[xb]? = some (.cells #[a, b] 50 (0, 0))) : w.cell? ⟨xb, 0, none⟩ = some a ∧ w.cell? ⟨xb, 1, none⟩ = some b := by
  refine ⟨?_, ?_⟩ <;> simp [World.cell?, hx]

set_option maxRecDepth 100000 in
set_option maxHeartbeats 3000000 in
theorem walk (n o : Int) (a : Option Addr) (cc : Nat) (l : List S4) (w : World) (hl : L4 w a l) :
    Calls Tryz.prog 7 #[.int .i64 n, .int .i64 o, .slice a l.length cc] w fun e w' => e = .returned (.bool true) ∧ Below w.heap.size w w' := by
  have HL : Hid (L4 w a l) := hl
  clear hl
  by_cases hlen : 250 < l.length
  · go_enter Tryz.func7, Tryz.ntmps7
    go_wp2_with fail
    refine (majorBegun_any w).mono ?_
    rintro e w1 ⟨rfl, hb1⟩
    have h2 : (250 : Int) < (l.length : Int) := by omega
    go_wp2_with fail
    go_ret
    exact ⟨rfl, hb1⟩
  · have h2 : ¬ ((250 : Int) < (l.length : Int)) := by omega
    by_cases hno : n < 16 ∨ 256 < n ∨ o < 0 ∨ 1024 < o
    · have HNO : Hid (n < 16 ∨ 256 < n ∨ o < 0 ∨ 1024 < o) := hno
      clear hno
      go_enter Tryz.func7, Tryz.ntmps7
      go_wp2_with fail
      refine (majorBegun_any w).mono ?_
      rintro e w1 ⟨rfl, hb1⟩
      go_wp2_with fail
      refine (start_no n o w1 HNO.out).mono ?_
      rintro e w2 ⟨rfl, hb2⟩
      go_wp2_with fail
      refine (roomFault_no n o w2 HNO.out).mono ?_
      rintro e w3 ⟨rfl, hb3⟩
      have hB2 := hb1.trans (hb2.mono hb1.size)
      have hrn := run_code (.int .i64 1) (.int .i64 (-1))
      go_wp2_with fail
      go_ret
      exact ⟨rfl, hB2.trans (hb3.mono hB2.size)⟩
    · have hn0 : 16 ≤ n ∧ n ≤ 256 ∧ 0 ≤ o ∧ o ≤ 1024 := by omega
      obtain ⟨n, rfl⟩ := Int.eq_ofNat_of_zero_le (show 0 ≤ n by omega)
      obtain ⟨o, rfl⟩ := Int.eq_ofNat_of_zero_le (show 0 ≤ o by omega)
      go_enter Tryz.func7, Tryz.ntmps7
      go_wp2_with fail
      refine (majorBegun_any w).mono ?_
      rintro e w1 ⟨rfl, hb1⟩
      go_wp2_with fail
      refine (start_yes n o w1 (by omega) (by omega) (by omega)).mono ?_
      rintro e w2 ⟨c, F1, rfl, j1, ⟨k1, k2, k3, k4⟩, g1, b1⟩
      have HC : Hid (0 ≤ c.most ∧ c.most ≤ 100000 ∧ c.a.O = o) := ⟨by rw [k3]; omega, by rw [k3]; omega, k2⟩
      have H2 : Hid ((boO c).J F1 (bo0 n o) w2 ∧ Bok c (bo0 n o) 0 ∧ So0 c.a (bo0 n o).1 ∧ ∀ b, F1 b → w1.heap.size ≤ b) := ⟨j1, Bok.start c n o, So0.start c.a n o, g1⟩
      have HB2 : Hid (Below w1.heap.size w1 w2) := b1
      have o0 : (0 : Int) ≤ (o : Int) := by omega
      have o1 : (o : Int) ≤ 1024 := by omega
      clear j1 k1 k2 k3 k4 g1 b1 hno hn0
      go_wp2_with fail
      go_loopw [9] (fun iv wr => ∃ (j : Nat) (S : Ww × Wrs) (F : Nat → Prop), j ≤ l.length ∧ iv = .int .i64 j ∧ Hid ((boO c).J F S wr ∧ Bok c S j ∧ So0 c.a S.1 ∧ ∀ b, F b → w1.heap.size ≤ b) ∧ Hid (Below w1.heap.size w1 wr)) (fun iv _ => l.length - (intOf iv).toNat)
      case atStart => exact ⟨0, bo0 n o, F1, Nat.zero_le _, rfl, H2, HB2⟩
      case round =>
        clear H2 HB2
        obtain ⟨j, S, F, hj, rfl, H, HB⟩ := hrel
        by_cases hlt : j < l.length
        · obtain ⟨b0, p0, e0, l0, hc⟩ := HL.out (by omega)
          obtain ⟨⟨x1, x2, x3, x4⟩, _, _⟩ := hc j hlt
          subst e0
          clear hc
          have hbw := hb1.trans (HB.out.mono hb1.size)
          have y1 := (hbw.cell (p := ⟨b0, p0 + j * 4, none⟩) l0).trans x1
          have y2 := (hbw.cell (p := ⟨b0, p0 + j * 4 + 1, none⟩) l0).trans x2
          have y3 := (hbw.cell (p := ⟨b0, p0 + j * 4 + 2, none⟩) l0).trans x3
          have y4 := (hbw.cell (p := ⟨b0, p0 + j * 4 + 3, none⟩) l0).trans x4
          clear x1 x2 x3 x4 hbw l0
          generalize (l.getD j (0, 0, 0, 0)).1 = d at *
          generalize (l.getD j (0, 0, 0, 0)).2.1 = A at *
          generalize (l.getD j (0, 0, 0, 0)).2.2.1 = B at *
          generalize (l.getD j (0, 0, 0, 0)).2.2.2 = C at *
          have j0 : (0 : Int) ≤ (j : Int) := by omega
          have j1 : (j : Int) < (l.length : Int) := by omega
          have hba := (Below.refl wr.heap.size wr).alloc (Nat.le_refl _) (.cells #[.int .i64 d, .int .i64 A, .int .i64 B, .int .i64 C] 31)
          have H4 : Hid ((boO c).J F S _ ∧ Bok c S j ∧ So0 c.a S.1 ∧ ∀ b, F b → w1.heap.size ≤ b) := ⟨(boO c).below H.out.1 hba, H.out.2⟩
          have HB4 : Hid (Below w1.heap.size w1 _) := HB.out.trans (hba.mono HB.out.size)
          have HX4 : Hid (_ = _) := heap_alloc_new wr (.cells #[.int .i64 d, .int .i64 A, .int .i64 B, .int .i64 C] 31)
          clear H HB hba
          go_upto_region 12 with fail
          generalize wr.alloc (.cells #[.int .i64 d, .int .i64 A, .int .i64 B, .int .i64 C] 31) = w4 at *
          generalize wr.heap.size = xb at *
          obtain ⟨z0, z1, z2, z3⟩ := cellx HX4.out
          clear y1 y2 y3 y4 HX4
          have hwb := bo_wbd H4.out.1
          by_cases hd : d < 6
          · by_cases hk : d = 0 ∧ A ≠ 1 ∧ A ≠ 2
            · obtain ⟨rfl, hA1, hA2⟩ := hk
              have hA3 : (A == 1) = false := by simpa using hA1
              have hA4 : (A == 2) = false := by simpa using hA2
              go_wp2_with fail
              go_roundw
              case rel => exact ⟨j + 1, S, F, by omega, by go_num, ⟨H4.out.1, Bok.more H4.out.2.1, H4.out.2.2.1, H4.out.2.2.2⟩, HB4⟩
              case measure => simp [intOf]; omega
            · have P := do_any H4.out.1 (H4.out.2.1.rb (by omega)) HC.out.1 HC.out.2.1 (by have := H4.out.2.1.m; omega) (by have := H4.out.2.1.rq; omega) (by have := H4.out.2.1.rq; omega) d A B C
              have HN : Hid (Bok c (doS c S d A B C) (j + 1) ∧ So0 c.a (doS c S d A B C).1) := ⟨H4.out.2.1.do hwb d A B C, H4.out.2.2.1.do hwb d A B C (by omega)⟩
              generalize doS c S d A B C = S3 at *
              have hA : d ≠ 0 ∨ (d = 0 ∧ A = 1) ∨ (d = 0 ∧ A = 2) := by omega
              clear hk hwb
              as_aux_lemma =>
              rcases hA with hA | ⟨rfl, rfl⟩ | ⟨rfl, rfl⟩
              case' inl => have hA0 : (d != 0) = true := by simpa using hA
              all_goals
                go_wp2_with fail
                refine P.mono ?_
                clear P
                rintro e w5 ⟨F5, rfl, j5, t5⟩
                have H5 : Hid ((boO c).J F5 S3 w5 ∧ Bok c S3 (j + 1) ∧ So0 c.a S3.1 ∧ ∀ b, F5 b → w1.heap.size ≤ b) := ⟨j5, HN.out.1, HN.out.2, fun b d => (t5.sub b d).elim (H4.out.2.2.2 b) (fun e => Nat.le_trans HB4.out.size e)⟩
                have HB5 : Hid (Below w1.heap.size w1 w5) := HB4.out.trans (t5.fr.below HB4.out.size H4.out.2.2.2)
                clear j5 t5
                go_wp2_with fail
                go_roundw
                case rel => exact ⟨j + 1, S3, F5, by omega, by go_num, H5, HB5⟩
                case measure => simp [intOf]; omega
          · by_cases hd6 : d = 6
            · subst hd6
              have PC := cutB_any H4.out.1 (by have := H4.out.2.1.rq; omega)
              have HN : Hid (Bok c (S.1.cut c.a, S.2) (j + 1) ∧ So0 c.a (S.1.cut c.a)) := ⟨H4.out.2.1.cut hwb, H4.out.2.2.1.cut hwb⟩
              obtain ⟨_, _, _, _, b0c⟩ := bo_blk H4.out.1
              clear hwb
              as_aux_lemma =>
              go_wp2_with fail
              refine PC.mono ?_
              clear PC
              rintro e w5 ⟨F5, rfl, j5, t5⟩
              have H5 : Hid ((boO c).J F5 (S.1.cut c.a, S.2) w5 ∧ Bok c (S.1.cut c.a, S.2) (j + 1) ∧ So0 c.a (S.1.cut c.a) ∧ ∀ b, F5 b → w1.heap.size ≤ b) := ⟨j5, HN.out.1, HN.out.2, fun b d => (t5.sub b d).elim (H4.out.2.2.2 b) (fun e => Nat.le_trans HB4.out.size e)⟩
              have HB5 : Hid (Below w1.heap.size w1 w5) := HB4.out.trans (t5.fr.below HB4.out.size H4.out.2.2.2)
              clear j5 t5
              go_wp2_with fail
              go_roundw
              case rel => exact ⟨j + 1, (S.1.cut c.a, S.2), F5, by omega, by go_num, H5, HB5⟩
              case measure => simp [intOf]; omega
            · have d1 : (d == 6) = false := by simpa using hd6
              have hq0 : S.1.q.length ≤ 250 := by have := H4.out.2.1.rq; omega
              have PV := viewB_new H4.out.1 (by omega)
              obtain ⟨sl, sk, sM, sv1, sv2, sf⟩ := great_strong H4.out.2.2.1 hwb
              obtain ⟨bd1, bd2, bd3⟩ := view_bd c.a.N S.1.s.y S.1.s.g S.1.s.ws S.1.q S.1.s.rs
              rw [hwb.r1] at bd1
              have HN : Hid (Bok c (S.1.gcut c.a, S.2) (j + 1) ∧ So0 c.a (S.1.gcut c.a)) := ⟨H4.out.2.1.gcut H4.out.2.2.1 hwb, sk⟩
              have HVW : Hid (∀ F' w', (boO c).J F' (S.1.gcut c.a, S.2) w' → Calls Tryz.prog 20 #[.pointer (some ⟨c.a.pw, 0, none⟩)] w' fun e w'' => ∃ r2 d2 na nc, e = .returned (.agg #[.slice r2 12 d2, .slice na (vwL c.a.N S.1.s.y S.1.s.g S.1.s.ws S.1.q S.1.s.rs).2.2.length nc]) ∧ Lp w'' r2 (vwL c.a.N S.1.s.y S.1.s.g S.1.s.ws S.1.q S.1.s.rs).1 ∧ Ln w'' na (vwL c.a.N S.1.s.y S.1.s.g S.1.s.ws S.1.q S.1.s.rs).2.2 ∧ Below w'.heap.size w' w'') := fun F' w' hJ => by
                refine (viewB_any hJ (by dsimp only; rw [sk.q]; decide)).mono ?_
                rintro e w'' ⟨r2, d2, na, nn, nc, rfl, q1, q2, rfl, q4⟩
                dsimp only at q1 q2
                rw [sv1] at q1
                rw [sv2] at q2
                exact ⟨r2, d2, na, nc, by dsimp only; rw [sv2], q1, q2, q4⟩
              have HSL : Hid (S.1.jfull c.a = false → ∃ G, SlG (S.1.k5 c.a) (S.1.j5 c.a) G ∧ G 0 (S.1.k5 c.a, 0)) := sl
              have gO := hwb.g1
              have gOO := hwb.o1
              have gY := hwb.y1
              have gN := hwb.n1
              obtain ⟨Yv, Gv, kv1, _⟩ := H4.out.2.2.1.k
              have hzb := view_size (O := c.a.O) kv1.inv.full hwb.n1 hwb.y1 hwb.o1 hwb.g1 S.1.q S.1.s.rs
              clear kv1
              generalize vwL c.a.N S.1.s.y S.1.s.g S.1.s.ws S.1.q S.1.s.rs = R at *
              obtain ⟨vs, ms, ns⟩ := R
              dsimp only at *
              clear sv1 sv2 sk sM sl hwb
              obtain ⟨_, _, c0, _, b0c⟩ := bo_blk H4.out.1
              have lF : Hid (∀ b, F b → b < w4.heap.size) := (boO c).lt H4.out.1
              as_aux_lemma =>
              go_wp2_with fail
              refine PV.mono ?_
              clear PV
              rintro e w5 ⟨r2, d2, na, nn, nc, rfl, hp5, hn5, rfl, hb5⟩
              have hba := (Below.refl w5.heap.size w5).alloc (Nat.le_refl _) (.cells #[.slice r2 12 d2, .slice na ns.length nc] 50)
              have hb6 := hb5.trans (hba.mono hb5.size)
              have J6 := (boO c).below H4.out.1 hb6
              obtain ⟨_, _, c0, _, b0c⟩ := bo_blk J6
              have PC := cutGB_any J6 (by have := H4.out.2.1.rq; omega) HSL.out
              have HV7 : Hid (LpN (w5.alloc (.cells #[.slice r2 12 d2, .slice na ns.length nc] 50)) w4.heap.size r2 vs ∧ LnN (w5.alloc (.cells #[.slice r2 12 d2, .slice na ns.length nc] 50)) w4.heap.size na ns ∧ (w5.alloc (.cells #[.slice r2 12 d2, .slice na ns.length nc] 50)).heap[w5.heap.size]? = some (.cells #[.slice r2 12 d2, .slice na ns.length nc] 50 (0, 0)) ∧ w4.heap.size ≤ w5.heap.size) := ⟨hp5.below hba, hn5.below hba, heap_alloc_new _ _, hb5.size⟩
              have HJ7 : Hid (Below w1.heap.size w1 (w5.alloc (.cells #[.slice r2 12 d2, .slice na ns.length nc] 50))) := HB4.out.trans (hb6.mono HB4.out.size)
              clear hp5 hn5 hb5 hba hb6 J6 z0 z1 z2 z3
              go_wp2_with fail
              generalize w5.alloc (.cells #[.slice r2 12 d2, .slice na ns.length nc] 50) = w7 at *
              generalize w5.heap.size = vb at *
              refine PC.mono ?_
              clear PC
              rintro e w8 ⟨F8, rfl, j8, t8⟩
              have HJ8 : Hid (Below w1.heap.size w1 w8 ∧ ∀ b, F8 b → w1.heap.size ≤ b) := ⟨HJ7.out.trans (t8.fr.below HJ7.out.size H4.out.2.2.2), fun b d => (t8.sub b d).elim (H4.out.2.2.2 b) (fun e => Nat.le_trans HJ7.out.size e)⟩
              have HV9 : Hid (LpN w8 w4.heap.size r2 vs ∧ LnN w8 w4.heap.size na ns ∧ w8.heap[vb]? = some (.cells #[.slice r2 12 d2, .slice na ns.length nc] 50 (0, 0))) := ⟨HV7.out.1.fr t8.fr lF.out, HV7.out.2.1.fr t8.fr lF.out, (t8.fr.block vb (lt_of_some HV7.out.2.2.1) (fun d => by have := lF.out vb d; have := HV7.out.2.2.2; omega)).trans HV7.out.2.2.1⟩
              have HJ9 : Hid ((boO c).J F8 (S.1.gcut c.a, S.2) w8 ∧ Below w1.heap.size w1 w8) := ⟨j8, HJ8.out.1⟩
              obtain ⟨_, _, c0, _, b0c⟩ := bo_blk j8
              obtain ⟨q0, q1⟩ := cellv HV9.out.2.2
              have PV := HVW.out F8 w8.drew ((boO c).below j8 (Below.refl _ w8).drew)
              have eO := HC.out.2.2
              clear t8 j8 HV7 HJ7 HVW HSL d1
              rcases sf with ⟨e1, e2, e3, f4⟩ | ⟨e1, e2, e3, f4⟩
              · rw [e1]
                have f5 : decide (o < szV ns) = false := decide_eq_false (by omega)
                have HG : Hid ((S.1.gcut c.a).s.y = 0 ∧ (S.1.gcut c.a).s.g = szV ns) := ⟨e2, e3⟩
                clear e1 e2 e3
                go_wp2_with fail
                refine wp_region_held_drew (S := fun w' => w'.cell? ⟨c.pb, 0, none⟩ = some (.pointer (some ⟨c.a.pw, 0, none⟩)) ∧ w'.cell? ⟨vb, 0, none⟩ = some (.slice r2 12 d2) ∧ w'.cell? ⟨vb, 1, none⟩ = some (.slice na ns.length nc)) (by kernel_rfl) ?_ (fun hHeld => ?_)
                · exact ⟨b0c, q0, q1⟩
                refine wpAnyH_take (i := 0) (v := ?_) rfl (by kernel_rfl) (by kernel_rfl) (by kernel_rfl) (fun _ _ _ h => h) (Or.inl ⟨by rfl, ?_⟩) hHeld ?_
                rotate_left
                · intro w hSw
                  obtain ⟨hs0, hs1, hs2⟩ := hSw
                  go_simp
                  try rfl
                try simp only [Act.put, List.getElem_toArray, List.getElem_cons_zero, List.setIfInBounds_toArray, List.set_cons_zero, List.set_cons_succ]
                refine wpAnyH_take (i := 1) (v := ?_) rfl (by kernel_rfl) (by kernel_rfl) (by kernel_rfl) (fun _ _ _ h => h) (Or.inl ⟨by rfl, ?_⟩) hHeld ?_
                rotate_left
                · intro w hSw
                  obtain ⟨hs0, hs1, hs2⟩ := hSw
                  go_simp
                  try rfl
                try simp only [Act.put, List.getElem_toArray, List.getElem_cons_succ, List.getElem_cons_zero, List.setIfInBounds_toArray, List.set_cons_zero, List.set_cons_succ]
                refine wpAnyH_take (i := 2) (v := ?_) rfl (by kernel_rfl) (by kernel_rfl) (by kernel_rfl) (fun _ _ _ h => h) (Or.inl ⟨by rfl, ?_⟩) hHeld ?_
                rotate_left
                · intro w hSw
                  obtain ⟨hs0, hs1, hs2⟩ := hSw
                  go_simp
                  try rfl
                try simp only [Act.put, List.getElem_toArray, List.getElem_cons_succ, List.getElem_cons_zero, List.setIfInBounds_toArray, List.set_cons_zero, List.set_cons_succ]
                refine wpAnyH_take (i := 3) (v := ?_) rfl (by kernel_rfl) (by kernel_rfl) (by kernel_rfl) (fun _ _ _ h => h) (Or.inl ⟨by rfl, ?_⟩) hHeld ?_
                rotate_left
                · intro w hSw
                  obtain ⟨hs0, hs1, hs2⟩ := hSw
                  go_simp
                  try rfl
                try simp only [Act.put, List.getElem_toArray, List.getElem_cons_succ, List.getElem_cons_zero, List.setIfInBounds_toArray, List.set_cons_zero, List.set_cons_succ]
                refine wpAnyH_take (i := 4) (v := ?_) rfl (by kernel_rfl) (by kernel_rfl) (by kernel_rfl) (fun _ _ _ h => h) (Or.inl ⟨by rfl, ?_⟩) hHeld ?_
                rotate_left
                · intro w hSw
                  obtain ⟨hs0, hs1, hs2⟩ := hSw
                  go_simp
                  try rfl
                try simp only [Act.put, List.getElem_toArray, List.getElem_cons_succ, List.getElem_cons_zero, List.setIfInBounds_toArray, List.set_cons_zero, List.set_cons_succ]
                refine H_one (i := 5) (by kernel_rfl) ?_
                refine wpOp_of_wp rfl rfl ?_
                simp only [List.getElem_toArray, List.getElem_cons_succ, List.getElem_cons_zero]
                go_simp
                refine PV.mono ?_
                clear PV
                rintro e w10 ⟨r3, d3, na3, nc3, rfl, hp10, hn10, hb10⟩
                have hbt := (Below.refl _ w8).drew.trans (hb10.mono (Nat.le_refl _))
                have HW10 : Hid (Lp w10 r2 vs ∧ Ln w10 na ns ∧ Lp w10 r3 vs ∧ Ln w10 na3 ns ∧ w10.heap[vb]? = some (.cells #[.slice r2 12 d2, .slice na ns.length nc] 50 (0, 0)) ∧ Below w8.heap.size w8 w10) := ⟨(HV9.out.1.below hbt).1, (HV9.out.2.1.below hbt).ln, hp10, hn10, (hbt.block vb (lt_of_some HV9.out.2.2)).trans HV9.out.2.2, hbt⟩
                obtain ⟨_, _, u0, _, ub⟩ := bo_blk ((boO c).below HJ9.out.1 hbt)
                obtain ⟨t0, t1⟩ := cellv HW10.out.2.2.2.2.1
                clear hp10 hn10 hb10 hbt hHeld
                dsimp only
                have hHeld := (⟨ub, t0, t1⟩ : _ ∧ _ ∧ _)
                refine ⟨hHeld, ?_⟩
                try simp only [Act.put, List.getElem_toArray, List.getElem_cons_succ, List.getElem_cons_zero, List.setIfInBounds_toArray, List.set_cons_zero, List.set_cons_succ]
                refine H_one (i := 6) (by kernel_rfl) ?_
                refine wpOp_of_wp rfl rfl ?_
                simp only [List.getElem_toArray, List.getElem_cons_succ, List.getElem_cons_zero]
                go_simp
                have PS := sameView_eq r2 r3 na na3 d2 d3 nc nc3 vs ns w10 (by omega) (by omega) (fun nd hnd => by have := bd3 nd hnd; omega) HW10.out.1 HW10.out.2.2.1 HW10.out.2.1 HW10.out.2.2.2.1
                rw [bd1] at PS
                refine PS.mono ?_
                clear PS u0 ub t0 t1 hHeld
                rintro e w11 ⟨rfl, hb11⟩
                have hbt := HW10.out.2.2.2.2.2.trans (hb11.mono HW10.out.2.2.2.2.2.size)
                have HW11 : Hid (Ln w11 na ns ∧ w11.heap[vb]? = some (.cells #[.slice r2 12 d2, .slice na ns.length nc] 50 (0, 0)) ∧ Below w8.heap.size w8 w11) := ⟨HW10.out.2.1.below hb11, (hb11.block vb (lt_of_some HW10.out.2.2.2.2.1)).trans HW10.out.2.2.2.2.1, hbt⟩
                obtain ⟨_, _, u0, _, ub⟩ := bo_blk ((boO c).below HJ9.out.1 hbt)
                obtain ⟨t0, t1⟩ := cellv HW11.out.2.1
                clear hb11 hbt HW10
                dsimp only
                have hHeld := (⟨ub, t0, t1⟩ : _ ∧ _ ∧ _)
                refine ⟨hHeld, ?_⟩
                try simp only [Act.put, List.getElem_toArray, List.getElem_cons_succ, List.getElem_cons_zero, List.setIfInBounds_toArray, List.set_cons_zero, List.set_cons_succ]
                refine wpAnyH_take (i := 7) (v := ?_) rfl (by kernel_rfl) (by kernel_rfl) (by kernel_rfl) (fun _ _ _ h => h) (Or.inl ⟨by rfl, ?_⟩) hHeld ?_
                rotate_left
                · intro w hSw
                  obtain ⟨hs0, hs1, hs2⟩ := hSw
                  go_simp
                  try rfl
                try simp only [Act.put, List.getElem_toArray, List.getElem_cons_succ, List.getElem_cons_zero, List.setIfInBounds_toArray, List.set_cons_zero, List.set_cons_succ]
                refine wpAnyH_take (i := 8) (v := ?_) rfl (by kernel_rfl) (by kernel_rfl) (by kernel_rfl) (fun _ _ _ h => h) (Or.inl ⟨by rfl, ?_⟩) hHeld ?_
                rotate_left
                · intro w hSw
                  obtain ⟨hs0, hs1, hs2⟩ := hSw
                  go_simp
                  try rfl
                try simp only [Act.put, List.getElem_toArray, List.getElem_cons_succ, List.getElem_cons_zero, List.setIfInBounds_toArray, List.set_cons_zero, List.set_cons_succ]
                refine wpAnyH_take (i := 9) (v := ?_) rfl (by kernel_rfl) (by kernel_rfl) (by kernel_rfl) (fun _ _ _ h => h) (Or.inl ⟨by rfl, ?_⟩) hHeld ?_
                rotate_left
                · intro w hSw
                  obtain ⟨hs0, hs1, hs2⟩ := hSw
                  go_simp
                  try rfl
                try simp only [Act.put, List.getElem_toArray, List.getElem_cons_succ, List.getElem_cons_zero, List.setIfInBounds_toArray, List.set_cons_zero, List.set_cons_succ]
                refine wpAnyH_take (i := 10) (v := ?_) rfl (by kernel_rfl) (by kernel_rfl) (by kernel_rfl) (fun _ _ _ h => h) (Or.inl ⟨by rfl, ?_⟩) hHeld ?_
                rotate_left
                · intro w hSw
                  obtain ⟨hs0, hs1, hs2⟩ := hSw
                  go_simp
                  try rfl
                try simp only [Act.put, List.getElem_toArray, List.getElem_cons_succ, List.getElem_cons_zero, List.setIfInBounds_toArray, List.set_cons_zero, List.set_cons_succ]
                refine wpAnyH_take (i := 11) (v := ?_) rfl (by kernel_rfl) (by kernel_rfl) (by kernel_rfl) (fun _ _ _ h => h) (Or.inl ⟨by rfl, ?_⟩) hHeld ?_
                rotate_left
                · intro w hSw
                  obtain ⟨hs0, hs1, hs2⟩ := hSw
                  go_simp
                  try rfl
                try simp only [Act.put, List.getElem_toArray, List.getElem_cons_succ, List.getElem_cons_zero, List.setIfInBounds_toArray, List.set_cons_zero, List.set_cons_succ]
                refine wpAnyH_take (i := 13) (v := ?_) rfl (by kernel_rfl) (by kernel_rfl) (by kernel_rfl) (fun _ _ _ h => h) (Or.inl ⟨by rfl, ?_⟩) hHeld ?_
                rotate_left
                · intro w hSw
                  obtain ⟨hs0, hs1, hs2⟩ := hSw
                  go_simp
                  try rfl
                try simp only [Act.put, List.getElem_toArray, List.getElem_cons_succ, List.getElem_cons_zero, List.setIfInBounds_toArray, List.set_cons_zero, List.set_cons_succ]
                refine H_oneG (i := 12) (by kernel_rfl) rfl (by rfl) ?_
                simp only [List.getElem_toArray, List.getElem_cons_succ, List.getElem_cons_zero]
                go_simp
                refine (size_any r2 na 12 d2 nc w11 (by omega) (fun nd hnd => by have := bd3 nd hnd; omega) HW11.out.1).mono ?_
                clear u0 ub t0 t1 hHeld
                rintro e w12 ⟨rfl, hb12⟩
                have hbt := HW11.out.2.2.trans (hb12.mono HW11.out.2.2.size)
                have HW12 : Hid (Ln w12 na ns ∧ w12.heap[vb]? = some (.cells #[.slice r2 12 d2, .slice na ns.length nc] 50 (0, 0)) ∧ Below w8.heap.size w8 w12) := ⟨HW11.out.1.below hb12, (hb12.block vb (lt_of_some HW11.out.2.1)).trans HW11.out.2.1, hbt⟩
                obtain ⟨_, _, u0, _, ub⟩ := bo_blk ((boO c).below HJ9.out.1 hbt)
                obtain ⟨t0, t1⟩ := cellv HW12.out.2.1
                clear hb12 hbt HW11
                dsimp only
                have hHeld := (⟨ub, t0, t1⟩ : _ ∧ _ ∧ _)
                refine ⟨hHeld, ?_⟩
                try simp only [Act.put, List.getElem_toArray, List.getElem_cons_succ, List.getElem_cons_zero, List.setIfInBounds_toArray, List.set_cons_zero, List.set_cons_succ]
                refine wpAnyH_take (i := 14) (v := ?_) rfl (by kernel_rfl) (by kernel_rfl) (by kernel_rfl) (fun _ _ _ h => h) (Or.inl ⟨by rfl, ?_⟩) hHeld ?_
                rotate_left
                · intro w hSw
                  obtain ⟨hs0, hs1, hs2⟩ := hSw
                  go_simp
                  try rfl
                try simp only [Act.put, List.getElem_toArray, List.getElem_cons_succ, List.getElem_cons_zero, List.setIfInBounds_toArray, List.set_cons_zero, List.set_cons_succ]
                refine wpAnyH_take (i := 15) (v := ?_) rfl (by kernel_rfl) (by kernel_rfl) (by kernel_rfl) (fun _ _ _ h => h) (Or.inl ⟨by rfl, ?_⟩) hHeld ?_
                rotate_left
                · intro w hSw
                  obtain ⟨hs0, hs1, hs2⟩ := hSw
                  go_simp
                  try rfl
                try simp only [Act.put, List.getElem_toArray, List.getElem_cons_succ, List.getElem_cons_zero, List.setIfInBounds_toArray, List.set_cons_zero, List.set_cons_succ]
                refine wpAnyH_take (i := 16) (v := ?_) rfl (by kernel_rfl) (by kernel_rfl) (by kernel_rfl) (fun _ _ _ h => h) (Or.inl ⟨by rfl, ?_⟩) hHeld ?_
                rotate_left
                · intro w hSw
                  obtain ⟨hs0, hs1, hs2⟩ := hSw
                  go_simp
                  try rfl
                try simp only [Act.put, List.getElem_toArray, List.getElem_cons_succ, List.getElem_cons_zero, List.setIfInBounds_toArray, List.set_cons_zero, List.set_cons_succ]
                refine wpAnyH_take (i := 17) (v := ?_) rfl (by kernel_rfl) (by kernel_rfl) (by kernel_rfl) (fun _ _ _ h => h) (Or.inl ⟨by rfl, ?_⟩) hHeld ?_
                rotate_left
                · intro w hSw
                  obtain ⟨hs0, hs1, hs2⟩ := hSw
                  go_simp
                  try rfl
                try simp only [Act.put, List.getElem_toArray, List.getElem_cons_succ, List.getElem_cons_zero, List.setIfInBounds_toArray, List.set_cons_zero, List.set_cons_succ]
                refine wpAnyH_take (i := 18) (v := ?_) rfl (by kernel_rfl) (by kernel_rfl) (by kernel_rfl) (fun _ _ _ h => h) (Or.inl ⟨by rfl, ?_⟩) hHeld ?_
                rotate_left
                · intro w hSw
                  obtain ⟨hs0, hs1, hs2⟩ := hSw
                  go_simp
                  try rfl
                try simp only [Act.put, List.getElem_toArray, List.getElem_cons_succ, List.getElem_cons_zero, List.setIfInBounds_toArray, List.set_cons_zero, List.set_cons_succ]
                refine wpAnyH_take (i := 19) (v := ?_) rfl (by kernel_rfl) (by kernel_rfl) (by kernel_rfl) (fun _ _ _ h => h) (Or.inl ⟨by rfl, ?_⟩) hHeld ?_
                rotate_left
                · intro w hSw
                  obtain ⟨hs0, hs1, hs2⟩ := hSw
                  go_simp
                  try rfl
                try simp only [Act.put, List.getElem_toArray, List.getElem_cons_succ, List.getElem_cons_zero, List.setIfInBounds_toArray, List.set_cons_zero, List.set_cons_succ]
                refine wpAnyH_take (i := 20) (v := ?_) rfl (by kernel_rfl) (by kernel_rfl) (by kernel_rfl) (fun _ _ _ h => h) (Or.inl ⟨by rfl, ?_⟩) hHeld ?_
                rotate_left
                · intro w hSw
                  obtain ⟨hs0, hs1, hs2⟩ := hSw
                  go_simp
                  try rfl
                try simp only [Act.put, List.getElem_toArray, List.getElem_cons_succ, List.getElem_cons_zero, List.setIfInBounds_toArray, List.set_cons_zero, List.set_cons_succ]
                refine wpAnyH_take (i := 21) (v := undef) rfl (by kernel_rfl) (by kernel_rfl) (by kernel_rfl) (fun _ _ _ h => h) (Or.inr ⟨by rfl, rfl⟩) hHeld ?_
                try simp only [Act.put, List.getElem_toArray, List.getElem_cons_succ, List.getElem_cons_zero, List.setIfInBounds_toArray, List.set_cons_zero, List.set_cons_succ]
                refine wpAnyH_take (i := 22) (v := undef) rfl (by kernel_rfl) (by kernel_rfl) (by kernel_rfl) (fun _ _ _ h => h) (Or.inr ⟨by rfl, rfl⟩) hHeld ?_
                try simp only [Act.put, List.getElem_toArray, List.getElem_cons_succ, List.getElem_cons_zero, List.setIfInBounds_toArray, List.set_cons_zero, List.set_cons_succ]
                refine wpAnyH_take (i := 23) (v := ?_) rfl (by kernel_rfl) (by kernel_rfl) (by kernel_rfl) (fun _ _ _ h => h) (Or.inl ⟨by rfl, ?_⟩) hHeld ?_
                rotate_left
                · intro w hSw
                  obtain ⟨hs0, hs1, hs2⟩ := hSw
                  go_simp
                  try rfl
                try simp only [Act.put, List.getElem_toArray, List.getElem_cons_succ, List.getElem_cons_zero, List.setIfInBounds_toArray, List.set_cons_zero, List.set_cons_succ]
                refine wpAnyH_take (i := 24) (v := ?_) rfl (by kernel_rfl) (by kernel_rfl) (by kernel_rfl) (fun _ _ _ h => h) (Or.inl ⟨by rfl, ?_⟩) hHeld ?_
                rotate_left
                · intro w hSw
                  obtain ⟨hs0, hs1, hs2⟩ := hSw
                  go_simp
                  try rfl
                try simp only [Act.put, List.getElem_toArray, List.getElem_cons_succ, List.getElem_cons_zero, List.setIfInBounds_toArray, List.set_cons_zero, List.set_cons_succ]
                refine wpAnyH_done (by kernel_rfl) ?_ _
                clear HV9
                have J12 := (boO c).below HJ9.out.1 HW12.out.2.2
                have PU := usedB_any J12
                dsimp only at PU
                rw [HG.out.1, HG.out.2] at PU
                obtain ⟨_, _, c0, _, b0c⟩ := bo_blk J12
                have HF : Hid ((boO c).J F8 (S.1.gcut c.a, S.2) w12 ∧ Below w1.heap.size w1 w12) := ⟨J12, HJ9.out.2.trans (HW12.out.2.2.mono HJ9.out.2.size)⟩
                clear J12 u0 ub t0 t1 hHeld
                go_wp2_with fail
                refine PU.mono ?_
                clear PU
                rintro e w13 ⟨rfl, hb13⟩
                have PZ := size_any r2 na 12 d2 nc w13 (by omega) (fun nd hnd => by have := bd3 nd hnd; omega) (HW12.out.1.below hb13)
                obtain ⟨t0, t1⟩ := cellv ((hb13.block vb (lt_of_some HW12.out.2.1)).trans HW12.out.2.1)
                have HF3 : Hid ((boO c).J F8 (S.1.gcut c.a, S.2) w13 ∧ Below w1.heap.size w1 w13) := ⟨(boO c).below HF.out.1 hb13, HF.out.2.trans (hb13.mono HF.out.2.size)⟩
                clear hb13 HF HW12 c0 b0c
                generalize szV ns = z at *
                go_wp2_with fail
                refine PZ.mono ?_
                clear PZ
                rintro e w14 ⟨rfl, hb14⟩
                have HF4 : Hid ((boO c).J F8 (S.1.gcut c.a, S.2) w14 ∧ Below w1.heap.size w1 w14) := ⟨(boO c).below HF3.out.1 hb14, HF3.out.2.trans (hb14.mono HF3.out.2.size)⟩
                clear hb14 HF3 t0 t1
                go_wp2_with fail
                go_roundw
                case rel => exact ⟨j + 1, (S.1.gcut c.a, S.2), F8, by omega, by go_num, ⟨HF4.out.1, HN.out.1, HN.out.2, HJ8.out.2⟩, HF4.out.2⟩
                case measure => simp [intOf]; omega
              · rw [e1]
                have f5 : decide (o < szV ns) = true := decide_eq_true (by omega)
                clear e1 e2 e3
                go_wp2_with fail
                go_region_held3 (fun w' => w'.cell? ⟨c.pb, 0, none⟩ = some (.pointer (some ⟨c.a.pw, 0, none⟩)) ∧ w'.cell? ⟨vb, 0, none⟩ = some (.slice r2 12 d2) ∧ w'.cell? ⟨vb, 1, none⟩ = some (.slice na ns.length nc)) (go_keep)
                  (first
                    | (go_at_call 20; refine PV.mono ?_; clear PV; rintro e w10 ⟨r3, d3, na3, nc3, rfl, hp10, hn10, hb10⟩; have hbt := (Below.refl _ w8).drew.trans (hb10.mono (Nat.le_refl _)); have HW10 : Hid (Lp w10 r2 vs ∧ Ln w10 na ns ∧ Lp w10 r3 vs ∧ Ln w10 na3 ns ∧ w10.heap[vb]? = some (.cells #[.slice r2 12 d2, .slice na ns.length nc] 50 (0, 0)) ∧ Below w8.heap.size w8 w10) := ⟨(HV9.out.1.below hbt).1, (HV9.out.2.1.below hbt).ln, hp10, hn10, (hbt.block vb (lt_of_some HV9.out.2.2)).trans HV9.out.2.2, hbt⟩; obtain ⟨_, _, u0, _, ub⟩ := bo_blk ((boO c).below HJ9.out.1 hbt); obtain ⟨t0, t1⟩ := cellv HW10.out.2.2.2.2.1; clear hp10 hn10 hb10 hbt)
                    | (go_at_call 22; have PS := sameView_eq r2 r3 na na3 d2 d3 nc nc3 vs ns w10 (by omega) (by omega) (fun nd hnd => by have := bd3 nd hnd; omega) HW10.out.1 HW10.out.2.2.1 HW10.out.2.1 HW10.out.2.2.2.1; rw [bd1] at PS; refine PS.mono ?_; clear PS; rintro e w11 ⟨rfl, hb11⟩; have hbt := HW10.out.2.2.2.2.2.trans (hb11.mono HW10.out.2.2.2.2.2.size); have HW11 : Hid (Ln w11 na ns ∧ w11.heap[vb]? = some (.cells #[.slice r2 12 d2, .slice na ns.length nc] 50 (0, 0)) ∧ Below w8.heap.size w8 w11) := ⟨HW10.out.2.1.below hb11, (hb11.block vb (lt_of_some HW10.out.2.2.2.2.1)).trans HW10.out.2.2.2.2.1, hbt⟩; obtain ⟨_, _, u0, _, ub⟩ := bo_blk ((boO c).below HJ9.out.1 hbt); obtain ⟨t0, t1⟩ := cellv HW11.out.2.1; clear hb11 hbt)
                    | (go_at_call 23; refine (size_any r2 na 12 d2 nc w11 (by omega) (fun nd hnd => by have := bd3 nd hnd; omega) HW11.out.1).mono ?_; rintro e w12 ⟨rfl, hb12⟩; have hbt := HW11.out.2.2.trans (hb12.mono HW11.out.2.2.size); have HW12 : Hid (Ln w12 na ns ∧ w12.heap[vb]? = some (.cells #[.slice r2 12 d2, .slice na ns.length nc] 50 (0, 0)) ∧ Below w8.heap.size w8 w12) := ⟨HW11.out.1.below hb12, (hb12.block vb (lt_of_some HW11.out.2.1)).trans HW11.out.2.1, hbt⟩; obtain ⟨_, _, u0, _, ub⟩ := bo_blk ((boO c).below HJ9.out.1 hbt); obtain ⟨t0, t1⟩ := cellv HW12.out.2.1; clear hb12 hbt))
                all_goals
                  have J12 := (boO c).below HJ9.out.1 HW12.out.2.2
                  have PU := usedB_any J12
                  have HF : Hid ((boO c).J F8 (S.1.gcut c.a, S.2) w12 ∧ Below w1.heap.size w1 w12) := ⟨J12, HJ9.out.2.trans (HW12.out.2.2.mono HJ9.out.2.size)⟩
                  clear HV9 HJ9 HW12 HW11 HW10 q0 q1 c0 b0c
                  obtain ⟨_, _, c0, _, b0c⟩ := bo_blk J12
                  clear J12
                  dsimp only at PU
                  go_wp2_with fail
                  refine PU.mono ?_
                  clear PU
                  rintro e w13 ⟨rfl, hb13⟩
                  have HF3 : Hid ((boO c).J F8 (S.1.gcut c.a, S.2) w13 ∧ Below w1.heap.size w1 w13) := ⟨(boO c).below HF.out.1 hb13, HF.out.2.trans (hb13.mono HF.out.2.size)⟩
                  clear hb13 HF c0 b0c
                  go_wp2_with fail
                  go_roundw
                  case rel => exact ⟨j + 1, (S.1.gcut c.a, S.2), F8, by omega, by go_num, ⟨HF3.out.1, HN.out.1, HN.out.2, HJ8.out.2⟩, HF3.out.2⟩
                  case measure => simp [intOf]; omega
        · obtain rfl : j = l.length := by omega
          have hfin : Below w.heap.size w wr := hb1.trans (HB.out.mono hb1.size)
          go_wp2_with fail
          go_ret
          exact ⟨rfl, hfin⟩

end Go.Proofs.YtmocakafnnkjfabGreat.MLe

/- MajorLeast: at whatever two numbers and whatever list of steps it returns true, in whatever memory, without conditions; nothing that was in memory turns. -/
namespace Go.Proofs.YtmocakafnnkjfabGreat.MLe
open Go.ChangeShapes Go.WideShapes Go.ChangeAt Go.RowKit Go.Joins W

theorem own : ownKnob Tryz.prog.godebug = none := by kernel_rfl
theorem laidOut : laidOutB Tryz.prog = true := by kernel_rfl

set_option maxRecDepth 100000 in
theorem lifted (os : Os) (started : os.Started) (H : Type) (enc : TypeId × Value → H) :
    ReturnsInHanded {} Tryz.checked os 7 .any (Rows.majorLeastSpec.pre6 enc Tryz.prog Tryz.f7 Rows.majorLeastRow.domain false) (Rows.majorLeastSpec.post enc Tryz.prog Tryz.f7 false true false false) := by
  refine returnsInHanded_of_change (C := Tryz.checked) own started (by kernel_rfl) Tryz.func7
    (ChangeSpec.witness6 (enc := enc) (C := Tryz.checked) false ⟨#[], #[.int .i64 0, .int .i64 0, .slice none 0 0], []⟩ 8 (by kernel_rfl) (by kernel_rfl) (by kernel_rfl) (by kernel_rfl)) ?_
  intro W base args ds gs before hval0 hW hcnd _
  have hval : ∀ (j : Nat) t v, Tryz.f7.params[j]? = some t → args[j]? = some v → Value.okWide Tryz.prog W .any base t v := hval0
  have hW' := hW
  obtain ⟨p, q, hA0, hV, rfl, hfz, hnd⟩ := hW
  have hA : DataW.TrodAll enc Tryz.prog W 0 (fun _ => true) true Tryz.f7.params.toList args.toList ds p := hA0
  rw [Tryz.params7] at hA hval
  obtain ⟨v0, vs0, d0, ds0, p0, q0, hargs, rfl, rfl, h0, r0⟩ := trodAll_cons hA
  obtain ⟨v1, vs1, d1, ds1, p1, q1, rfl, rfl, rfl, h1, r1⟩ := trodAll_cons r0
  obtain ⟨v2, vs2, d2, ds2, p2, q2, rfl, rfl, rfl, h2, r2⟩ := trodAll_cons r1
  obtain ⟨rfl, rfl, rfl⟩ := trodAll_nil r2
  obtain rfl : args = #[v0, v1, v2] := by cases args; simp_all
  obtain ⟨rfl, rfl⟩ := trodVars_none hV
  obtain ⟨a0, rfl, rfl, rfl, w0⟩ := open_int Tryz.underlying3 (hval 0 3 v0 rfl rfl) h0
  obtain ⟨a1, rfl, rfl, rfl, w1⟩ := open_int Tryz.underlying3 (hval 1 3 v1 rfl rfl) h1
  obtain ⟨a2, len2, cap2, rfl⟩ := okWide_slice Tryz.underlying22 (hval 2 22 v2 rfl rfl)
  have k2 := h2
  have lt2 : ∀ x ∈ p2, x.block < W.heap.size := by obtain ⟨m, hm⟩ := k2; exact DataW.trod_lt m _ _ _ hm
  obtain ⟨fuel2, hf2⟩ := h2
  obtain ⟨S2, rfl, st2⟩ := open_cuts hf2
  clear hA0 hval0
  refine (walk a0 a1 a2 cap2 S2 W st2).mono fun e W' ⟨he, bel⟩ => ?_
  subst he
  exact ⟨_, rfl, _, _, _, [], _, [], hW', trodAll_mk1 (shut_bool Tryz.underlying4 _), (trodAll_cons_mk (shut_int Tryz.underlying3 w0) (trodAll_cons_mk (shut_int Tryz.underlying3 w1) (trodAll_cons_mk (Below.trod laidOut (by kernel_rfl) (of_decide_eq_true (by kernel_rfl)) k2 bel lt2) trodAll_mk0))), rfl, bel.frame _, fun h => by cases h⟩

theorem over : Rows.majorLeastRow.holds Tryz.pinned (OpenSpec.ofChange Rows.majorLeastSpec) :=
  OpenClaim.holds_of_wide 7 Tryz.f7 rfl rfl rfl rfl rfl rfl rfl ⟨rfl, rfl, rfl, rfl, rfl⟩ rfl rfl rfl rfl rfl (by kernel_rfl) Tryz.func7 (by kernel_rfl)
    (of_decide_eq_true (by kernel_rfl)) (by unfold Func.isWrapper; first | (rw [if_pos (by decide +kernel)]; kernel_rfl) | (rw [if_neg (by decide +kernel)]; exact ⟨rfl, rfl⟩))
    (fun os started H enc _ => lifted os started H enc)

/-- THE STATEMENT. -/
theorem proved : Rows.MajorLeastSaid :=
  over
#print axioms proved
end Go.Proofs.YtmocakafnnkjfabGreat.MLe
