/- Joined: MDo, MDoP. -/
import Derived.Test.YtnalfnlmaallmaaGreatJ40
import Derived.Test.YtnalfnlmaallmaaGreatRows
import Derived.ProofKit
import Derived.OpenShut
import Derived.Lib.SmallJoins
import Derived.ShutString
import Derived.ChangeOld
import Derived.Below
namespace Go.Proofs.YtnalfnlmaallmaaGreat.MDo
set_option maxRecDepth 100000
set_option maxHeartbeats 8000000
open Go.RowKit W Kp Stl
theorem run_code (x y : Value) (w : World) : Sem.run Tryz.prog (Instr.field 28 (.agg #[x, y]) 0) w = .ok x w := by
 unfold Instr.field
 simp [go_sem]
 rfl
theorem walk (n o : Int) (a : Option Addr) (cc : Nat) (l : List S4) (w : World) (hl : L4 w a l) :
  Calls Tryz.prog 3 #[.int .i64 n, .int .i64 o, .slice a l.length cc] w fun e w' => e = .returned (.bool true) /\ Below w.heap.size w w' := by
 have HL : Hid (L4 w a l) := hl
 clear hl
 by_cases hlen : 250 < l.length
 ·go_enter Tryz.func3, Tryz.ntmps3
  go_wp2_with fail
  refine (minorBegun_any w).mono ?_
  rintro e w1 ⟨rfl, hb1⟩
  have h2 : (250 : Int) < (l.length : Int) := by omega
  go_wp2_with fail
  go_ret
  exact ⟨rfl, hb1⟩
 ·have h2 : ¬ ((250 : Int) < (l.length : Int)) := by omega
  by_cases hno : n < 16 \/ 256 < n \/ o < 0 \/ 1024 < o
  ·have HNO : Hid (n < 16 \/ 256 < n \/ o < 0 \/ 1024 < o) := hno
   clear hno
   go_enter Tryz.func3, Tryz.ntmps3
   go_wp2_with fail
   refine (minorBegun_any w).mono ?_
   rintro e w1 ⟨rfl, hb1⟩
   go_wp2_with fail
   refine (start_no n o w1 HNO.out).mono ?_
   rintro e w2 ⟨rfl, hb2⟩
   go_wp2_with fail
   refine (roomFault_no n o w2 HNO.out).mono ?_
   rintro e w3 ⟨rfl, hb3⟩
   have hB2 := hb1.trans (hb2.mono hb1.size)
   have hrn := run_code (.int .i64 1) (.int .i64 (-1))
   go_wp2_with fail
   go_ret
   exact ⟨rfl, hB2.trans (hb3.mono hB2.size)⟩
  ·have hn0 : 16 <= n /\ n <= 256 /\ 0 <= o /\ o <= 1024 := by omega
   obtain ⟨n, rfl⟩ := Int.eq_ofNat_of_zero_le (show 0 <= n by omega)
   obtain ⟨o, rfl⟩ := Int.eq_ofNat_of_zero_le (show 0 <= o by omega)
   go_enter Tryz.func3, Tryz.ntmps3
   go_wp2_with fail
   refine (minorBegun_any w).mono ?_
   rintro e w1 ⟨rfl, hb1⟩
   go_wp2_with fail
   refine (start_yes n o w1 (by omega) (by omega) (by omega)).mono ?_
   rintro e w2 ⟨c, F1, rfl, j1, ⟨k1, k2, k3, k4⟩, g1, b1⟩
   have HC : Hid (0 <= c.most /\ c.most <= 100000 /\ c.most = c.a.N /\ c.grow = c.a.O /\ c.a.O <= 1024) := ⟨by rw [k3]; omega, by rw [k3]; omega, by rw [k3, k1], by rw [k4, k2], by omega⟩
   have H2 : Hid ((boO c).J F1 (bo0 n o) w2 /\ Dok c (bo0 n o) 0 /\ ∀ b, F1 b -> w1.heap.size <= b) := ⟨j1, Dok.start c n o, g1⟩
   have HB2 : Hid (Below w1.heap.size w1 w2) := b1
   have o0 : (0 : Int) <= (o : Int) := by omega
   have o1 : (o : Int) <= 1024 := by omega
   clear j1 k1 k2 k3 k4 g1 b1 hno hn0
   go_wp2_with fail
   go_loopw [9] (fun iv wr => ∃ (j : Nat) (S : Ww × Wrs) (F : Nat -> Prop), j <= l.length /\ iv = .int .i64 j /\ Hid ((boO c).J F S wr /\ Dok c S j /\ ∀ b, F b -> w1.heap.size <= b) /\ Hid (Below w1.heap.size w1 wr)) (fun iv _ => l.length - (intOf iv).toNat)
   case atStart => exact ⟨0, bo0 n o, F1, Nat.zero_le _, rfl, H2, HB2⟩
   case round =>
    clear H2 HB2
    obtain ⟨j, S, F, hj, rfl, H, HB⟩ := hrel
    by_cases hlt : j < l.length
    ·obtain ⟨b0, p0, e0, l0, hc⟩ := HL.out (by omega)
     obtain ⟨⟨x1, x2, x3, x4⟩, _, _⟩ := hc j hlt
     subst e0
     clear hc
     have hbw := hb1.trans (HB.out.mono hb1.size)
     have y1 := (hbw.cell (p := ⟨b0, p0 + j * 4, none⟩) l0).trans x1
     have y2 := (hbw.cell (p := ⟨b0, p0 + j * 4 + 1, none⟩) l0).trans x2
     have y3 := (hbw.cell (p := ⟨b0, p0 + j * 4 + 2, none⟩) l0).trans x3
     have y4 := (hbw.cell (p := ⟨b0, p0 + j * 4 + 3, none⟩) l0).trans x4
     clear x1 x2 x3 x4 hbw l0
     generalize (l.getD j (0, 0, 0, 0)).1 = d at *
     generalize (l.getD j (0, 0, 0, 0)).2.1 = A at *
     generalize (l.getD j (0, 0, 0, 0)).2.2.1 = B at *
     generalize (l.getD j (0, 0, 0, 0)).2.2.2 = C at *
     have j0 : (0 : Int) <= (j : Int) := by omega
     have j1 : (j : Int) < (l.length : Int) := by omega
     have hwb := bo_wbd H.out.1
     by_cases hd : d < 6
     ·have P := do_any H.out.1 (H.out.2.1.rb (by omega)) HC.out.1 HC.out.2.1 (by have := H.out.2.1.m; omega) (by have := H.out.2.1.rq; omega) (by have := H.out.2.1.rq; omega) d A B C
      obtain ⟨eB, hN⟩ := H.out.2.1.do hwb HC.out.2.2.1 d A B C
      rw [eB] at P
      have HN : Hid (Dok c (doS c S d A B C) (j + 1)) := hN
      generalize doS c S d A B C = S3 at *
      clear hwb eB hN
      as_aux_lemma =>
      go_wp2_with fail
      refine P.mono ?_
      clear P
      rintro e w5 ⟨F5, rfl, j5, t5⟩
      have H5 : Hid ((boO c).J F5 S3 w5 /\ Dok c S3 (j + 1) /\ ∀ b, F5 b -> w1.heap.size <= b) := ⟨j5, HN.out, fun b d => (t5.sub b d).elim (H.out.2.2 b) (fun e => Nat.le_trans HB.out.size e)⟩
      have HB5 : Hid (Below w1.heap.size w1 w5) := HB.out.trans (t5.fr.below HB.out.size H.out.2.2)
      clear j5 t5
      go_wp2_with fail
      go_roundw
      case rel => exact ⟨j + 1, S3, F5, by omega, by go_num, H5, HB5⟩
      case measure => simp [intOf]; omega
     ·have PC := cutB_any H.out.1 (by have := H.out.2.1.rq; omega)
      obtain ⟨g, hg⟩ := H.out.2.1.gok
      obtain ⟨eC, hN, hM⟩ := H.out.2.1.cut hwb hg
      have HRC : Hid (∀ F' w', (boO c).J F' (S.1.cut c.a, S.2) w' -> Calls Tryz.prog 17 #[.pointer (some ⟨c.rp, 0, none⟩), .bool false] w' fun e w'' => ∃ F'', e = .returned (.int .i64 (S.1.code c.a)) /\ (boO c).J F'' (S.1.cut c.a, S.2.cut g c.a.O false) w'' /\ Tn F' w' F'' w'') := fun F' w' hJ => by
       have P := cutR_any (S := S) hJ H.out.2.1 (by omega) hg HC.out.2.2.2.1 HC.out.2.2.2.2 false
       rw [<- eC] at P
       exact P
      have HN : Hid (Dok c (S.1.cut c.a, S.2.cut g c.a.O false) (j + 1)) := hN
      have HRT : Hid (∀ F' w', (boO c).J F' (S.1.cut c.a, S.2.cut g c.a.O false) w' -> Calls Tryz.prog 19 #[.pointer (some ⟨c.pb, 0, none⟩)] w' fun e w'' => e = .returned (.bool true) /\ Below w'.heap.size w' w'') := fun F' w' hJ => right_any hJ HN.out (by omega)
      have HCT : Hid (∀ F' w', (boO c).J F' (S.1.cut c.a, S.2.cut g c.a.O false) w' -> w'.cell? ⟨c.pb, 0, none⟩ = some (.pointer (some ⟨c.a.pw, 0, none⟩)) /\ w'.cell? ⟨c.a.pw, 1, none⟩ = some (.pointer (some ⟨c.a.pc, 0, none⟩)) /\ Calls Tryz.prog 18 #[.pointer (some ⟨c.a.pc, 0, none⟩)] w' fun e w'' => e = .returned (.int .i64 (S.1.cut c.a).s.M.length) /\ w'' = w') := fun F' w' hJ => by
       obtain ⟨_, ⟨pq, hcd⟩, _, c1, b0'⟩ := bo_blk hJ
       exact ⟨b0', c1, count_any w' hcd⟩
      have HCE : Hid (∀ F' S' w', (boO c).J F' S' w' -> w'.cell? ⟨c.pb, 0, none⟩ = some (.pointer (some ⟨c.a.pw, 0, none⟩)) /\ w'.cell? ⟨c.pb, 1, none⟩ = some (.pointer (some ⟨c.rp, 0, none⟩))) := fun F' S' w' hJ => ⟨(bo_cells hJ).1, (bo_cells hJ).2.1⟩
      obtain ⟨q0, q1⟩ := HCE.out _ _ _ H.out.1
      generalize S.1.cut c.a = S3 at *
      generalize S.2.cut g c.a.O false = W3 at *
      generalize S.1.code c.a = cd at *
      clear eC hN hwb hg
      as_aux_lemma =>
      go_wp2_with fail
      refine PC.mono ?_
      clear PC
      rintro e w5 ⟨F5, rfl, j5, t5⟩
      have PR := HRC.out F5 w5 j5
      obtain ⟨z0, z1⟩ := HCE.out _ _ _ j5
      have H5 : Hid ((∀ b, F5 b -> w1.heap.size <= b) /\ Below w1.heap.size w1 w5) := ⟨fun b d => (t5.sub b d).elim (H.out.2.2 b) (fun e => Nat.le_trans HB.out.size e), HB.out.trans (t5.fr.below HB.out.size H.out.2.2)⟩
      clear j5 t5 HRC q0 q1
      go_wp2_with fail
      refine PR.mono ?_
      clear PR
      rintro e w6 ⟨F6, rfl, j6, t6⟩
      obtain ⟨u0, u1, PT⟩ := HCT.out F6 w6 j6
      have H6 : Hid ((boO c).J F6 (S3, W3) w6 /\ (∀ b, F6 b -> w1.heap.size <= b) /\ Below w1.heap.size w1 w6) := ⟨j6, fun b d => (t6.sub b d).elim (H5.out.1 b) (fun e => Nat.le_trans H5.out.2.size e), H5.out.2.trans (t6.fr.below H5.out.2.size H5.out.1)⟩
      have PG := HRT.out F6 w6 j6
      clear j6 t6 HCT HRT z0 z1
      by_cases hcd : cd = 0
      ·rw [hM hcd] at PT
       clear hM
       subst hcd
       go_wp2_with fail
       refine PT.mono ?_
       clear PT
       rintro e w7 ⟨rfl, rfl⟩
       go_wp2_with fail
       refine PG.mono ?_
       clear PG
       rintro e w8 ⟨rfl, hb8⟩
       have H8 : Hid ((boO c).J F6 (S3, W3) w8 /\ Below w1.heap.size w1 w8) := ⟨(boO c).below H6.out.1 hb8, H6.out.2.2.trans (hb8.mono H6.out.2.2.size)⟩
       clear hb8
       go_wp2_with fail
       go_roundw
       case rel => exact ⟨j + 1, (S3, W3), F6, by omega, by go_num, ⟨H8.out.1, HN.out, H6.out.2.1⟩, H8.out.2⟩
       case measure => simp [intOf]; omega
      ·have hcd : (cd == 0) = false := by simpa using hcd
       clear PT
       go_wp2_with fail
       refine PG.mono ?_
       clear PG
       rintro e w8 ⟨rfl, hb8⟩
       have H8 : Hid ((boO c).J F6 (S3, W3) w8 /\ Below w1.heap.size w1 w8) := ⟨(boO c).below H6.out.1 hb8, H6.out.2.2.trans (hb8.mono H6.out.2.2.size)⟩
       clear hb8
       go_wp2_with fail
       go_roundw
       case rel => exact ⟨j + 1, (S3, W3), F6, by omega, by go_num, ⟨H8.out.1, HN.out, H6.out.2.1⟩, H8.out.2⟩
       case measure => simp [intOf]; omega
    ·obtain rfl : j = l.length := by omega
     have PG := right_any H.out.1 H.out.2.1 (by omega)
     go_wp2_with fail
     refine PG.mono ?_
     clear PG
     rintro e w8 ⟨rfl, hb8⟩
     have hfin : Below w.heap.size w w8 := hb1.trans ((HB.out.trans (hb8.mono HB.out.size)).mono hb1.size)
     go_wp2_with fail
     go_ret
     exact ⟨rfl, hfin⟩
end Go.Proofs.YtnalfnlmaallmaaGreat.MDo

/- MinorDoes: at whatever two numbers and whatever list of steps it returns true, in whatever memory, without conditions; nothing that was in memory turns. -/
namespace Go.Proofs.YtnalfnlmaallmaaGreat.MDo
open Go.ChangeShapes Go.WideShapes Go.ChangeAt Go.RowKit Go.Joins W

theorem own : ownKnob Tryz.prog.godebug = none := by kernel_rfl
theorem laidOut : laidOutB Tryz.prog = true := by kernel_rfl

set_option maxRecDepth 100000 in
theorem lifted (os : Os) (started : os.Started) (H : Type) (enc : TypeId × Value → H) :
    ReturnsInHanded {} Tryz.checked os 3 .any (Rows.minorDoesSpec.pre6 enc Tryz.prog Tryz.f3 Rows.minorDoesRow.domain false) (Rows.minorDoesSpec.post enc Tryz.prog Tryz.f3 false true false false) := by
  refine returnsInHanded_of_change (C := Tryz.checked) own started (by kernel_rfl) Tryz.func3
    (ChangeSpec.witness6 (enc := enc) (C := Tryz.checked) false ⟨#[], #[.int .i64 0, .int .i64 0, .slice none 0 0], []⟩ 8 (by kernel_rfl) (by kernel_rfl) (by kernel_rfl) (by kernel_rfl)) ?_
  intro W base args ds gs before hval0 hW hcnd _
  have hval : ∀ (j : Nat) t v, Tryz.f3.params[j]? = some t → args[j]? = some v → Value.okWide Tryz.prog W .any base t v := hval0
  have hW' := hW
  obtain ⟨p, q, hA0, hV, rfl, hfz, hnd⟩ := hW
  have hA : DataW.TrodAll enc Tryz.prog W 0 (fun _ => true) true Tryz.f3.params.toList args.toList ds p := hA0
  rw [Tryz.params3] at hA hval
  obtain ⟨v0, vs0, d0, ds0, p0, q0, hargs, rfl, rfl, h0, r0⟩ := trodAll_cons hA
  obtain ⟨v1, vs1, d1, ds1, p1, q1, rfl, rfl, rfl, h1, r1⟩ := trodAll_cons r0
  obtain ⟨v2, vs2, d2, ds2, p2, q2, rfl, rfl, rfl, h2, r2⟩ := trodAll_cons r1
  obtain ⟨rfl, rfl, rfl⟩ := trodAll_nil r2
  obtain rfl : args = #[v0, v1, v2] := by cases args; simp_all
  obtain ⟨rfl, rfl⟩ := trodVars_none hV
  obtain ⟨a0, rfl, rfl, rfl, w0⟩ := open_int Tryz.underlying3 (hval 0 3 v0 rfl rfl) h0
  obtain ⟨a1, rfl, rfl, rfl, w1⟩ := open_int Tryz.underlying3 (hval 1 3 v1 rfl rfl) h1
  obtain ⟨a2, len2, cap2, rfl⟩ := okWide_slice Tryz.underlying22 (hval 2 22 v2 rfl rfl)
  have k2 := h2
  have lt2 : ∀ x ∈ p2, x.block < W.heap.size := by obtain ⟨m, hm⟩ := k2; exact DataW.trod_lt m _ _ _ hm
  obtain ⟨fuel2, hf2⟩ := h2
  obtain ⟨S2, rfl, st2⟩ := open_cuts hf2
  clear hA0 hval0
  refine (walk a0 a1 a2 cap2 S2 W st2).mono fun e W' ⟨he, bel⟩ => ?_
  subst he
  exact ⟨_, rfl, _, _, _, [], _, [], hW', trodAll_mk1 (shut_bool Tryz.underlying4 _), (trodAll_cons_mk (shut_int Tryz.underlying3 w0) (trodAll_cons_mk (shut_int Tryz.underlying3 w1) (trodAll_cons_mk (Below.trod laidOut (by kernel_rfl) (of_decide_eq_true (by kernel_rfl)) k2 bel lt2) trodAll_mk0))), rfl, bel.frame _, fun h => by cases h⟩

theorem over : Rows.minorDoesRow.holds Tryz.pinned (OpenSpec.ofChange Rows.minorDoesSpec) :=
  OpenClaim.holds_of_wide 3 Tryz.f3 rfl rfl rfl rfl rfl rfl rfl ⟨rfl, rfl, rfl, rfl, rfl⟩ rfl rfl rfl rfl rfl (by kernel_rfl) Tryz.func3 (by kernel_rfl)
    (of_decide_eq_true (by kernel_rfl)) (by unfold Func.isWrapper; first | (rw [if_pos (by decide +kernel)]; kernel_rfl) | (rw [if_neg (by decide +kernel)]; exact ⟨rfl, rfl⟩))
    (fun os started H enc _ => lifted os started H enc)

/-- THE STATEMENT. -/
theorem proved : Rows.MinorDoesSaid :=
  over
#print axioms proved
end Go.Proofs.YtnalfnlmaallmaaGreat.MDo
