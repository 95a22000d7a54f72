/- Joined: Rm2, JDo, JDoP. -/
import Derived.Test.YtnalfnlmaallmaaGreatJ52
import Derived.Deep.RegionWith
import Derived.Test.YtnalfnlmaallmaaGreatRows
import Derived.ProofKit
import Derived.OpenShut
import Derived.Lib.SmallJoins
import Derived.ShutString
import Derived.ChangeOld
import Derived.Below
namespace Go.Proofs.YtnalfnlmaallmaaGreat
set_option maxRecDepth 100000
set_option maxHeartbeats 400000
open Go.RowKit W
theorem roomFault_no (n o : Int) (w : World) (h : n < 16 \/ 256 < n \/ o < 0 \/ 1024 < o) :
  Calls Tryz.prog 14 #[.int .i64 n, .int .i64 o] w fun e w' => e = .returned (.agg #[.int .i64 1, .int .i64 (-1)]) /\ Below w.heap.size w w' := by
 have fin : ∀ (R : Ending -> World -> Prop), (∀ w1, Below (w.alloc (.cells #[.int .i64 0, .int .i64 0] 28)).heap.size (w.alloc (.cells #[.int .i64 0, .int .i64 0] 28)) w1 -> R (.returned (.agg #[.int .i64 1, .int .i64 (-1)])) w1) -> Calls Tryz.prog 48 #[.int .i64 1, .int .i64 (-1)] (w.alloc (.cells #[.int .i64 0, .int .i64 0] 28)) R := by
  intro R hR
  refine (f_any 1 (-1) _).mono ?_
  rintro e w1 ⟨rfl, hb⟩
  exact hR w1 hb
 by_cases h1 : n < 16
 ·go_enter Tryz.func14, Tryz.ntmps14
  go_wp2_with fail
  refine fin _ ?_
  intro w1 hb
  obtain ⟨c0, c1, hz⟩ := cells2 hb
  obtain ⟨_, hf⟩ := bcell hb
  have f0 := hf w.heap.size 0 (by simp)
  have f1 := hf w.heap.size 1 (by simp)
  simp [go_sem] at f0 f1
  go_wp2_with fail
  exact bodyPost_ret (v := .agg #[.int .i64 1, .int .i64 (-1)]) (by simp [results, Tryz.results14, go_sem, c0, c1]) rfl ⟨rfl, ((((Below.refl _ _).alloc (Nat.le_refl _) _).trans (hb.mono (by simp))).setCell (Nat.le_refl _) _).setCell (Nat.le_refl _) _⟩
 by_cases h2 : 256 < n
 ·go_enter Tryz.func14, Tryz.ntmps14
  go_wp2_with fail
  refine fin _ ?_
  intro w1 hb
  obtain ⟨c0, c1, hz⟩ := cells2 hb
  obtain ⟨_, hf⟩ := bcell hb
  have f0 := hf w.heap.size 0 (by simp)
  have f1 := hf w.heap.size 1 (by simp)
  simp [go_sem] at f0 f1
  go_wp2_with fail
  exact bodyPost_ret (v := .agg #[.int .i64 1, .int .i64 (-1)]) (by simp [results, Tryz.results14, go_sem, c0, c1]) rfl ⟨rfl, ((((Below.refl _ _).alloc (Nat.le_refl _) _).trans (hb.mono (by simp))).setCell (Nat.le_refl _) _).setCell (Nat.le_refl _) _⟩
 by_cases h3 : o < 0
 ·go_enter Tryz.func14, Tryz.ntmps14
  go_wp2_with fail
  refine fin _ ?_
  intro w1 hb
  obtain ⟨c0, c1, hz⟩ := cells2 hb
  obtain ⟨_, hf⟩ := bcell hb
  have f0 := hf w.heap.size 0 (by simp)
  have f1 := hf w.heap.size 1 (by simp)
  simp [go_sem] at f0 f1
  go_wp2_with fail
  exact bodyPost_ret (v := .agg #[.int .i64 1, .int .i64 (-1)]) (by simp [results, Tryz.results14, go_sem, c0, c1]) rfl ⟨rfl, ((((Below.refl _ _).alloc (Nat.le_refl _) _).trans (hb.mono (by simp))).setCell (Nat.le_refl _) _).setCell (Nat.le_refl _) _⟩
 have h4 : 1024 < o := by omega
 go_enter Tryz.func14, Tryz.ntmps14
 go_wp2_with fail
 refine fin _ ?_
 intro w1 hb
 obtain ⟨c0, c1, hz⟩ := cells2 hb
 obtain ⟨_, hf⟩ := bcell hb
 have f0 := hf w.heap.size 0 (by simp)
 have f1 := hf w.heap.size 1 (by simp)
 simp [go_sem] at f0 f1
 go_wp2_with fail
 exact bodyPost_ret (v := .agg #[.int .i64 1, .int .i64 (-1)]) (by simp [results, Tryz.results14, go_sem, c0, c1]) rfl ⟨rfl, ((((Below.refl _ _).alloc (Nat.le_refl _) _).trans (hb.mono (by simp))).setCell (Nat.le_refl _) _).setCell (Nat.le_refl _) _⟩
end Go.Proofs.YtnalfnlmaallmaaGreat

namespace Go.Proofs.YtnalfnlmaallmaaGreat.JDo
set_option maxRecDepth 100000
set_option maxHeartbeats 8000000
open Go.RowKit W Kp Stl
theorem run_code (x y : Value) (w : World) : Sem.run Tryz.prog (Instr.field 28 (.agg #[x, y]) 0) w = .ok x w := by
 unfold Instr.field
 simp [go_sem]
 rfl
theorem walk (n o : Int) (a : Option Addr) (cc : Nat) (l : List S4) (w : World) (hl : L4 w a l) :
  Calls Tryz.prog 4 #[.int .i64 n, .int .i64 o, .slice a l.length cc] w fun e w' => e = .returned (.bool true) /\ Below w.heap.size w w' := by
 have HL : Hid (L4 w a l) := hl
 clear hl
 by_cases hlen : 250 < l.length
 ·go_enter Tryz.func4, Tryz.ntmps4
  go_wp2_with fail
  refine (majorBegun_any w).mono ?_
  rintro e w1 ⟨rfl, hb1⟩
  have h2 : (250 : Int) < (l.length : Int) := by omega
  go_wp2_with fail
  go_ret
  exact ⟨rfl, hb1⟩
 ·have h2 : ¬ ((250 : Int) < (l.length : Int)) := by omega
  by_cases hno : n < 16 \/ 256 < n \/ o < 0 \/ 1024 < o
  ·have HNO : Hid (n < 16 \/ 256 < n \/ o < 0 \/ 1024 < o) := hno
   clear hno
   go_enter Tryz.func4, Tryz.ntmps4
   go_wp2_with fail
   refine (majorBegun_any w).mono ?_
   rintro e w1 ⟨rfl, hb1⟩
   go_wp2_with fail
   refine (start_no n o w1 HNO.out).mono ?_
   rintro e w2 ⟨rfl, hb2⟩
   go_wp2_with fail
   refine (roomFault_no n o w2 HNO.out).mono ?_
   rintro e w3 ⟨rfl, hb3⟩
   have hB2 := hb1.trans (hb2.mono hb1.size)
   have hrn := run_code (.int .i64 1) (.int .i64 (-1))
   go_wp2_with fail
   go_ret
   exact ⟨rfl, hB2.trans (hb3.mono hB2.size)⟩
  ·have hn0 : 16 <= n /\ n <= 256 /\ 0 <= o /\ o <= 1024 := by omega
   obtain ⟨n, rfl⟩ := Int.eq_ofNat_of_zero_le (show 0 <= n by omega)
   obtain ⟨o, rfl⟩ := Int.eq_ofNat_of_zero_le (show 0 <= o by omega)
   go_enter Tryz.func4, Tryz.ntmps4
   go_wp2_with fail
   refine (majorBegun_any w).mono ?_
   rintro e w1 ⟨rfl, hb1⟩
   go_wp2_with fail
   refine (start_yes n o w1 (by omega) (by omega) (by omega)).mono ?_
   rintro e w2 ⟨c, F1, rfl, j1, ⟨k1, k2, k3, k4⟩, g1, b1⟩
   have HC : Hid (0 <= c.most /\ c.most <= 100000 /\ c.most = c.a.N /\ c.grow = c.a.O /\ c.a.O <= 1024) := ⟨by rw [k3]; omega, by rw [k3]; omega, by rw [k3, k1], by rw [k4, k2], by omega⟩
   have H2 : Hid ((boO c).J F1 (bo0 n o) w2 /\ Dok c (bo0 n o) 0 /\ ∀ b, F1 b -> w1.heap.size <= b) := ⟨j1, Dok.start c n o, g1⟩
   have HB2 : Hid (Below w1.heap.size w1 w2) := b1
   have o0 : (0 : Int) <= (o : Int) := by omega
   have o1 : (o : Int) <= 1024 := by omega
   clear j1 k1 k2 k3 k4 g1 b1 hno hn0
   go_wp2_with fail
   go_loopw [9] (fun iv wr => ∃ (j : Nat) (S : Ww × Wrs) (F : Nat -> Prop), j <= l.length /\ iv = .int .i64 j /\ Hid ((boO c).J F S wr /\ Dok c S j /\ ∀ b, F b -> w1.heap.size <= b) /\ Hid (Below w1.heap.size w1 wr)) (fun iv _ => l.length - (intOf iv).toNat)
   case atStart => exact ⟨0, bo0 n o, F1, Nat.zero_le _, rfl, H2, HB2⟩
   case round =>
    clear H2 HB2
    obtain ⟨j, S, F, hj, rfl, H, HB⟩ := hrel
    by_cases hlt : j < l.length
    ·obtain ⟨b0, p0, e0, l0, hc⟩ := HL.out (by omega)
     obtain ⟨⟨x1, x2, x3, x4⟩, _, _⟩ := hc j hlt
     subst e0
     clear hc
     have hbw := hb1.trans (HB.out.mono hb1.size)
     have y1 := (hbw.cell (p := ⟨b0, p0 + j * 4, none⟩) l0).trans x1
     have y2 := (hbw.cell (p := ⟨b0, p0 + j * 4 + 1, none⟩) l0).trans x2
     have y3 := (hbw.cell (p := ⟨b0, p0 + j * 4 + 2, none⟩) l0).trans x3
     have y4 := (hbw.cell (p := ⟨b0, p0 + j * 4 + 3, none⟩) l0).trans x4
     clear x1 x2 x3 x4 hbw l0
     generalize (l.getD j (0, 0, 0, 0)).1 = d at *
     generalize (l.getD j (0, 0, 0, 0)).2.1 = A at *
     generalize (l.getD j (0, 0, 0, 0)).2.2.1 = B at *
     generalize (l.getD j (0, 0, 0, 0)).2.2.2 = C at *
     have j0 : (0 : Int) <= (j : Int) := by omega
     have j1 : (j : Int) < (l.length : Int) := by omega
     have hwb := bo_wbd H.out.1
     by_cases hd : d < 6
     ·have P := do_any H.out.1 (H.out.2.1.rb (by omega)) HC.out.1 HC.out.2.1 (by have := H.out.2.1.m; omega) (by have := H.out.2.1.rq; omega) (by have := H.out.2.1.rq; omega) d A B C
      obtain ⟨eB, hN⟩ := H.out.2.1.do hwb HC.out.2.2.1 d A B C
      rw [eB] at P
      have HN : Hid (Dok c (doS c S d A B C) (j + 1)) := hN
      generalize doS c S d A B C = S3 at *
      clear hwb eB hN
      as_aux_lemma =>
      go_wp2_with fail
      refine P.mono ?_
      clear P
      rintro e w5 ⟨F5, rfl, j5, t5⟩
      have H5 : Hid ((boO c).J F5 S3 w5 /\ Dok c S3 (j + 1) /\ ∀ b, F5 b -> w1.heap.size <= b) := ⟨j5, HN.out, fun b d => (t5.sub b d).elim (H.out.2.2 b) (fun e => Nat.le_trans HB.out.size e)⟩
      have HB5 : Hid (Below w1.heap.size w1 w5) := HB.out.trans (t5.fr.below HB.out.size H.out.2.2)
      clear j5 t5
      go_wp2_with fail
      go_roundw
      case rel => exact ⟨j + 1, S3, F5, by omega, by go_num, H5, HB5⟩
      case measure => simp [intOf]; omega
     ·have hd6 : ((6 : Int) < d) = (6 < d) := rfl
      have PC : Hid (∀ mj : Bool, Calls Tryz.prog 21 #[.pointer (some ⟨c.pb, 0, none⟩), .bool mj] wr fun e w' => ∃ (cd : Int) (S' : Ww × Wrs) (F' : Nat -> Prop), e = .returned (.tuple #[.int .i64 cd, .bool true]) /\ (boO c).J F' S' w' /\ Dok c S' (j + 1) /\ Tn F wr F' w') := fun mj => cutO_any H.out.1 H.out.2.1 (by omega) HC.out.2.2.2.1 HC.out.2.2.2.2 mj
      clear hwb
      by_cases hd7 : 6 < d
      case' pos => have P := PC.out true
      case' neg => have P := PC.out false
      all_goals
       clear PC hd6
       as_aux_lemma =>
       go_wp2_with fail
       refine P.mono ?_
       clear P
       rintro e w5 ⟨cd, S3, F5, rfl, j5, hD5, t5⟩
       have H5 : Hid ((boO c).J F5 S3 w5 /\ Dok c S3 (j + 1) /\ ∀ b, F5 b -> w1.heap.size <= b) := ⟨j5, hD5, fun b d => (t5.sub b d).elim (H.out.2.2 b) (fun e => Nat.le_trans HB.out.size e)⟩
       have HB5 : Hid (Below w1.heap.size w1 w5) := HB.out.trans (t5.fr.below HB.out.size H.out.2.2)
       clear j5 t5 hD5
       go_wp2_with fail
       go_roundw
       case rel => exact ⟨j + 1, S3, F5, by omega, by go_num, H5, HB5⟩
       case measure => simp [intOf]; omega
    ·obtain rfl : j = l.length := by omega
     have PG := cutO_any H.out.1 H.out.2.1 (by omega) HC.out.2.2.2.1 HC.out.2.2.2.2 true
     go_wp2_with fail
     refine PG.mono ?_
     clear PG
     rintro e w8 ⟨cd, S3, F5, rfl, j5, hD5, t5⟩
     have hfin : Below w.heap.size w w8 := hb1.trans ((HB.out.trans (t5.fr.below HB.out.size H.out.2.2)).mono hb1.size)
     clear j5 t5 hD5
     go_wp2_with fail
     go_ret
     exact ⟨rfl, hfin⟩
end Go.Proofs.YtnalfnlmaallmaaGreat.JDo

/- MajorDoes: at whatever two numbers and whatever list of steps it returns true, in whatever memory, without conditions; nothing that was in memory turns. -/
namespace Go.Proofs.YtnalfnlmaallmaaGreat.JDo
open Go.ChangeShapes Go.WideShapes Go.ChangeAt Go.RowKit Go.Joins W

theorem own : ownKnob Tryz.prog.godebug = none := by kernel_rfl
theorem laidOut : laidOutB Tryz.prog = true := by kernel_rfl

set_option maxRecDepth 100000 in
theorem lifted (os : Os) (started : os.Started) (H : Type) (enc : TypeId × Value → H) :
    ReturnsInHanded {} Tryz.checked os 4 .any (Rows.majorDoesSpec.pre6 enc Tryz.prog Tryz.f4 Rows.majorDoesRow.domain false) (Rows.majorDoesSpec.post enc Tryz.prog Tryz.f4 false true false false) := by
  refine returnsInHanded_of_change (C := Tryz.checked) own started (by kernel_rfl) Tryz.func4
    (ChangeSpec.witness6 (enc := enc) (C := Tryz.checked) false ⟨#[], #[.int .i64 0, .int .i64 0, .slice none 0 0], []⟩ 8 (by kernel_rfl) (by kernel_rfl) (by kernel_rfl) (by kernel_rfl)) ?_
  intro W base args ds gs before hval0 hW hcnd _
  have hval : ∀ (j : Nat) t v, Tryz.f4.params[j]? = some t → args[j]? = some v → Value.okWide Tryz.prog W .any base t v := hval0
  have hW' := hW
  obtain ⟨p, q, hA0, hV, rfl, hfz, hnd⟩ := hW
  have hA : DataW.TrodAll enc Tryz.prog W 0 (fun _ => true) true Tryz.f4.params.toList args.toList ds p := hA0
  rw [Tryz.params4] at hA hval
  obtain ⟨v0, vs0, d0, ds0, p0, q0, hargs, rfl, rfl, h0, r0⟩ := trodAll_cons hA
  obtain ⟨v1, vs1, d1, ds1, p1, q1, rfl, rfl, rfl, h1, r1⟩ := trodAll_cons r0
  obtain ⟨v2, vs2, d2, ds2, p2, q2, rfl, rfl, rfl, h2, r2⟩ := trodAll_cons r1
  obtain ⟨rfl, rfl, rfl⟩ := trodAll_nil r2
  obtain rfl : args = #[v0, v1, v2] := by cases args; simp_all
  obtain ⟨rfl, rfl⟩ := trodVars_none hV
  obtain ⟨a0, rfl, rfl, rfl, w0⟩ := open_int Tryz.underlying3 (hval 0 3 v0 rfl rfl) h0
  obtain ⟨a1, rfl, rfl, rfl, w1⟩ := open_int Tryz.underlying3 (hval 1 3 v1 rfl rfl) h1
  obtain ⟨a2, len2, cap2, rfl⟩ := okWide_slice Tryz.underlying22 (hval 2 22 v2 rfl rfl)
  have k2 := h2
  have lt2 : ∀ x ∈ p2, x.block < W.heap.size := by obtain ⟨m, hm⟩ := k2; exact DataW.trod_lt m _ _ _ hm
  obtain ⟨fuel2, hf2⟩ := h2
  obtain ⟨S2, rfl, st2⟩ := open_cuts hf2
  clear hA0 hval0
  refine (walk a0 a1 a2 cap2 S2 W st2).mono fun e W' ⟨he, bel⟩ => ?_
  subst he
  exact ⟨_, rfl, _, _, _, [], _, [], hW', trodAll_mk1 (shut_bool Tryz.underlying4 _), (trodAll_cons_mk (shut_int Tryz.underlying3 w0) (trodAll_cons_mk (shut_int Tryz.underlying3 w1) (trodAll_cons_mk (Below.trod laidOut (by kernel_rfl) (of_decide_eq_true (by kernel_rfl)) k2 bel lt2) trodAll_mk0))), rfl, bel.frame _, fun h => by cases h⟩

theorem over : Rows.majorDoesRow.holds Tryz.pinned (OpenSpec.ofChange Rows.majorDoesSpec) :=
  OpenClaim.holds_of_wide 4 Tryz.f4 rfl rfl rfl rfl rfl rfl rfl ⟨rfl, rfl, rfl, rfl, rfl⟩ rfl rfl rfl rfl rfl (by kernel_rfl) Tryz.func4 (by kernel_rfl)
    (of_decide_eq_true (by kernel_rfl)) (by unfold Func.isWrapper; first | (rw [if_pos (by decide +kernel)]; kernel_rfl) | (rw [if_neg (by decide +kernel)]; exact ⟨rfl, rfl⟩))
    (fun os started H enc _ => lifted os started H enc)

/-- THE STATEMENT. -/
theorem proved : Rows.MajorDoesSaid :=
  over
#print axioms proved
end Go.Proofs.YtnalfnlmaallmaaGreat.JDo
