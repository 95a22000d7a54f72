/- Joined: Rm2, MAg, Mg11. -/
import Derived.Test.YtalgochmjddodaaGreatJ38
import Derived.Deep.RegionWith
import Derived.Test.YtalgochmjddodaaGreatJ35
import Derived.Test.YtalgochmjddodaaGreatJ36
namespace Go.Proofs.YtalgochmjddodaaGreat
set_option maxRecDepth 100000
set_option maxHeartbeats 400000
open Go.RowKit W
theorem roomFault_no (n o : Int) (w : World) (h : n < 16 \/ 256 < n \/ o < 0 \/ 1024 < o) :
  Calls Tryz.prog 14 #[.int .i64 n, .int .i64 o] w fun e w' => e = .returned (.agg #[.int .i64 1, .int .i64 (-1)]) /\ Below w.heap.size w w' := by
 have fin : ∀ (R : Ending -> World -> Prop), (∀ w1, Below (w.alloc (.cells #[.int .i64 0, .int .i64 0] 28)).heap.size (w.alloc (.cells #[.int .i64 0, .int .i64 0] 28)) w1 -> R (.returned (.agg #[.int .i64 1, .int .i64 (-1)])) w1) -> Calls Tryz.prog 46 #[.int .i64 1, .int .i64 (-1)] (w.alloc (.cells #[.int .i64 0, .int .i64 0] 28)) R := by
  intro R hR
  refine (f_any 1 (-1) _).mono ?_
  rintro e w1 ⟨rfl, hb⟩
  exact hR w1 hb
 by_cases h1 : n < 16
 ·go_enter Tryz.func14, Tryz.ntmps14
  go_wp2_with fail
  refine fin _ ?_
  intro w1 hb
  obtain ⟨c0, c1, hz⟩ := cells2 hb
  obtain ⟨_, hf⟩ := bcell hb
  have f0 := hf w.heap.size 0 (by simp)
  have f1 := hf w.heap.size 1 (by simp)
  simp [go_sem] at f0 f1
  go_wp2_with fail
  exact bodyPost_ret (v := .agg #[.int .i64 1, .int .i64 (-1)]) (by simp [results, Tryz.results14, go_sem, c0, c1]) rfl ⟨rfl, ((((Below.refl _ _).alloc (Nat.le_refl _) _).trans (hb.mono (by simp))).setCell (Nat.le_refl _) _).setCell (Nat.le_refl _) _⟩
 by_cases h2 : 256 < n
 ·go_enter Tryz.func14, Tryz.ntmps14
  go_wp2_with fail
  refine fin _ ?_
  intro w1 hb
  obtain ⟨c0, c1, hz⟩ := cells2 hb
  obtain ⟨_, hf⟩ := bcell hb
  have f0 := hf w.heap.size 0 (by simp)
  have f1 := hf w.heap.size 1 (by simp)
  simp [go_sem] at f0 f1
  go_wp2_with fail
  exact bodyPost_ret (v := .agg #[.int .i64 1, .int .i64 (-1)]) (by simp [results, Tryz.results14, go_sem, c0, c1]) rfl ⟨rfl, ((((Below.refl _ _).alloc (Nat.le_refl _) _).trans (hb.mono (by simp))).setCell (Nat.le_refl _) _).setCell (Nat.le_refl _) _⟩
 by_cases h3 : o < 0
 ·go_enter Tryz.func14, Tryz.ntmps14
  go_wp2_with fail
  refine fin _ ?_
  intro w1 hb
  obtain ⟨c0, c1, hz⟩ := cells2 hb
  obtain ⟨_, hf⟩ := bcell hb
  have f0 := hf w.heap.size 0 (by simp)
  have f1 := hf w.heap.size 1 (by simp)
  simp [go_sem] at f0 f1
  go_wp2_with fail
  exact bodyPost_ret (v := .agg #[.int .i64 1, .int .i64 (-1)]) (by simp [results, Tryz.results14, go_sem, c0, c1]) rfl ⟨rfl, ((((Below.refl _ _).alloc (Nat.le_refl _) _).trans (hb.mono (by simp))).setCell (Nat.le_refl _) _).setCell (Nat.le_refl _) _⟩
 have h4 : 1024 < o := by omega
 go_enter Tryz.func14, Tryz.ntmps14
 go_wp2_with fail
 refine fin _ ?_
 intro w1 hb
 obtain ⟨c0, c1, hz⟩ := cells2 hb
 obtain ⟨_, hf⟩ := bcell hb
 have f0 := hf w.heap.size 0 (by simp)
 have f1 := hf w.heap.size 1 (by simp)
 simp [go_sem] at f0 f1
 go_wp2_with fail
 exact bodyPost_ret (v := .agg #[.int .i64 1, .int .i64 (-1)]) (by simp [results, Tryz.results14, go_sem, c0, c1]) rfl ⟨rfl, ((((Below.refl _ _).alloc (Nat.le_refl _) _).trans (hb.mono (by simp))).setCell (Nat.le_refl _) _).setCell (Nat.le_refl _) _⟩
end Go.Proofs.YtalgochmjddodaaGreat

namespace Go.Proofs.YtalgochmjddodaaGreat.MAg
set_option maxRecDepth 100000
set_option maxHeartbeats 3000000
open Go.RowKit W Kp Stl
theorem run_code (x y : Value) (w : World) : Sem.run Tryz.prog (Instr.field 28 (.agg #[x, y]) 0) w = .ok x w := by
 unfold Instr.field
 simp [go_sem]
 rfl
theorem cellv {w : World} {xb : Nat} {a b : Value} (hx : w.heap[xb]? = some (.cells #[a, b] 52 (0, 0))) : w.cell? ⟨xb, 0, none⟩ = some a /\ w.cell? ⟨xb, 1, none⟩ = some b := by
 refine ⟨?_, ?_⟩ <;> simp [World.cell?, hx]
theorem walk (HM : ∀ (a : Wc) (W : Ww) (Y G : List Int), KInv a W.s Y G -> Wbd a W.s -> Eo a W -> Eo a (W.cut a)) (n o : Int) (a : Option Addr) (cc : Nat) (l : List S4) (w : World) (hl : L4 w a l) :
  Calls Tryz.prog 5 #[.int .i64 n, .int .i64 o, .slice a l.length cc] w fun e w' => e = .returned (.bool true) /\ Below w.heap.size w w' := by
 have HL : Hid (L4 w a l) := hl
 have HMC : Hid (∀ (a : Wc) (W : Ww) (Y G : List Int), KInv a W.s Y G -> Wbd a W.s -> Eo a W -> Eo a (W.cut a)) := HM
 clear hl HM
 by_cases hlen : 250 < l.length
 ·go_enter Tryz.func5, Tryz.ntmps5
  go_wp2_with fail
  refine (majorBegun_any w).mono ?_
  rintro e w1 ⟨rfl, hb1⟩
  have h2 : (250 : Int) < (l.length : Int) := by omega
  go_wp2_with fail
  go_ret
  exact ⟨rfl, hb1⟩
 ·have h2 : ¬ ((250 : Int) < (l.length : Int)) := by omega
  by_cases hno : n < 16 \/ 256 < n \/ o < 0 \/ 1024 < o
  ·have HNO : Hid (n < 16 \/ 256 < n \/ o < 0 \/ 1024 < o) := hno
   clear hno
   go_enter Tryz.func5, Tryz.ntmps5
   go_wp2_with fail
   refine (majorBegun_any w).mono ?_
   rintro e w1 ⟨rfl, hb1⟩
   go_wp2_with fail
   refine (start_no n o w1 HNO.out).mono ?_
   rintro e w2 ⟨rfl, hb2⟩
   go_wp2_with fail
   refine (roomFault_no n o w2 HNO.out).mono ?_
   rintro e w3 ⟨rfl, hb3⟩
   have hB2 := hb1.trans (hb2.mono hb1.size)
   have hrn := run_code (.int .i64 1) (.int .i64 (-1))
   go_wp2_with fail
   go_ret
   exact ⟨rfl, hB2.trans (hb3.mono hB2.size)⟩
  ·have hn0 : 16 <= n /\ n <= 256 /\ 0 <= o /\ o <= 1024 := by omega
   obtain ⟨n, rfl⟩ := Int.eq_ofNat_of_zero_le (show 0 <= n by omega)
   obtain ⟨o, rfl⟩ := Int.eq_ofNat_of_zero_le (show 0 <= o by omega)
   go_enter Tryz.func5, Tryz.ntmps5
   go_wp2_with fail
   refine (majorBegun_any w).mono ?_
   rintro e w1 ⟨rfl, hb1⟩
   go_wp2_with fail
   refine (start_yes n o w1 (by omega) (by omega) (by omega)).mono ?_
   rintro e w2 ⟨c, F1, rfl, j1, ⟨k1, k2, k3, k4⟩, g1, b1⟩
   have HC : Hid (0 <= c.most /\ c.most <= 100000) := ⟨by rw [k3]; omega, by rw [k3]; omega⟩
   have H2 : Hid ((boO c).J F1 (bo0 n o) w2 /\ Bok c (bo0 n o) 0 /\ Eo c.a (bo0 n o).1 /\ ∀ b, F1 b -> w1.heap.size <= b) := ⟨j1, Bok.start c n o, (fun e he => he.elim (fun q => by cases q) (fun q => by cases q)), g1⟩
   have HB2 : Hid (Below w1.heap.size w1 w2) := b1
   clear j1 k1 k2 k3 k4 g1 b1 hno hn0
   go_wp2_with fail
   go_loopw [9] (fun iv wr => ∃ (j : Nat) (S : Ww × Wrs) (F : Nat -> Prop), j <= l.length /\ iv = .int .i64 j /\ Hid ((boO c).J F S wr /\ Bok c S j /\ Eo c.a S.1 /\ ∀ b, F b -> w1.heap.size <= b) /\ Hid (Below w1.heap.size w1 wr)) (fun iv _ => l.length - (intOf iv).toNat)
   case atStart => exact ⟨0, bo0 n o, F1, Nat.zero_le _, rfl, H2, HB2⟩
   case round =>
    clear H2 HB2
    obtain ⟨j, S, F, hj, rfl, H, HB⟩ := hrel
    have hwb := bo_wbd H.out.1
    obtain ⟨Y, G, hkv⟩ := H.out.2.1.kv
    by_cases hlt : j < l.length
    ·obtain ⟨b0, o0, e0, l0, hc⟩ := HL.out (by omega)
     obtain ⟨⟨x1, x2, x3, x4⟩, _, _⟩ := hc j hlt
     subst e0
     clear hc
     have hbw := hb1.trans (HB.out.mono hb1.size)
     have y1 := (hbw.cell (p := ⟨b0, o0 + j * 4, none⟩) l0).trans x1
     have y2 := (hbw.cell (p := ⟨b0, o0 + j * 4 + 1, none⟩) l0).trans x2
     have y3 := (hbw.cell (p := ⟨b0, o0 + j * 4 + 2, none⟩) l0).trans x3
     have y4 := (hbw.cell (p := ⟨b0, o0 + j * 4 + 3, none⟩) l0).trans x4
     clear x1 x2 x3 x4 hbw l0
     generalize (l.getD j (0, 0, 0, 0)).1 = d at *
     generalize (l.getD j (0, 0, 0, 0)).2.1 = A at *
     generalize (l.getD j (0, 0, 0, 0)).2.2.1 = B at *
     generalize (l.getD j (0, 0, 0, 0)).2.2.2 = C at *
     have j0 : (0 : Int) <= (j : Int) := by omega
     have j1 : (j : Int) < (l.length : Int) := by omega
     have bcell := (bo_blk H.out.1).b0
     by_cases hd : d < 6
     ·have P := do_any H.out.1 (H.out.2.1.rb (by omega)) HC.out.1 HC.out.2 (by have := H.out.2.1.m; omega) (by have := H.out.2.1.rq; omega) (by have := H.out.2.1.rq; omega) d A B C
      have HN : Hid (Bok c (doS c S d A B C) (j + 1) /\ Eo c.a (doS c S d A B C).1) := ⟨H.out.2.1.do hwb d A B C, H.out.2.2.1.do hkv hwb d A B C⟩
      generalize doS c S d A B C = S3 at *
      clear hwb hkv
      as_aux_lemma =>
      go_wp2_with fail
      refine P.mono ?_
      clear P
      rintro e w3 ⟨F3, rfl, j3, t3⟩
      clear y1 y2 y3 y4 bcell
      have H5 : Hid ((boO c).J F3 S3 w3 /\ Bok c S3 (j + 1) /\ Eo c.a S3.1 /\ ∀ b, F3 b -> w1.heap.size <= b) := ⟨j3, HN.out.1, HN.out.2, fun b d => (t3.sub b d).elim (H.out.2.2.2 b) (fun e => Nat.le_trans HB.out.size e)⟩
      have HB5 : Hid (Below w1.heap.size w1 w3) := HB.out.trans (t3.fr.below HB.out.size H.out.2.2.2)
      clear j3 t3
      go_wp2_with fail
      go_roundw
      case rel => exact ⟨j + 1, S3, F3, by omega, by go_num, H5, HB5⟩
      case measure => simp [intOf]; omega
     ·by_cases hd6 : d = 6
      ·subst hd6
       have P := cutB_any H.out.1 (by have := H.out.2.1.rq; omega)
       have HN : Hid (Bok c (S.1.cut c.a, S.2) (j + 1) /\ Eo c.a (S.1.cut c.a)) := ⟨H.out.2.1.cut hwb, HMC.out c.a S.1 Y G hkv hwb H.out.2.2.1⟩
       generalize S.1.cut c.a = S3 at *
       generalize S.1.code c.a = cd at *
       clear hwb hkv
       as_aux_lemma =>
       go_wp2_with fail
       refine P.mono ?_
       clear P
       rintro e w3 ⟨F3, rfl, j3, t3⟩
       clear y1 y2 y3 y4 bcell
       have H5 : Hid ((boO c).J F3 (S3, S.2) w3 /\ Bok c (S3, S.2) (j + 1) /\ Eo c.a S3 /\ ∀ b, F3 b -> w1.heap.size <= b) := ⟨j3, HN.out.1, HN.out.2, fun b d => (t3.sub b d).elim (H.out.2.2.2 b) (fun e => Nat.le_trans HB.out.size e)⟩
       have HB5 : Hid (Below w1.heap.size w1 w3) := HB.out.trans (t3.fr.below HB.out.size H.out.2.2.2)
       clear j3 t3
       go_wp2_with fail
       go_roundw
       case rel => exact ⟨j + 1, (S3, S.2), F3, by omega, by go_num, H5, HB5⟩
       case measure => simp [intOf]; omega
      ·have d6 : (d == 6) = false := by simpa using hd6
       obtain ⟨sl, bk⟩ := H.out.2.1.gcutG hwb
       have P := cutGB_any H.out.1 (by have := H.out.2.1.rq; omega) sl
       have HN : Hid (Bok c (S.1.gcut c.a, S.2) (j + 1) /\ Eo c.a (S.1.gcut c.a)) := ⟨bk, H.out.2.2.1.gcut hkv hwb⟩
       clear sl bk
       generalize S.1.gcut c.a = S3 at *
       generalize S.1.gcode c.a = cd at *
       clear hwb hkv
       as_aux_lemma =>
       go_wp2_with fail
       refine P.mono ?_
       clear P
       rintro e w3 ⟨F3, rfl, j3, t3⟩
       clear y1 y2 y3 y4 bcell
       have H5 : Hid ((boO c).J F3 (S3, S.2) w3 /\ Bok c (S3, S.2) (j + 1) /\ Eo c.a S3 /\ ∀ b, F3 b -> w1.heap.size <= b) := ⟨j3, HN.out.1, HN.out.2, fun b d => (t3.sub b d).elim (H.out.2.2.2 b) (fun e => Nat.le_trans HB.out.size e)⟩
       have HB5 : Hid (Below w1.heap.size w1 w3) := HB.out.trans (t3.fr.below HB.out.size H.out.2.2.2)
       clear j3 t3
       go_wp2_with fail
       go_roundw
       case rel => exact ⟨j + 1, (S3, S.2), F3, by omega, by go_num, H5, HB5⟩
       case measure => simp [intOf]; omega
    ·obtain rfl : j = l.length := by omega
     clear hlt HL HMC
     have hag := again_pure hkv hwb H.out.2.2.1
     obtain ⟨sl, bk⟩ := H.out.2.1.gcutG hwb
     have P1 := cutGB_any H.out.1 (by have := H.out.2.1.rq; omega) sl
     have hrq := bk.rq
     dsimp only at hrq
     have bcell := (bo_blk H.out.1).b0
     clear sl bk hkv hwb
     generalize S.1.gcut c.a = S3 at *
     generalize S.1.gcode c.a = cd at *
     as_aux_lemma =>
     go_wp2_with fail
     refine P1.mono ?_
     clear P1
     rintro e w5 ⟨F5, rfl, j5, t5⟩
     have HB5 : Hid (Below w1.heap.size w1 w5 /\ ∀ b, F5 b -> w1.heap.size <= b) := ⟨HB.out.trans (t5.fr.below HB.out.size H.out.2.2.2), fun b d => (t5.sub b d).elim (H.out.2.2.2 b) (fun e => Nat.le_trans HB.out.size e)⟩
     rcases hag with hag | ⟨hag, AG⟩
     ·subst hag
      have hfin : Below w.heap.size w w5 := hb1.trans (HB5.out.1.mono hb1.size)
      clear j5 t5
      go_wp2_with fail
      go_ret
      exact ⟨rfl, hfin⟩
     ·subst hag
      have hwb := bo_wbd j5
      dsimp only at hwb
      obtain ⟨bd1, bd2, bd3⟩ := view_bd c.a.N S3.s.y S3.s.g S3.s.ws S3.q S3.s.rs
      rw [hwb.r1] at bd1
      have gz := AG.z
      have gO := hwb.g1
      have gOO := hwb.o1
      have hq4 := gcut_len c.a S3
      have PV := viewB_new j5 (by dsimp only; omega)
      dsimp only at PV
      have PM : Hid (∀ F' w', (boO c).J F' (S3, S.2) w' -> Calls Tryz.prog 16 #[.pointer (some ⟨c.a.pw, 0, none⟩)] w' fun e w'' => ∃ F'', e = .returned (.int .i64 0) /\ (boO c).J F'' (S3, S.2) w'' /\ Tn F' w' F'' w'') := fun F' w' hJ => by
       have q := cutB_any hJ (by dsimp only; omega)
       dsimp only at q
       rw [AG.c, AG.d] at q
       exact q
      have PG : Hid (∀ F' w', (boO c).J F' (S3, S.2) w' -> Calls Tryz.prog 22 #[.pointer (some ⟨c.a.pw, 0, none⟩)] w' fun e w'' => ∃ F'', e = .returned (.int .i64 0) /\ (boO c).J F'' (S3.gcut c.a, S.2) w'' /\ Tn F' w' F'' w'') := fun F' w' hJ => by
       have q := cutGB_any hJ (by dsimp only; omega) AG.sl
       dsimp only at q
       rw [AG.g] at q
       exact q
      have PVa : Hid (∀ F' w', (boO c).J F' (S3, S.2) w' -> Calls Tryz.prog 23 #[.pointer (some ⟨c.a.pw, 0, none⟩)] w' fun e w'' => ∃ r2 d2 na nc, e = .returned (.agg #[.slice r2 12 d2, .slice na (vwL c.a.N S3.s.y S3.s.g S3.s.ws S3.q S3.s.rs).2.2.length nc]) /\ Lp w'' r2 (vwL c.a.N S3.s.y S3.s.g S3.s.ws S3.q S3.s.rs).1 /\ Ln w'' na (vwL c.a.N S3.s.y S3.s.g S3.s.ws S3.q S3.s.rs).2.2 /\ Below w'.heap.size w' w'') := fun F' w' hJ => by
       refine (viewB_any hJ (by dsimp only; omega)).mono ?_
       rintro e w'' ⟨r2, d2, na, nn, nc, rfl, q1, q2, rfl, q4⟩
       dsimp only at q1 q2
       exact ⟨r2, d2, na, nc, rfl, q1, q2, q4⟩
      have PVb : Hid (∀ F' w', (boO c).J F' (S3.gcut c.a, S.2) w' -> Calls Tryz.prog 23 #[.pointer (some ⟨c.a.pw, 0, none⟩)] w' fun e w'' => ∃ r2 d2 na nc, e = .returned (.agg #[.slice r2 12 d2, .slice na (vwL c.a.N S3.s.y S3.s.g S3.s.ws S3.q S3.s.rs).2.2.length nc]) /\ Lp w'' r2 (vwL c.a.N S3.s.y S3.s.g S3.s.ws S3.q S3.s.rs).1 /\ Ln w'' na (vwL c.a.N S3.s.y S3.s.g S3.s.ws S3.q S3.s.rs).2.2 /\ Below w'.heap.size w' w'') := fun F' w' hJ => by
       refine (viewB_any hJ (by dsimp only; omega)).mono ?_
       rintro e w'' ⟨r2, d2, na, nn, nc, rfl, q1, q2, rfl, q4⟩
       dsimp only at q1 q2
       rw [AG.v] at q1 q2
       exact ⟨r2, d2, na, nc, by dsimp only; rw [AG.v], q1, q2, q4⟩
      have PUa : Hid (∀ F' w', (boO c).J F' (S3, S.2) w' -> Calls Tryz.prog 24 #[.pointer (some ⟨c.a.p, 0, none⟩)] w' fun e w'' => e = .returned (.tuple #[.int .i64 S3.s.y, .int .i64 S3.s.g]) /\ Below w'.heap.size w' w'') := fun F' w' hJ => by
       have q := usedB_any hJ
       dsimp only at q
       exact q
      have PUb : Hid (∀ F' w', (boO c).J F' (S3.gcut c.a, S.2) w' -> Calls Tryz.prog 24 #[.pointer (some ⟨c.a.p, 0, none⟩)] w' fun e w'' => e = .returned (.tuple #[.int .i64 (S3.gcut c.a).s.y, .int .i64 S3.s.g]) /\ Below w'.heap.size w' w'') := fun F' w' hJ => by
       have q := usedB_any hJ
       dsimp only at q
       rw [AG.u] at q
       exact q
      have HJ5 : Hid ((boO c).J F5 (S3, S.2) w5) := j5
      have lF : Hid (∀ b, F5 b -> b < w5.heap.size) := (boO c).lt j5
      obtain ⟨_, _, c0, _, b0c⟩ := bo_blk j5
      clear AG hwb j5 t5
      generalize (S3.gcut c.a).s.y = y4 at *
      generalize S3.gcut c.a = S4 at *
      generalize vwL c.a.N S3.s.y S3.s.g S3.s.ws S3.q S3.s.rs = R at *
      obtain ⟨vs, ms, ns⟩ := R
      dsimp only at *
      generalize S3.s.y = y3 at *
      generalize hg3 : S3.s.g = g3 at *
      clear hg3
      go_wp2_with fail
      refine PV.mono ?_
      clear PV
      rintro e w6 ⟨r2, d2, na, nn, nc, rfl, hp6, hn6, rfl, hb6⟩
      have hba := (Below.refl w6.heap.size w6).alloc (Nat.le_refl _) (.cells #[.slice r2 12 d2, .slice na ns.length nc] 52)
      have hb7 := hb6.trans (hba.mono hb6.size)
      have J7 := (boO c).below HJ5.out hb7
      have HV7 : Hid (LpN (w6.alloc (.cells #[.slice r2 12 d2, .slice na ns.length nc] 52)) w5.heap.size r2 vs /\ LnN (w6.alloc (.cells #[.slice r2 12 d2, .slice na ns.length nc] 52)) w5.heap.size na ns /\ (w6.alloc (.cells #[.slice r2 12 d2, .slice na ns.length nc] 52)).heap[w6.heap.size]? = some (.cells #[.slice r2 12 d2, .slice na ns.length nc] 52 (0, 0)) /\ w5.heap.size <= w6.heap.size) := ⟨hp6.below hba, hn6.below hba, heap_alloc_new _ _, hb6.size⟩
      have HJ7 : Hid ((boO c).J F5 (S3, S.2) (w6.alloc (.cells #[.slice r2 12 d2, .slice na ns.length nc] 52)) /\ Below w5.heap.size w5 (w6.alloc (.cells #[.slice r2 12 d2, .slice na ns.length nc] 52))) := ⟨J7, hb7⟩
      obtain ⟨_, _, c0, _, b0c⟩ := bo_blk J7
      have P2 := PUa.out _ _ J7
      clear hp6 hn6 hb6 hba hb7 J7 HJ5
      go_wp2_with fail
      generalize w6.alloc (.cells #[.slice r2 12 d2, .slice na ns.length nc] 52) = w7 at *
      generalize w6.heap.size = vb at *
      refine P2.mono ?_
      clear P2
      rintro e w8 ⟨rfl, hb8⟩
      have J8 := (boO c).below HJ7.out.1 hb8
      have HV8 : Hid (LpN w8 w5.heap.size r2 vs /\ LnN w8 w5.heap.size na ns /\ w8.heap[vb]? = some (.cells #[.slice r2 12 d2, .slice na ns.length nc] 52 (0, 0)) /\ w5.heap.size <= vb) := ⟨HV7.out.1.below hb8, HV7.out.2.1.below hb8, (hb8.block vb (lt_of_some HV7.out.2.2.1)).trans HV7.out.2.2.1, HV7.out.2.2.2⟩
      have HB8 : Hid (Below w1.heap.size w1 w8) := by
       have q := HJ7.out.2.trans (hb8.mono HJ7.out.2.size)
       exact HB5.out.1.trans (q.mono HB5.out.1.size)
      -- what is seen stands in whatever world comes then
      have SEE : Hid (∀ w', Fr F5 w8 w' -> Lp w' r2 vs /\ Ln w' na ns /\ w'.cell? ⟨vb, 0, none⟩ = some (.slice r2 12 d2) /\ w'.cell? ⟨vb, 1, none⟩ = some (.slice na ns.length nc)) := fun w' f => by
       have q : w'.heap[vb]? = some (.cells #[.slice r2 12 d2, .slice na ns.length nc] 52 (0, 0)) := (f.block vb (lt_of_some HV8.out.2.2.1) (fun d => by have := lF.out vb d; have := HV8.out.2.2.2; omega)).trans HV8.out.2.2.1
       obtain ⟨q0, q1⟩ := cellv q
       exact ⟨(HV8.out.1.fr f lF.out).1, (HV8.out.2.1.fr f lF.out).ln, q0, q1⟩
      have hd8 := (Below.refl w8.heap.size w8).drew
      have P3 := PM.out F5 w8.drew ((boO c).below J8 hd8)
      obtain ⟨_, _, c0, _, b0c⟩ := bo_blk J8
      obtain ⟨_, _, q0, q1⟩ := SEE.out w8 (Fr.refl _ _)
      clear hb8 HV7 HJ7 J8 PM
      go_wp2_with fail
      go_region_held3 (fun w' => w'.cell? ⟨c.pb, 0, none⟩ = some (.pointer (some ⟨c.a.pw, 0, none⟩)) /\ w'.cell? ⟨vb, 0, none⟩ = some (.slice r2 12 d2) /\ w'.cell? ⟨vb, 1, none⟩ = some (.slice na ns.length nc)) (go_keep)
       (first
        | (go_at_call 16; refine P3.mono ?_; clear P3; rintro e w9 ⟨F9, rfl, j9, t9⟩; have T9 : Tn F5 w8 F9 w9 := (Tn.of hd8).trans t9; obtain ⟨_, _, c9, _, b9⟩ := bo_blk j9; obtain ⟨_, _, t0, t1⟩ := SEE.out w9 T9.fr; have H9 : Hid ((boO c).J F9 (S3, S.2) w9 /\ Tn F5 w8 F9 w9) := ⟨j9, T9⟩; clear j9 t9 T9)
        | (go_at_call 23; refine (PVa.out F9 w9 H9.out.1).mono ?_; rintro e w10 ⟨r3, d3, na3, nc3, rfl, hp10, hn10, hb10⟩; have T10 := H9.out.2.below hb10; obtain ⟨_, _, c10, _, b10⟩ := bo_blk ((boO c).below H9.out.1 hb10); obtain ⟨k0, k1, t2, t3⟩ := SEE.out w10 T10.fr; have H10 : Hid (Lp w10 r2 vs /\ Ln w10 na ns /\ Lp w10 r3 vs /\ Ln w10 na3 ns /\ Below w9.heap.size w9 w10) := ⟨k0, k1, hp10, hn10, hb10⟩; clear hp10 hn10 hb10 k0 k1 T10)
        | (go_at_call 25; have PS := sameView_eq r2 r3 na na3 d2 d3 nc nc3 vs ns w10 (by omega) (by omega) (fun nd hnd => by have := bd3 nd hnd; omega) H10.out.1 H10.out.2.2.1 H10.out.2.1 H10.out.2.2.2.1; rw [bd1] at PS; refine PS.mono ?_; clear PS; rintro e w11 ⟨rfl, hb11⟩; have hbt := H10.out.2.2.2.2.trans (hb11.mono H10.out.2.2.2.2.size); have T11 := H9.out.2.below hbt; obtain ⟨_, _, c11, _, b11⟩ := bo_blk ((boO c).below H9.out.1 hbt); obtain ⟨_, _, t4, t5⟩ := SEE.out w11 T11.fr; have H11 : Hid ((boO c).J F9 (S3, S.2) w11 /\ Tn F5 w8 F9 w11) := ⟨(boO c).below H9.out.1 hbt, T11⟩; clear hb11 hbt T11))
      have P4 := PUa.out F9 w11 H11.out.1
      clear H9 H10 PVa
      go_wp2_with fail
      refine P4.mono ?_
      clear P4 PUa
      rintro e w12 ⟨rfl, hb12⟩
      have J12 := (boO c).below H11.out.1 hb12
      have T12 : Hid (Tn F5 w8 F9 w12) := H11.out.2.below hb12
      have P5 := PG.out F9 w12 J12
      obtain ⟨_, _, c12, _, b12⟩ := bo_blk J12
      clear hb12 J12 PG H11
      go_wp2_with fail
      refine P5.mono ?_
      clear P5
      rintro e w13 ⟨F13, rfl, j13, t13⟩
      have T13 : Hid (Tn F5 w8 F13 w13) := T12.out.trans t13
      have P6 := PUb.out F13 w13 j13
      have H13 : Hid ((boO c).J F13 (S4, S.2) w13) := j13
      obtain ⟨_, _, c13, _, b13⟩ := bo_blk j13
      clear j13 t13 T12 PUb
      go_wp2_with fail
      refine P6.mono ?_
      clear P6
      rintro e w14 ⟨rfl, hb14⟩
      have J14 := (boO c).below H13.out hb14
      have H14 : Hid ((boO c).J F13 (S4, S.2) w14 /\ Tn F5 w8 F13 w14) := ⟨J14, T13.out.below hb14⟩
      obtain ⟨_, _, c14, _, b14⟩ := bo_blk J14
      have hd14 := (Below.refl w14.heap.size w14).drew
      have H15 : Hid ((boO c).J F13 (S4, S.2) w14.drew /\ Tn F5 w8 F13 w14.drew) := ⟨(boO c).below J14 hd14, H14.out.2.below hd14⟩
      obtain ⟨_, _, e0, e1⟩ := SEE.out w14 H14.out.2.fr
      have P7 := size_any r2 na 12 d2 nc w14.drew (by omega) (fun nd hnd => by have := bd3 nd hnd; omega) (SEE.out w14.drew H15.out.2.fr).2.1
      have gz' : ((szV ns : Nat) : Int) <= (g3 : Int) := by omega
      have gd : decide (((szV ns : Nat) : Int) <= (g3 : Int)) = true := decide_eq_true gz'
      clear hb14 hd14 J14 T13 H13
      go_wp2_with fail
      go_region_held3 (fun w' => w'.cell? ⟨c.pb, 0, none⟩ = some (.pointer (some ⟨c.a.pw, 0, none⟩)) /\ w'.cell? ⟨vb, 0, none⟩ = some (.slice r2 12 d2) /\ w'.cell? ⟨vb, 1, none⟩ = some (.slice na ns.length nc)) (go_keep)
       (first
        | (go_at_call 26; refine P7.mono ?_; clear P7; rintro e w16 ⟨rfl, hb16⟩; have T16 := H15.out.2.below hb16; obtain ⟨_, _, c16, _, b16⟩ := bo_blk ((boO c).below H15.out.1 hb16); obtain ⟨_, _, t6, t7⟩ := SEE.out w16 T16.fr; have H16 : Hid ((boO c).J F13 (S4, S.2) w16 /\ Tn F5 w8 F13 w16) := ⟨(boO c).below H15.out.1 hb16, T16⟩; clear hb16 T16)
        | (go_at_call 23; refine (PVb.out F13 w16 H16.out.1).mono ?_; rintro e w17 ⟨r3, d3, na3, nc3, rfl, hp17, hn17, hb17⟩; have T17 := H16.out.2.below hb17; obtain ⟨_, _, c17, _, b17⟩ := bo_blk ((boO c).below H16.out.1 hb17); obtain ⟨k0, k1, t8, t9⟩ := SEE.out w17 T17.fr; have H17 : Hid (Lp w17 r2 vs /\ Ln w17 na ns /\ Lp w17 r3 vs /\ Ln w17 na3 ns /\ Below w16.heap.size w16 w17) := ⟨k0, k1, hp17, hn17, hb17⟩; clear hp17 hn17 hb17 k0 k1 T17)
        | (go_at_call 25; have PS := sameView_eq r2 r3 na na3 d2 d3 nc nc3 vs ns w17 (by omega) (by omega) (fun nd hnd => by have := bd3 nd hnd; omega) H17.out.1 H17.out.2.2.1 H17.out.2.1 H17.out.2.2.2.1; rw [bd1] at PS; refine PS.mono ?_; clear PS; rintro e w18 ⟨rfl, hb18⟩; have hbt := H17.out.2.2.2.2.trans (hb18.mono H17.out.2.2.2.2.size); have T18 := H16.out.2.below hbt; obtain ⟨_, _, c18, _, b18⟩ := bo_blk ((boO c).below H16.out.1 hbt); obtain ⟨_, _, v4, v5⟩ := SEE.out w18 T18.fr; have H18 : Hid (Tn F5 w8 F13 w18) := T18; clear hb18 hbt T18))
      have hfin : Below w.heap.size w w18 := hb1.trans ((HB8.out.trans (H18.out.fr.below HB8.out.size HB5.out.2)).mono hb1.size)
      go_wp2_with fail
      go_ret
      exact ⟨rfl, hfin⟩
end Go.Proofs.YtalgochmjddodaaGreat.MAg

namespace Go.Proofs.YtalgochmjddodaaGreat
open Go.RowKit W Kp Stl
def Jo (k : Ck) (z : C0) (x : Int) : Prop := aB x = true /\ (aV x ∈ k.T \/ aV x ∈ z.G)
def Et (k : Ck) (z : C0) (s : Cs) (q : List En) : Prop := ∀ e ∈ q, Jo k z e.1 /\ ∃ x0, Jo k z x0 /\ k.ml s x0 e.2
def Wqa (k : Ck) (s : Cs) (q : List En) : Prop := ∀ e ∈ q, k.al s e.2 = true \/ k.al s e.1 = false
section
variable {k : Ck} {z : C0} {s t u : Cs} {D H : List Int} {q : List En}
theorem Et.pg (h : Et k z s q) (p : Pg k s t) : Et k z t q := fun e he => by
 obtain ⟨h1, x0, h2, h3⟩ := h e he
 exact ⟨h1, x0, h2, p.ml h3⟩
theorem al_pg (p : Pg k s t) {x : Int} (h : k.al s x = true) : k.al t x = true := by
 unfold Ck.al Ck.ls at h ⊢
 cases c : k.yg x
 ·rfl
 ·rw [c] at h
  have h1 : s.f (aV x) ≠ -1 := by
   intro e
   rw [e] at h
   simp at h
  rw [p.f _ h1]
  simpa using h1
theorem al_old {x : Int} (h : k.yg x = false) : k.al s x = true := by
 unfold Ck.al Ck.ls
 rw [h]
 rfl
theorem Et.wkl : ∀ (l : List Nat) (t : (Cs × List En) × Bool) (H : List Int), LI k z t.1.1 H D -> WE k z t.1.1 H -> (∀ i ∈ l, i < t.1.2.length) -> Et k z t.1.1 t.1.2 -> Et k z (l.foldl (wkP k.al k.br) t).1.1 (l.foldl (wkP k.al k.br) t).1.2
 | [], _, _, _, _, _, e => e
 | i :: l, t, H, h, w, hl, e => by
  rw [List.foldl_cons]
  by_cases c : (k.al t.1.1 (t.1.2.getD i (0, 0)).2 || !k.al t.1.1 (t.1.2.getD i (0, 0)).1) = true
  ·have e1 : wkP k.al k.br t i = t := by unfold wkP; rw [if_pos c]
   rw [e1]
   exact Et.wkl l t H h w (fun j hj => hl j (List.mem_cons_of_mem _ hj)) e
  ·have e1 : wkP k.al k.br t i = (((k.br t.1.1 (t.1.2.getD i (0, 0)).2).2, t.1.2.set i ((t.1.2.getD i (0, 0)).1, (k.br t.1.1 (t.1.2.getD i (0, 0)).2).1)), true) := by
    unfold wkP
    rw [if_neg c]
   have hi := hl i (by simp)
   have hm : t.1.2.getD i (0, 0) ∈ t.1.2 := by
    rw [List.getD_eq_getElem?_getD, List.getElem?_eq_getElem hi]
    exact List.getElem_mem hi
   obtain ⟨H1, l1, w1, p1, _⟩ := Ru.br (k := k) (z := z) (D := D) (s := t.1.1) (t.1.2.getD i (0, 0)).2 H h w
   obtain ⟨_, _, _, _, _, m1, _⟩ := h.mi.br (t.1.2.getD i (0, 0)).2
   rw [e1]
   refine Et.wkl l _ H1 l1 w1 (fun j hj => ?_) ?_
   ·show j < (t.1.2.set i _).length
    rw [List.length_set]
    exact hl j (List.mem_cons_of_mem _ hj)
   ·intro d hd
    have hd : d ∈ t.1.2.set i ((t.1.2.getD i (0, 0)).1, (k.br t.1.1 (t.1.2.getD i (0, 0)).2).1) := hd
    rcases List.mem_or_eq_of_mem_set hd with hd | rfl
    ·exact e.pg p1 d hd
    ·obtain ⟨g1, x0, g2, g3⟩ := e _ hm
     exact ⟨g1, x0, g2, m1 x0 g3⟩
theorem Et.wa {t : Cs × List En} (h : LI k z t.1 H D) (w : WE k z t.1 H) (e : Et k z t.1 t.2) : Et k z (k.wa t).1.1 (k.wa t).1.2 :=
 Et.wkl (List.range t.2.length) (t, false) H h w (fun _ hi => List.mem_range.1 hi) e
theorem Et.spr : ∀ (n : Nat) (t : Cs × List En) (H : List Int), LI k z t.1 H D -> WE k z t.1 H -> Et k z t.1 t.2 -> Et k z (k.spr n t).1 (k.spr n t).2
 | 0, _, _, _, _, e => e
 | n + 1, t, H, h, w, e => by
  obtain ⟨H1, l1, w1, p1, _⟩ := Ru.lb (k := k) (z := z) (D := D) (s := t.1) (k.O + 1) H h w
  obtain ⟨H2, l2, w2, p2, _⟩ := Ru.kv (k := k) (z := z) (D := D) (s := k.lb (k.O + 1) t.1) H1 l1 w1
  have e2 : Et k z (k.kv (k.lb (k.O + 1) t.1)).2 t.2 := e.pg (p1.trans p2)
  obtain ⟨H3, l3, w3, _, _⟩ := Ru.wa (k := k) (z := z) (D := D) ((k.kv (k.lb (k.O + 1) t.1)).2, t.2) H2 l2 w2
  have e3 := Et.wa (t := ((k.kv (k.lb (k.O + 1) t.1)).2, t.2)) l2 w2 e2
  unfold Ck.spr
  split
  ·exact Et.spr n ((k.kv (k.lb (k.O + 1) t.1)).2, t.2) H2 l2 w2 e2
  ·split
   ·exact Et.spr n _ H3 l3 w3 e3
   ·exact e3
theorem wkl_ok (k : Ck) : ∀ (l : List Nat) (t : (Cs × List En) × Bool), (l.foldl (wkP k.al k.br) t).2 = false -> ∀ i ∈ l, k.al t.1.1 (t.1.2.getD i (0, 0)).2 = true \/ k.al t.1.1 (t.1.2.getD i (0, 0)).1 = false
 | [], _, _, _, hi => by cases hi
 | j :: l, t, h, i, hi => by
  rw [List.foldl_cons] at h
  obtain ⟨_, h2⟩ := wkl_idle k l _ h
  by_cases c : (k.al t.1.1 (t.1.2.getD j (0, 0)).2 || !k.al t.1.1 (t.1.2.getD j (0, 0)).1) = true
  ·have e1 : wkP k.al k.br t j = t := by unfold wkP; rw [if_pos c]
   rw [e1] at h
   rcases List.mem_cons.1 hi with rfl | hi
   ·simpa using c
   ·exact wkl_ok k l t h i hi
  ·unfold wkP at h2
   rw [if_neg c] at h2
   cases h2
theorem spr_wq : ∀ (n : Nat) (t : Cs × List En) (H : List Int), LI k z t.1 H D -> WE k z t.1 H -> CB k t.1 -> k.mu t.1 < n -> Wqa k (k.spr n t).1 (k.spr n t).2
 | 0, t, H, _, _, _, e => absurd e (by omega)
 | n + 1, t, H, h, w, hb, e => by
  obtain ⟨H1, l1, w1, _, _, _⟩ := LI.lbw (k.O + 1) h w
  obtain ⟨c1, c2, c3⟩ := CI.lb h.mi.ci hb (k.O + 1)
  obtain ⟨d1, d2, d3, d4⟩ := CI.kv c1 c2
  obtain ⟨H2, l2, w2, _, _⟩ := l1.kv w1
  unfold Ck.spr
  cases hk : (k.kv (k.lb (k.O + 1) t.1)).1
  ·rw [if_neg (by simp)]
   obtain ⟨f1, f2, f3, f4, f5⟩ := CI.wa (s := ((k.kv (k.lb (k.O + 1) t.1)).2, t.2)) d1 d2
   cases hw : (k.wa ((k.kv (k.lb (k.O + 1) t.1)).2, t.2)).2
   ·rw [if_neg (by simp), wa_idle k _ hw]
    intro d hd
    obtain ⟨i, hi, ei⟩ := List.mem_iff_getElem.1 hd
    have q := wkl_ok k (List.range t.2.length) (((k.kv (k.lb (k.O + 1) t.1)).2, t.2), false) hw i (List.mem_range.2 hi)
    have e2 : t.2.getD i (0, 0) = d := by
     rw [List.getD_eq_getElem?_getD, List.getElem?_eq_getElem hi, ei]
     rfl
    dsimp only at q
    rw [e2] at q
    exact q
   ·rw [if_pos rfl]
    obtain ⟨H3, l3, w3, _, _⟩ := Ru.wa (k := k) (z := z) (D := D) ((k.kv (k.lb (k.O + 1) t.1)).2, t.2) H2 l2 w2
    have h5 := f5 hw
    dsimp only at h5
    exact spr_wq n _ H3 l3 w3 f2 (by omega)
  ·rw [if_pos rfl]
   have h5 := d4 hk
   exact spr_wq n ((k.kv (k.lb (k.O + 1) t.1)).2, t.2) H2 l2 w2 d2 (by dsimp only; omega)
def Sq (k : Ck) (z : C0) (D : List Int) (t : Cs × List En) : Prop := ∃ H, LI k z t.1 H D /\ WE k z t.1 H /\ CB k t.1 /\ Et k z t.1 t.2 /\ Wqa k t.1 t.2
theorem Sq.sp {t : Cs × List En} (h : LI k z t.1 H D) (w : WE k z t.1 H) (hb : CB k t.1) (e : Et k z t.1 t.2) : Sq k z D (k.sp t) := by
 obtain ⟨K, m1, m2, _, _⟩ := Ru.sp (k := k) (z := z) (D := D) t H h w
 exact ⟨K, m1, m2, (spr_cb _ t h.mi.ci hb).2, Et.spr _ t H h w e, spr_wq _ t H h w hb (by omega)⟩
theorem Sq.cm {t : Cs × List En} (h : Sq k z D t) {e : En} (j1 : Jo k z e.1) (j2 : Jo k z e.2) : Sq k z D (cm (noSd Cs) (fun s x => k.al s.1 x) k.ke t e).2 := by
 cases c : k.al t.1 e.1
 ·rw [cm_no (o := noSd Cs) (is := fun s x => k.al s.1 x) (kp := k.ke) (s := t) (e := e) c]
  exact h
 ·rw [cm_yes (o := noSd Cs) (is := fun s x => k.al s.1 x) (kp := k.ke) (s := t) (e := e) c]
  obtain ⟨H, h1, h2, h3, h4, h5⟩ := h
  obtain ⟨H1, l1, w1, p1, _⟩ := Ru.br (k := k) (z := z) (D := D) (s := t.1) e.2 H h1 h2
  obtain ⟨_, _, _, y1, _, m1, _⟩ := h1.mi.br e.2
  obtain ⟨_, e1, e2, e3⟩ := br_rs k t.1 e.2
  have hb : CB k (k.br t.1 e.2).2 := ⟨by rw [e1, e3]; exact h3.wk, by rw [e2, e3]; exact h3.ep⟩
  obtain ⟨K, q1, q2, q3, q4, q5⟩ := Sq.sp (t := ((k.br t.1 e.2).2, t.2)) l1 w1 hb (h4.pg p1)
  obtain ⟨_, _, _, p2, _⟩ := Ru.sp (k := k) (z := z) (D := D) ((k.br t.1 e.2).2, t.2) H1 l1 w1
  show Sq k z D ((k.sp ((k.br t.1 e.2).2, t.2)).1, (k.sp ((k.br t.1 e.2).2, t.2)).2 ++ [(e.1, (k.br t.1 e.2).1)])
  refine ⟨K, q1, q2, q3, fun d hd => ?_, fun d hd => ?_⟩
  ·rcases List.mem_append.1 hd with hd | hd
   ·exact q4 d hd
   ·rw [List.mem_singleton.1 hd]
    exact ⟨j1, e.2, j2, p2.ml (m1 _ (Or.inl rfl))⟩
  ·rcases List.mem_append.1 hd with hd | hd
   ·exact q5 d hd
   ·rw [List.mem_singleton.1 hd]
    exact Or.inl (al_old y1)
theorem Sq.pl : ∀ (l : List En) (u : List En × List En × (Cs × List En)), Sq k z D u.2.2 -> (∀ e ∈ l, Jo k z e.1 /\ Jo k z e.2) -> Sq k z D (l.foldl (pstep (Go.Proofs.YtalgochmjddodaaGreat.cm (noSd Cs) (fun s x => k.al s.1 x) k.ke)) u).2.2
 | [], _, h, _ => h
 | e :: l, u, h, hl => by
  rw [List.foldl_cons]
  have key : (pstep (Go.Proofs.YtalgochmjddodaaGreat.cm (noSd Cs) (fun s x => k.al s.1 x) k.ke) u e).2.2 = (Go.Proofs.YtalgochmjddodaaGreat.cm (noSd Cs) (fun s x => k.al s.1 x) k.ke u.2.2 e).2 := by
   unfold pstep
   split <;> rfl
  refine Sq.pl l _ ?_ (fun d hd => hl d (List.mem_cons_of_mem _ hd))
  rw [key]
  exact h.cm (hl e (by simp)).1 (hl e (by simp)).2
theorem Sq.trn : ∀ (n : Nat) (t : Cs × List En) (d : List En), Sq k z D t -> (∀ e ∈ d, Jo k z e.1 /\ Jo k z e.2) -> Sq k z D (trn (Go.Proofs.YtalgochmjddodaaGreat.cm (noSd Cs) (fun s x => k.al s.1 x) k.ke) n t d).1
 | 0, _, _, h, _ => h
 | n + 1, t, d, h, hd => by
  have p1 := Sq.pl d ([], [], t) h hd
  have p1 : Sq k z D (pts (Go.Proofs.YtalgochmjddodaaGreat.cm (noSd Cs) (fun s x => k.al s.1 x) k.ke) t d).2.2 := p1
  by_cases c : (pts (Go.Proofs.YtalgochmjddodaaGreat.cm (noSd Cs) (fun s x => k.al s.1 x) k.ke) t d).1.length = 0
  ·rw [trn_stop _ _ _ _ c]
   exact p1
  ·rw [trn_go _ _ _ _ c]
   exact Sq.trn n _ _ p1 (fun e he => hd e (pts_mem _ t d e (Or.inr he)))
theorem mw_g (k : Ck) : ∀ (l : List Int) (s : Cs), (l.foldl k.mw1 s).g = s.g
 | [], _ => rfl
 | x :: l, s => by
  rw [List.foldl_cons, mw_g k l]
  unfold Ck.mw1
  split <;> rfl
theorem be_g (k : Ck) : ∀ (l : List Int) (s : Cs), (l.foldl k.be1 s).g = s.g
 | [], _ => rfl
 | x :: l, s => by
  rw [List.foldl_cons, be_g k l]
  rfl
end
section
variable {a : Wc} {S : Ww} {Y G : List Int}
theorem settled_sq (h : KInv a S.s Y G) (hb : Wbd a S.s) (hr : S.s.y <= a.O - S.s.g) (he : Eo a S) : ∃ D, Sq (S.s.k0 a) (S.s.z0 G) D ((S.s.k0 a).sS (S.t3 a) S.r) /\ Pg (S.s.k0 a) (S.t3 a).1 (S.s4 a) := by
 have hT : (S.s.k0 a).T = Y := Tw_eq h.inv.full hb.n1 hb.y1 hb.o1 hb.g1
 have jo : ∀ x, tB a.N S.s.y S.s.g S.s.ws x = true -> Jo (S.s.k0 a) (S.s.z0 G) x := fun x hx => by
  obtain ⟨q1, q2⟩ := (tB_iff (O := a.O) h.inv.full hb.n1 hb.y1 hb.o1 hb.g1).1 hx
  refine ⟨q1, ?_⟩
  rw [hT]
  exact q2
 have L0 := LI.start h.inv.full hb.n0 hb.n1 hb.o1 hb.y1 hb.g1 hb.l1 hr
 have W0 := WE.start a S.s G
 obtain ⟨H1, L1, p1, ⟨H1', e1⟩, l1, y1, _, m1⟩ := L0.kr 12 (by show 12 <= S.s.rs.length; rw [hb.r1]; exact Nat.le_refl _)
 have W1 := W0.kr L0.mi 12 L1.mi p1 ⟨_, e1⟩
 have eth : thO a.N S.s.y (S.s.s1 a).g (S.s.s1 a).ws = G ++ H1 := (L1.mi.full.lists (O := a.O) hb.n1 hb.y1 hb.o1 L1.mi.ci.hg).2
 have enx : (S.s.s1 a).nx = ((S.s.k0 a).N : Int) + (S.s.z0 G).g := (kr_wk (S.s.k0 a) (S.s.s0 a) 12).2.2
 have hzt : Tile ((S.s.k0 a).l0 (S.s.z0 G)) (((S.s.k0 a).N : Int) + (S.s.z0 G).g) (S.s.k0 a).N (S.s.z0 G).G := h.inv.full.to
 obtain ⟨H2, D2, L2, W2, p2, ⟨H2', e2⟩, _, hD⟩ := LI.lmw (nC a.O) S.s.M hzt (G ++ H1) L1 W1 (fun x hx => (List.mem_append.1 hx).imp id (fun d => L1.mi.hlo x d))
 have es2 : (G ++ H1).foldl ((S.s.k0 a).lm1 (((S.s.k0 a).N : Int) + (S.s.z0 G).g) (nC a.O) S.s.M) ((S.s.k0 a).kr (S.s.s0 a) 12) = S.s.s2 a := by
  unfold Wst.s2 Ck.lm
  rw [eth, enx]
  rfl
 have hlen := lm_len (S.s.k0 a) (((S.s.k0 a).N : Int) + (S.s.z0 G).g) (nC a.O) S.s.M (G ++ H1) ((S.s.k0 a).kr (S.s.s0 a) 12)
 rw [es2] at L2 W2 p2 hlen
 have hle : (G ++ H1).length <= 2000 := by
  rw [<- eth]
  exact ths_le _ _
 obtain ⟨q1, q2, q3⟩ := kr_wk (S.s.k0 a) (S.s.s0 a) 12
 have cb : CB (S.s.k0 a) (S.s.s2 a) := by
  obtain ⟨u1, u2, u3, _⟩ := hlen
  rw [q1] at u1
  rw [q2] at u2
  rw [q3] at u3
  have u1 : (S.s.s2 a).wk.length <= 0 + (G ++ H1).length := u1
  have u2 : (S.s.s2 a).ep.length <= 0 + (G ++ H1).length := u2
  have u3 : (S.s.s2 a).nx = (a.N : Int) + S.s.g := u3
  have o1 := hb.o1
  refine ⟨?_, ?_⟩
  ·rw [u3]
   show (S.s.s2 a).wk.length + ((a.N : Int) + a.O + 13 - ((a.N : Int) + S.s.g)).toNat <= 4000
   omega
  ·rw [u3]
   show (S.s.s2 a).ep.length + ((a.N : Int) + a.O + 13 - ((a.N : Int) + S.s.g)).toNat <= 4000
   omega
 have key : ∀ s2 : Cs, LI (S.s.k0 a) (S.s.z0 G) s2 H2 D2 -> WE (S.s.k0 a) (S.s.z0 G) s2 H2 -> CB (S.s.k0 a) s2 -> Sq (S.s.k0 a) (S.s.z0 G) D2 ((S.s.k0 a).sp (s2, S.q)) := fun s2 l w b =>
  Sq.sp (t := (s2, S.q)) l w b (fun e hq => ⟨jo _ (he e (Or.inr hq)).1, e.2, jo _ (he e (Or.inr hq)).2, Or.inl rfl⟩)
 have s3 : Sq (S.s.k0 a) (S.s.z0 G) D2 (S.t3 a) := by
  unfold Ww.t3
  exact key _ L2 W2 cb
 refine ⟨D2, Sq.trn _ (S.t3 a) _ s3 (fun e hq => ?_), ?_⟩
 ·have hq := (List.mem_filter.1 hq).1
  exact ⟨jo _ (he e (Or.inl hq)).1, jo _ (he e (Or.inl hq)).2⟩
 ·obtain ⟨K, r1, r2, _⟩ := s3
  obtain ⟨_, _, _, p3, _⟩ := Ru.sS (k := S.s.k0 a) (z := S.s.z0 G) (D := D2) (S.t3 a) S.r K r1 r2
  exact p3
theorem Eo.cut (h : KInv a S.s Y G) (hb : Wbd a S.s) (he : Eo a S) : Eo a (S.cut a) := by
 cases hf : S.full a
 ·have hr : S.s.y <= a.O - S.s.g := by
   unfold Ww.full at hf
   have := of_decide_eq_false hf
   omega
  obtain ⟨K, D, c⟩ := cut_rest h hb hr
  obtain ⟨D2, ⟨H, s1, s2, _, s4, s5⟩, pg⟩ := settled_sq h hb hr he
  have hT : (S.s.k0 a).T = Y := Tw_eq h.inv.full hb.n1 hb.y1 hb.o1 hb.g1
  have hN := hb.n1
  have hO := hb.o1
  have hg := c.li.mi.ci.hg
  have eN : (S.s.k0 a).N = a.N := rfl
  have eO : (S.s.k0 a).O = a.O := rfl
  have g6 : (S.s6 a).g = (S.s4 a).g := (be_g _ _ _).trans (mw_g _ _ _)
  have F6 := (c.done h hb).full
  have eS : S.cut a = ⟨⟨0, (S.s6 a).g, (S.s6 a).ws, [], (S.s6 a).rs⟩, (S.s.k0 a).sR (S.t3 a) S.r, (S.s.k0 a).sQ (S.t3 a) S.r⟩ := by
   unfold Ww.cut
   rw [if_neg (by rw [hf]; simp)]
  have fin : ∀ x, aB x = true -> aV x ∈ G ++ K -> tB a.N (S.cut a).s.y (S.cut a).s.g (S.cut a).s.ws x = true := fun x h1 h2 => by
   rw [eS]
   exact (tB_iff (O := a.O) F6 hN (Nat.zero_le _) hO (by rw [g6]; exact hg)).2 ⟨h1, Or.inr h2⟩
  have mvd : ∀ v ∈ (S.s.k0 a).T, (S.s4 a).f v ≠ -1 -> aB (ew 3 ((S.s4 a).f v)) = true /\ aV (ew 3 ((S.s4 a).f v)) ∈ G ++ K := fun v hv hfv => by
   have hH := c.li.mi.fh _ hv hfv
   have hbd := c.li.mi.bdH hH
   obtain ⟨n, hn⟩ : ∃ n : Nat, (S.s4 a).f v = n := ⟨((S.s4 a).f v).toNat, by omega⟩
   rw [hn]
   obtain ⟨w1, w2⟩ := ew_at n (by omega)
   rw [w2, <- hn]
   rw [<- hn] at w1
   exact ⟨w1, List.mem_append_right _ hH⟩
  have ygT : ∀ x, (S.s.k0 a).yg x = true -> aV x ∈ (S.s.k0 a).T := fun x hx => by
   unfold Ck.yg at hx
   rw [Bool.and_eq_true] at hx
   simpa using hx.2
  have key : ∀ x, Jo (S.s.k0 a) (S.s.z0 G) x -> (S.s.k0 a).al (S.s4 a) x = true -> tB a.N (S.cut a).s.y (S.cut a).s.g (S.cut a).s.ws ((S.s.k0 a).nw (S.s4 a) x) = true := fun x hj ha => by
   cases hy : (S.s.k0 a).yg x
   ·have e1 : (S.s.k0 a).nw (S.s4 a) x = x := by unfold Ck.nw; rw [hy]; rfl
    rw [e1]
    refine fin x hj.1 (List.mem_append_left _ ?_)
    rcases hj.2 with q | q
    ·unfold Ck.yg at hy
     rw [hj.1] at hy
     simp at hy
     exact absurd q hy
    ·exact q
   ·have hfx : (S.s4 a).f (aV x) ≠ -1 := fun e => by
     unfold Ck.al Ck.ls at ha
     rw [hy, e] at ha
     simp at ha
    have e1 : (S.s.k0 a).nw (S.s4 a) x = ew 3 ((S.s4 a).f (aV x)) := by unfold Ck.nw; rw [hy, if_pos (by simp [hfx])]
    rw [e1]
    obtain ⟨w1, w2⟩ := mvd _ (ygT x hy) hfx
    exact fin _ w1 w2
  have key2 : ∀ x0 x, Jo (S.s.k0 a) (S.s.z0 G) x0 -> (S.s.k0 a).ml (S.s4 a) x0 x -> (S.s.k0 a).al (S.s4 a) x = true -> tB a.N (S.cut a).s.y (S.cut a).s.g (S.cut a).s.ws ((S.s.k0 a).nw (S.s4 a) x) = true := fun x0 x hj hm ha => by
   rcases hm with rfl | ⟨m1, m2, m3⟩
   ·exact key _ hj ha
   ·obtain ⟨w1, w2⟩ := mvd _ (ygT x0 m1) m2
    rw [<- m3] at w1 w2
    have hy : (S.s.k0 a).yg x = false := c.li.mi.noY w2
    have e1 : (S.s.k0 a).nw (S.s4 a) x = x := by unfold Ck.nw; rw [hy]; rfl
    rw [e1]
    exact fin _ w1 w2
  have jo : ∀ x, tB a.N S.s.y S.s.g S.s.ws x = true -> Jo (S.s.k0 a) (S.s.z0 G) x := fun x hx => by
   obtain ⟨q1, q2⟩ := (tB_iff (O := a.O) h.inv.full hb.n1 hb.y1 hb.o1 hb.g1).1 hx
   refine ⟨q1, ?_⟩
   rw [hT]
   exact q2
  intro e hm
  rcases hm with hm | hm
  ·have e1 : (S.cut a).r = (S.s.k0 a).sR (S.t3 a) S.r := by rw [eS]
   rw [e1] at hm
   have hm : e ∈ ((S.r.filter (fun e => (S.s.k0 a).al (S.t3 a).1 e.2)).filter (fun e => (S.s.k0 a).al (S.s4 a) e.1)).map fun e => ((S.s.k0 a).nw (S.s4 a) e.1, (S.s.k0 a).nw (S.s4 a) e.2) := hm
   obtain ⟨e0, h1, h2⟩ := List.mem_map.1 hm
   obtain ⟨h3, h4⟩ := List.mem_filter.1 h1
   obtain ⟨h5, h6⟩ := List.mem_filter.1 h3
   obtain ⟨j1, j2⟩ := he e0 (Or.inl h5)
   rw [<- h2]
   exact ⟨key _ (jo _ j1) h4, key _ (jo _ j2) (al_pg pg h6)⟩
  ·have e1 : (S.cut a).q = (S.s.k0 a).sQ (S.t3 a) S.r := by rw [eS]
   rw [e1] at hm
   have hm : e ∈ (((S.s.k0 a).sS (S.t3 a) S.r).2.filter (fun e => (S.s.k0 a).al (S.s4 a) e.1)).map fun e => ((S.s.k0 a).nw (S.s4 a) e.1, (S.s.k0 a).nw (S.s4 a) e.2) := hm
   obtain ⟨e0, h1, h2⟩ := List.mem_map.1 hm
   obtain ⟨h3, h4⟩ := List.mem_filter.1 h1
   obtain ⟨j1, x0, j2, j3⟩ := s4 e0 h3
   rw [<- h2]
   refine ⟨key _ j1 h4, key2 x0 _ j2 j3 ?_⟩
   rcases s5 e0 h3 with q | q
   ·exact q
   ·have h4 : (S.s.k0 a).al (S.s4 a) e0.1 = true := h4
    have q : (S.s.k0 a).al (S.s4 a) e0.1 = false := q
    rw [h4] at q
    cases q
 ·have eS : S.cut a = S := by unfold Ww.cut; rw [if_pos hf]
  rw [eS]
  exact he
end
end Go.Proofs.YtalgochmjddodaaGreat
