/- Joined: Mn11, Mn17, Mj22, Mj23, Mj24, Mj25, Mk1, Mk2, Mg1, Mg2, Mj26, Sd8, Sd9, Sdb, Mj27, Mj28, Wl3, Wl4. -/
import Derived.Test.YtnalfnlmaallmaaGreatJ18
import Derived.Test.YtnalfnlmaallmaaGreatJ26
import Derived.Test.YtnalfnlmaallmaaGreatJ17
import Derived.Test.YtnalfnlmaallmaaGreatJ13
import Derived.Lib.SliceRun
import Derived.Test.YtnalfnlmaallmaaGreatJ19
import Derived.Test.YtnalfnlmaallmaaGreatJ06
import Derived.Test.YtnalfnlmaallmaaGreatJ09
namespace Go.Proofs.YtnalfnlmaallmaaGreat
set_option maxRecDepth 100000
set_option maxHeartbeats 2000000
open Go.RowKit W Kp Stl
section
variable {c : Cc} {k : Ck} {F : Nat -> Prop} {s : Cs} {w : World}
theorem mendW_any (h : (cutO c k).J F s w) (hI : CI k s) (hl : s.wk.length <= 10000) :
  Calls Tryz.prog 67 #[.pointer (some ⟨c.pk, 0, none⟩)] w fun e w' => e = .returned (.tuple #[]) /\ (cutO c k).J F (k.mw s s.wk) w' /\ Tn F w F w' := by
 obtain ⟨vw, ve, h⟩ := h
 obtain ⟨c0, _, _, c4, _, c5, _, _, _, cz, er, _, _, lk, _⟩ := cut_cells h
 obtain ⟨ad, cap, rfl⟩ := row_slice er
 have HI : Hid (CI k s) := hI
 have HP : Hid (∀ a ∈ s.wk, (k.N : Int) <= a /\ a <= 2000) := hI.wk0
 have hN0 : (0 : Int) <= k.N := by omega
 clear hI cz
 go_enter Tryz.func67, Tryz.ntmps67
 go_wp2_with fail
 go_loopw [10] (fun iv wr => ∃ (j : Nat) (s1 : Cs), j <= s.wk.length /\ iv = .int .i64 j /\ Hid (k.mw s (s.wk.take j) = s1) /\ (cutV c k (.slice ad s.wk.length cap) ve).J F s1 wr /\ Tn F w F wr /\ Hid (CI k s1 /\ Cq k s s1)) (fun iv _ => s.wk.length - (intOf iv).toNat)
 case atStart => exact ⟨0, s, Nat.zero_le _, rfl, rfl, h, Tn.refl _ _, ⟨HI.out, Cq.refl _ _⟩⟩
 case round =>
  obtain ⟨j, s1, hj, rfl, HE, hJ, hT, HI1⟩ := hrel
  obtain ⟨d0, _, _, d4, _, d5, _, _, _, dz, er1, _, _, lk1, _⟩ := cut_cells hJ
  have eep := HI1.out.2.wk
  rw [eep] at er1
  by_cases hlt : j < s.wk.length
  ·obtain ⟨b0, o0, e0, hb0, hc⟩ := row_ints er1 (by omega)
   have x1 := hc j hlt
   subst e0
   have hin : s.wk.getD j 0 ∈ s.wk := by rw [List.getD_eq_getElem?_getD, List.getElem?_eq_getElem hlt]; exact List.getElem_mem hlt
   have hbd := HP.out _ hin
   have HS : Hid (k.mw s (s.wk.take (j + 1)) = k.mw1 s1 (s.wk.getD j 0)) := by
    show _ = _
    rw [take_snoc s.wk j hlt 0]
    unfold Ck.mw
    rw [List.foldl_append]
    have := HE.out
    unfold Ck.mw at this
    rw [this]
    rfl
   generalize s.wk.getD j 0 = a at x1 hbd HS
   have HI2 : Hid (CI k (k.mw1 s1 a) /\ Cq k s (k.mw1 s1 a)) := by
    obtain ⟨i1, i2⟩ := HI1.out.1.mw1 hbd.1
    exact ⟨i1, HI1.out.2.trans i2⟩
   have hw1 : IntKind.i64.wrap (a + 1) = a + 1 := by rw [IntKind.wrap_i64]; omega
   obtain ⟨hA, _⟩ := cut_arena hJ
   have L := load_any (a + 1) wr hA
   have el : ld k.N k.y s1.g s1.ws (a + 1) = k.ld s1 (a + 1) := rfl
   rw [el] at L
   have HJ1 : Hid ((cutV c k (.slice (some ⟨b0, o0, none⟩) s.wk.length cap) ve).J F s1 wr /\ Tn F w F wr) := ⟨hJ, hT⟩
   clear hc hin hJ hT hA el dz er1 d4
   cases hls : k.ls s1 (k.ld s1 (a + 1))
   ·have HB : Hid (k.mw1 s1 a = k.st s1 (a + 1) (k.nw s1 (k.ld s1 (a + 1)))) := by
     show _ = _
     unfold Ck.mw1
     rw [hls]
     rfl
    generalize k.mw1 s1 a = s3 at HS HI2 HB
    generalize k.ld s1 (a + 1) = x at L hls HB
    go_wp2_with fail
    refine L.mono ?_
    clear L
    rintro e w1 ⟨rfl, hb1⟩
    have P := lost_any ((cutV c k (.slice (some ⟨b0, o0, none⟩) s.wk.length cap) ve).below HJ1.out.1 hb1) x
    rw [hls] at P
    clear x1 d0 d5
    go_wp2_with fail
    refine P.mono ?_
    clear P
    rintro e w2 ⟨rfl, hb2⟩
    have hb := hb1.trans (hb2.mono hb1.size)
    have hJ2 := (cutV c k (.slice (some ⟨b0, o0, none⟩) s.wk.length cap) ve).below HJ1.out.1 hb
    obtain ⟨d0, _, _, _, _, d5, _⟩ := cut_cells hJ2
    have HJ2 : Hid ((cutV c k (.slice (some ⟨b0, o0, none⟩) s.wk.length cap) ve).J F s1 w2.drew /\ Tn F w F w2.drew) := ⟨(cutV c k (.slice (some ⟨b0, o0, none⟩) s.wk.length cap) ve).below hJ2 (Below.refl _ w2).drew, (HJ1.out.2.below hb).below (Below.refl _ w2).drew⟩
    clear hb1 hb2 hJ2 hb HJ1
    go_wp2_with fail
    go_region_held3 (fun w' => w'.cell? ⟨c.pk, 0, none⟩ = some (.pointer (some ⟨c.pw, 0, none⟩)) /\ w'.cell? ⟨c.pw, 0, none⟩ = some (.pointer (some ⟨c.p, 0, none⟩))) (go_keep)
     (first
      | (go_at_call 143; refine (nowM_any HJ2.out.1 x).mono ?_; rintro e w3 ⟨rfl, hb3⟩; have hJ3 := (cutV c k (.slice (some ⟨b0, o0, none⟩) s.wk.length cap) ve).below HJ2.out.1 hb3; obtain ⟨g0, _, _, _, _, g5, _⟩ := cut_cells hJ3; obtain ⟨hA3, hA4⟩ := cut_arena hJ3; have HA : Hid (_ /\ _ /\ _) := ⟨hA3, hA4, HJ2.out.2.below hb3⟩; clear hb3 hJ3 hA3 hA4 HJ2)
      | (go_at_call 111; refine (store_any (a + 1) (k.nw s1 x) w3 HA.out.1).mono ?_; rintro e w5 ⟨rfl, hA3, hs3⟩; obtain ⟨hJ5, hT5⟩ := HA.out.2.1 w5 _ _ hA3 hs3; obtain ⟨r0, _, _, _, _, r5, _⟩ := cut_cells hJ5; have HJ5 : Hid ((cutV c k (.slice (some ⟨b0, o0, none⟩) s.wk.length cap) ve).J F s3 w5 /\ Tn F w F w5) := ⟨(by rw [HB.out]; exact hJ5), HA.out.2.2.trans hT5⟩; clear hA3 hs3 hJ5 hT5 HA))
    clear g0 g5 r0 r5 d0 d5
    go_wp2_with fail
    go_roundw
    case rel => exact ⟨j + 1, s3, by omega, by go_num, HS, HJ5.out.1, HJ5.out.2, HI2⟩
    case measure => simp [intOf]; omega
   ·have HB : Hid (k.mw1 s1 a = k.st s1 (a + 1) 3) := by
     show _ = _
     unfold Ck.mw1
     rw [if_pos hls]
    generalize k.mw1 s1 a = s3 at HS HI2 HB
    generalize k.ld s1 (a + 1) = x at L hls
    go_wp2_with fail
    refine L.mono ?_
    clear L
    rintro e w1 ⟨rfl, hb1⟩
    have P := lost_any ((cutV c k (.slice (some ⟨b0, o0, none⟩) s.wk.length cap) ve).below HJ1.out.1 hb1) x
    rw [hls] at P
    clear x1 d0 d5
    go_wp2_with fail
    refine P.mono ?_
    clear P
    rintro e w2 ⟨rfl, hb2⟩
    have hb := hb1.trans (hb2.mono hb1.size)
    have hJ2 := (cutV c k (.slice (some ⟨b0, o0, none⟩) s.wk.length cap) ve).below HJ1.out.1 hb
    obtain ⟨d0, _, _, _, _, d5, _⟩ := cut_cells hJ2
    obtain ⟨hA3, hA4⟩ := cut_arena ((cutV c k (.slice (some ⟨b0, o0, none⟩) s.wk.length cap) ve).below hJ2 (Below.refl _ w2).drew)
    have HA : Hid (_ /\ _ /\ _) := ⟨hA3, hA4, (HJ1.out.2.below hb).below (Below.refl _ w2).drew⟩
    clear hb1 hb2 hJ2 hb HJ1 hA3 hA4
    go_wp2_with fail
    go_region_held3 (fun w' => w'.cell? ⟨c.pk, 0, none⟩ = some (.pointer (some ⟨c.pw, 0, none⟩)) /\ w'.cell? ⟨c.pw, 0, none⟩ = some (.pointer (some ⟨c.p, 0, none⟩))) (go_keep)
     (first
      | (go_at_call 144; refine (gone_any _).mono ?_; rintro e w4 ⟨rfl, hw2'⟩; have hw2' := hw2'.symm; subst hw2')
      | (go_at_call 111; refine (store_any (a + 1) 3 w2.drew HA.out.1).mono ?_; rintro e w5 ⟨rfl, hA3, hs3⟩; obtain ⟨hJ5, hT5⟩ := HA.out.2.1 w5 _ _ hA3 hs3; obtain ⟨r0, _, _, _, _, r5, _⟩ := cut_cells hJ5; have HJ5 : Hid ((cutV c k (.slice (some ⟨b0, o0, none⟩) s.wk.length cap) ve).J F s3 w5 /\ Tn F w F w5) := ⟨(by rw [HB.out]; exact hJ5), HA.out.2.2.trans hT5⟩; clear hA3 hs3 hJ5 hT5 HA))
    clear r0 r5 d0 d5
    go_wp2_with fail
    go_roundw
    case rel => exact ⟨j + 1, s3, by omega, by go_num, HS, HJ5.out.1, HJ5.out.2, HI2⟩
    case measure => simp [intOf]; omega
  ·obtain rfl : j = s.wk.length := by omega
   rw [List.take_length] at HE
   go_wp2_with fail
   go_end0
   rw [HE.out]
   exact ⟨rfl, ⟨_, _, hJ⟩, hT⟩
theorem cut_nbne {vw ve : Value} (h : (cutV c k vw ve).J F s w) : c.nb ≠ c.pk /\ c.nb ≠ c.pw := by
 obtain ⟨own, h, hF⟩ := h
 refine ⟨fun e => ?_, fun e => ?_⟩
 ·have h1 := h.r1
  rw [e, h.k1] at h1
  omega
 ·have h1 := h.r1
  rw [e, h.w1] at h1
  omega
theorem keepRoots_any (h : (cutO c k).J F s w) (hI : CI k s) :
  Calls Tryz.prog 61 #[.pointer (some ⟨c.pk, 0, none⟩)] w fun e w' => e = .returned (.tuple #[]) /\ (cutO c k).J F (k.kr s 12) w' /\ Tn F w F w' := by
 obtain ⟨vw, ve, h⟩ := h
 obtain ⟨c0, _, _, _, _, _, _, _, c8, _⟩ := cut_cells h
 have HI : Hid (CI k s) := hI
 clear hI
 go_enter Tryz.func61, Tryz.ntmps61
 go_wp2_with fail
 go_loopw [12] (fun iv wr => ∃ (j : Nat), j <= 12 /\ iv = .int .i64 j /\ (cutV c k vw ve).J F (k.kr s j) wr /\ Tn F w F wr) (fun iv _ => 12 - (intOf iv).toNat)
 case atStart => exact ⟨0, Nat.zero_le _, rfl, h, Tn.refl _ _⟩
 case round =>
  obtain ⟨j, hj, rfl, hJ, hT⟩ := hrel
  by_cases hlt : j < 12
  ·obtain ⟨d0, _, _, _, _, _, _, _, d8, _⟩ := cut_cells hJ
   obtain ⟨hrl, lnb, hr⟩ := cut_roots hJ
   obtain ⟨x1, xf⟩ := hr j hlt
   obtain ⟨n1, n2⟩ := cut_nbne hJ
   have HB : Hid (k.kr s (j + 1) = { (k.br (k.kr s j) ((k.kr s j).rs.getD j 0)).2 with rs := (k.br (k.kr s j) ((k.kr s j).rs.getD j 0)).2.rs.set j (k.br (k.kr s j) ((k.kr s j).rs.getD j 0)).1 }) := rfl
   have HI1 : Hid (CI k (k.kr s j)) := (HI.out.kr j).1
   have HJ1 : Hid ((cutV c k vw ve).J F (k.kr s j) wr.drew /\ Tn F w F wr.drew) := ⟨(cutV c k vw ve).below hJ (Below.refl _ wr).drew, hT.below (Below.refl _ wr).drew⟩
   obtain ⟨s3, hs3⟩ : ∃ s3, s3 = k.kr s (j + 1) := ⟨_, rfl⟩
   rw [<- hs3] at HB
   have HS3 : Hid (s3 = k.kr s (j + 1)) := hs3
   clear hs3
   generalize (k.kr s j).rs.getD j 0 = x at x1 HB
   generalize k.kr s j = s1 at *
   have j0 : (0 : Int) <= (j : Int) := by omega
   have j1 : (j : Int) < 12 := by omega
   clear hr hJ hT
   go_wp2_with fail
   go_region_held3 (fun w' => w'.cell? ⟨c.pk, 0, none⟩ = some (.pointer (some ⟨c.pw, 0, none⟩)) /\ w'.cell? ⟨c.pw, 3, none⟩ = some (.slice (some ⟨c.nb, 0, none⟩) 12 12)) (go_keep)
    (first
     | (go_at_call 127; refine (bring_any HJ1.out.1 HI1.out x).mono ?_; rintro e w3 ⟨rfl, hJ3, hT3⟩; obtain ⟨g0, _, _, _, _, _, _, _, g8, _⟩ := cut_cells hJ3; obtain ⟨_, lnb3, hr3⟩ := cut_roots hJ3; obtain ⟨y1, yf⟩ := hr3 j hlt; have HJ3 : Hid ((cutV c k vw ve).J F (k.br s1 x).2 w3 /\ Tn F w F w3) := ⟨hJ3, HJ1.out.2.trans hT3⟩; clear hJ3 hT3 hr3 HJ1))
   obtain ⟨hJ5, hT5⟩ := cut_root HJ3.out.1 j (k.br s1 x).1
   have HJ5 : Hid ((cutV c k vw ve).J F s3 (w3.setCell ⟨c.nb, j, none⟩ (.int .i64 (k.br s1 x).1)) /\ Tn F w F (w3.setCell ⟨c.nb, j, none⟩ (.int .i64 (k.br s1 x).1))) := ⟨by rw [HB.out]; exact hJ5, HJ3.out.2.trans hT5⟩
   clear hJ5 hT5 HJ3 g0 g8 y1 yf d0 d8 x1 xf
   go_wp2_with fail
   go_roundw
   case rel => exact ⟨j + 1, by omega, by go_num, by rw [<- HS3.out]; exact HJ5.out.1, HJ5.out.2⟩
   case measure => simp [intOf]; omega
  ·obtain rfl : j = 12 := by omega
   go_wp2_with fail
   go_end0
   exact ⟨rfl, ⟨_, _, hJ⟩, hT⟩
end
end Go.Proofs.YtnalfnlmaallmaaGreat

namespace Go.Proofs.YtnalfnlmaallmaaGreat
set_option maxRecDepth 100000
set_option maxHeartbeats 4000000
open Go.RowKit W Kp Stl
section
variable {a : Wc} {F : Nat -> Prop} {S : Ww} {w : World}
theorem cutM_no (h : (wsO a).J F S w) (hf : S.full a = true) :
  Calls Tryz.prog 16 #[.pointer (some ⟨a.pw, 0, none⟩)] w fun e w' => e = .returned (.int .i64 3) /\ Below w.heap.size w w' := by
 obtain ⟨F0, ar, cr, h1, _⟩ := h
 obtain ⟨Fw, hw, _⟩ := mkSd_to h1
 obtain ⟨hA, _⟩ := wod_arena hw
 have hA : At w a.p a.q a.N a.O S.s.y S.s.g S.s.ws := hA
 obtain ⟨c0, _, _, _, lpw, _⟩ := wod_cells hw
 have n1 := hA.hg
 have n2 : a.O - S.s.g < S.s.y := by simpa [Ww.full] using hf
 have n3 : (a.O : Int) - S.s.g < S.s.y := by omega
 have n4 := hA.hO
 have n5 := hA.hy
 have n6 := hA.hN'
 have P1 := used_any w hA
 clear h1 hw
 go_enter Tryz.func16, Tryz.ntmps16
 go_wp2_with fail
 refine P1.mono ?_
 clear P1
 rintro e w1 ⟨rfl, hb1⟩
 have c1 := (hb1.cell (p := ⟨a.pw, 0, none⟩) lpw).trans c0
 have P2 := freeOf_any w1 (hA.below hb1 (Nat.le_refl _))
 go_wp2_with fail
 refine P2.mono ?_
 clear P2
 rintro e w2 ⟨rfl, hb2⟩
 have hb := hb1.trans (hb2.mono hb1.size)
 clear hb1 hb2 c0 c1
 go_wp2_with fail
 go_ret
 exact ⟨rfl, hb⟩
theorem cutM_yes (h : (wsO a).J F S w) (hf : S.full a = false) (hq : S.q.length + S.r.length <= 90000) :
    Calls Tryz.prog 16 #[.pointer (some ⟨a.pw, 0, none⟩)] w fun e w' => ∃ F', e = .returned (.int .i64 0) /\ (wsO a).J F' (S.cut a) w' /\ Tn F w F' w' := by
  have hmf : ∀ (fn : Fn) (first cap : Array Value) (w : World), (Instr.makeFunc fn first cap).run Tryz.prog w = .ok (.func fn first cap) w := fun _ _ _ _ => rfl
  obtain ⟨F0, ar, cr, h1, hR, hRn, hF⟩ := h
  obtain ⟨Fw, hw, hto⟩ := mkSd_to h1
  obtain ⟨hA, _⟩ := wod_arena hw
  have hA : At w a.p a.q a.N a.O S.s.y S.s.g S.s.ws := hA
  obtain ⟨c0, _, _, _, lpw, _⟩ := wod_cells hw
  have n1 := hA.hg
  have n2 : S.s.y <= a.O - S.s.g := by
    unfold Ww.full at hf
    have := of_decide_eq_false hf
    omega
  have n3 : ¬ (a.O : Int) - S.s.g < S.s.y := by omega
  have n4 := hA.hO
  have n5 := hA.hy
  have n6 := hA.hN'
  have HI0 : Hid (CI (S.s.k0 a) (S.s.s0 a)) := CI.start hA.hN hA.hN' hA.hO hA.hy hA.hg hA.hl n2
  have P1 := used_any w hA
  have HW : Hid ((wodO a).J Fw S.s w /\ At w a.p a.q a.N a.O S.s.y S.s.g S.s.ws) := ⟨hw, hA⟩
  have HTo : Hid (∀ {τ' : Type} (o' : Ob τ') F1 t1 w', o'.J F1 t1 w' -> Tn Fw w F1 w' -> ∃ F', (mkSd o' a.sd (.slice ar S.r.length cr)).J F' (t1, S.q) w' /\ Tn F0 w F' w') := hto
  have HR : Hid (w.ownsRow 0 106 2 (.slice ar S.r.length cr) S.r.length (ev S.r) /\ (∀ b, some b = (Value.slice ar S.r.length cr).ownBlock -> ¬ F0 b) /\ ∀ b, F b ↔ (F0 b \/ some b = (Value.slice ar S.r.length cr).ownBlock)) := ⟨hR, hRn, hF⟩
  clear h1 hw hA hto hR hRn hF hf
  go_enter Tryz.func16, Tryz.ntmps16
  go_wp2_with fail
  refine P1.mono ?_
  clear P1
  rintro e w1 ⟨rfl, hb1⟩
  have c1 := (hb1.cell (p := ⟨a.pw, 0, none⟩) lpw).trans c0
  have P2 := freeOf_any w1 (HW.out.2.below hb1 (Nat.le_refl _))
  go_wp2_with fail
  refine P2.mono ?_
  clear P2
  rintro e w2 ⟨rfl, hb2⟩
  have hb := hb1.trans (hb2.mono hb1.size)
  have P3 := newCut_any ((wodO a).below HW.out.1 hb)
  have HB : Hid (Below w.heap.size w w2) := hb
  clear hb1 hb2 c0 c1 hb
  go_wp2_with fail
  refine P3.mono ?_
  clear P3
  rintro e w3 ⟨pk, mq, pq, F3, rfl, hJ3, hT3⟩
  have hT3 := (Tn.of (F := Fw) HB.out).trans hT3
  obtain ⟨c, hc⟩ : ∃ c : Cc, c = ⟨pk, mq, a.pw, a.p, a.q, a.pc, pq, a.sd, a.nb, nC a.O, S.s.M⟩ := ⟨_, rfl⟩
  have epk : pk = c.pk := by rw [hc]
  have HC : Hid (c = ⟨pk, mq, a.pw, a.p, a.q, a.pc, pq, a.sd, a.nb, nC a.O, S.s.M⟩ /\ a.sd = c.sd /\ c.c = nC a.O /\ c.M = S.s.M /\ a.pw = c.pw) := ⟨hc, by rw [hc], by rw [hc], by rw [hc], by rw [hc]⟩
  rw [<- hc] at hJ3
  clear hc
  subst epk
  have hJ3 : (cutO c (S.s.k0 a)).J F3 (S.s.s0 a) w3 := hJ3
  have P4 := keepRoots_any hJ3 HI0.out
  clear hJ3
  go_wp2_with fail
  refine P4.mono ?_
  clear P4
  rintro e w4 ⟨rfl, hJ4, hT4⟩
  have hJ4 : (cutO c (S.s.k0 a)).J F3 (S.s.s1 a) w4 := hJ4
  obtain ⟨k1, k2, k3, k4, k5, k6⟩ := HI0.out.kr 12
  have P5 := marked_any hJ4 (s := S.s.s1 a) k1 k3 k4
  have HT4 : Hid (Tn Fw w F3 w4) := hT3.trans hT4
  clear hJ4 hT4 hT3 k1 k2 k3 k4 k5 k6
  go_wp2_with fail
  refine P5.mono ?_
  clear P5
  rintro e w5 ⟨F5, rfl, hJ5, hT5, i5, b5, nx5⟩
  rw [HC.out.2.2.1, HC.out.2.2.2.1] at hJ5 i5 b5
  have hJ5 : (cutO c (S.s.k0 a)).J F5 (S.s.s2 a) w5 := hJ5
  have i5 : CI (S.s.k0 a) (S.s.s2 a) := i5
  have b5 : CB (S.s.k0 a) (S.s.s2 a) := b5
  obtain ⟨F6, hM6, hT6⟩ := HTo.out (cutI c (S.s.k0 a)) F5 (S.s.s2 a) w5 ⟨hJ5, i5, b5⟩ (HT4.out.trans hT5)
  rw [HC.out.2.1] at hM6
  have P6 := spread_any (c := c) rfl hM6 (by show S.q.length <= 90000; omega)
  have HT6 : Hid (Tn F0 w F6 w5) := hT6
  clear hJ5 hT5 i5 b5 nx5 hM6 hT6
  go_wp2_with fail
  refine P6.mono ?_
  clear P6
  rintro e w7 ⟨F7, rfl, hM7, hT7⟩
  have hM7 : (mkSd (cutI c (S.s.k0 a)) c.sd (.slice ar S.r.length cr)).J F7 (S.t3 a) w7 := hM7
  have hT7 : Tn F0 w F7 w7 := HT6.out.trans hT7
  obtain ⟨Fi, ⟨⟨vw7, ve7, hJ7⟩, _⟩, _⟩ := mkSd_to hM7
  obtain ⟨d0, _, _, _, _, _, _, d7, _⟩ := cut_cells hJ7
  have l0 := World.block_lt_of_cell? w7 _ d0
  have l7 := World.block_lt_of_cell? w7 _ d7
  have HM7 : Hid ((mkSd (cutI c (S.s.k0 a)) c.sd (.slice ar S.r.length cr)).J F7 (S.t3 a) w7.drew /\ Tn F0 w F7 w7.drew) := ⟨(mkSd (cutI c (S.s.k0 a)) c.sd (.slice ar S.r.length cr)).below hM7 (Below.refl _ w7).drew, hT7.below (Below.refl _ w7).drew⟩
  have hlq : (S.t3 a).2.length + S.r.length <= 90000 := by
    have : (S.t3 a).2.length = S.q.length := spr_len _ _ _
    omega
  clear hM7 hT7 hJ7
  go_wp2_with fail
  go_region_held3 (fun w' => w'.cell? ⟨c.pk, 0, none⟩ = some (.pointer (some ⟨c.pw, 0, none⟩)) /\ w'.cell? ⟨c.pw, 2, none⟩ = some (.pointer (some ⟨c.sd, 0, none⟩))) (go_keep)
    (first
      | (go_at_call 65; refine (looksM_any (fkM c) w7.drew c.pk).mono ?_; rintro e w8 ⟨rfl, hx8, hb8⟩; have y0 := (hb8.cell (p := ⟨c.pk, 0, none⟩) l0).trans d0; have y7 := (hb8.cell (p := ⟨c.pw, 2, none⟩) l7).trans d7; have HX : Hid (w8.heap[w7.heap.size]? = some (boxC c) /\ Below w7.drew.heap.size w7.drew w8) := ⟨hx8, hb8⟩; clear hx8 hb8)
      | (go_at_call 64; refine (settleM_any (t := S.t3 a) (r := S.r) rfl ((mkSd (cutI c (S.s.k0 a)) c.sd (.slice ar S.r.length cr)).below HM7.out.1 HX.out.2) (by
            have hf := ((Fr.of (X := F0) HX.out.2))
            exact row_keep HR.out.1 (fun b e => (HX.out.2.block b (Nat.lt_of_lt_of_le (row_lt HR.out.1 b e).2 HM7.out.2.fr.size)).trans (HM7.out.2.fr.block b (row_lt HR.out.1 b e).2 (HR.out.2.1 b e)))) hlq w7.heap.size HX.out.1 (fun d => by have := (mkSd (cutI c (S.s.k0 a)) c.sd (.slice ar S.r.length cr)).lt HM7.out.1 _ d; have e8 : w7.drew.heap.size = w7.heap.size := rfl; omega)).mono ?_; rintro e w9 ⟨a1, c1, F9, rfl, hM9, hR9, hn9, hf9, hs9⟩; obtain ⟨Fj, ⟨⟨vw9, ve9, hJ9⟩, _⟩, _⟩ := mkSd_to hM9; obtain ⟨r0, _, _, _, _, _, _, r7, _⟩ := cut_cells hJ9; have HM9 : Hid ((mkSd (cutI c (S.s.k0 a)) c.sd (.slice a1 ((S.s.k0 a).sR (S.t3 a) S.r).length c1)).J F9 (S.s4 a, (S.s.k0 a).sQ (S.t3 a) S.r) w9 /\ w9.ownsRow 0 106 2 (.slice a1 ((S.s.k0 a).sR (S.t3 a) S.r).length c1) ((S.s.k0 a).sR (S.t3 a) S.r).length (ev ((S.s.k0 a).sR (S.t3 a) S.r)) /\ (∀ b, some b = (Value.slice a1 ((S.s.k0 a).sR (S.t3 a) S.r).length c1).ownBlock -> ¬ F9 b /\ w8.heap.size <= b) /\ w.heap.size <= w8.heap.size /\ Tn F0 w F9 w9) := ⟨hM9, hR9, hn9, Nat.le_trans HM7.out.2.fr.size HX.out.2.size, ⟨(HM7.out.2.below HX.out.2).fr.trans hf9 (fun b d => d.elim (HM7.out.2.sub b) (fun d => Or.inr (by have := HM7.out.2.fr.size; have e8 : w7.drew.heap.size = w7.heap.size := rfl; omega))), fun b d => (hs9 b d).elim (HM7.out.2.sub b) (fun d => Or.inr (by have h1 := HM7.out.2.fr.size; have h2 := HX.out.2.size; omega))⟩⟩; clear hM9 hR9 hn9 hf9 hs9 hJ9))
  clear d0 d7 y0 y7 r0 r7 HM7 HX hlq
  obtain ⟨Fj, ⟨hJ9, i9, b9⟩, hto9⟩ := mkSd_to HM9.out.1
  have hJ9 : (cutO c (S.s.k0 a)).J Fj (S.s4 a) w9 := hJ9
  have i9 : CI (S.s.k0 a) (S.s4 a) := i9
  have b9 : CB (S.s.k0 a) (S.s4 a) := b9
  obtain ⟨i10, q10⟩ := i9.mw (l := (S.s4 a).wk) (fun x hx => (i9.wk0 x hx).1)
  have i10 : CI (S.s.k0 a) (S.s5 a) := i10
  have P7 := mendW_any hJ9 i9 (by have := b9.wk; omega)
  have HI10 : Hid (CI (S.s.k0 a) (S.s5 a) /\ (S.s5 a).ep.length <= 10000) := ⟨i10, by have h1 : (S.s5 a).ep = (S.s4 a).ep := q10.ep; rw [h1]; have := b9.ep; omega⟩
  have HTo9 : Hid (∀ {τ' : Type} (o' : Ob τ') F1 t1 w', o'.J F1 t1 w' -> Tn Fj w9 F1 w' -> ∃ F', (mkSd o' c.sd (.slice a1 ((S.s.k0 a).sR (S.t3 a) S.r).length c1)).J F' (t1, (S.s.k0 a).sQ (S.t3 a) S.r) w' /\ Tn F9 w9 F' w') := hto9
  clear hJ9 i9 b9 i10 q10 hto9
  go_wp2_with fail
  refine P7.mono ?_
  clear P7
  rintro e w10 ⟨rfl, hJ10, hT10⟩
  have hJ10 : (cutO c (S.s.k0 a)).J Fj (S.s5 a) w10 := hJ10
  have P8 := breakE_any hJ10 HI10.out.1 HI10.out.2
  clear hJ10
  go_wp2_with fail
  refine P8.mono ?_
  clear P8
  rintro e w11 ⟨rfl, hJ11, hT11⟩
  have hJ11 : (cutO c (S.s.k0 a)).J Fj (S.s6 a) w11 := hJ11
  obtain ⟨vw, ve, hV11⟩ := hJ11
  obtain ⟨d0, _, _, _, _, d5, _⟩ := cut_cells hV11
  have hJ11 : (cutO c (S.s.k0 a)).J Fj (S.s6 a) w11 := ⟨vw, ve, hV11⟩
  rw [HC.out.1] at hJ11
  obtain ⟨Fw2, hw11, hsub, hnpk⟩ := cut_wood (pk := c.pk) (a := a) hJ11
  obtain ⟨hA11, hup⟩ := wod_arena hw11
  have hT11 : Tn Fj w9 Fw2 w11 := ⟨(hT10.trans hT11).fr, fun b hb => Or.inl (hsub b hb)⟩
  have P9 := clear_any w11 hA11
  have HU : Hid (Tn Fj w9 Fw2 w11 /\ ¬ Fw2 c.pk /\ ∀ w', At w' a.p a.q a.N a.O 0 (S.s6 a).g (S.s6 a).ws -> Sv a.p a.q w11 w' -> (wodO a).J Fw2 ⟨0, (S.s6 a).g, (S.s6 a).ws, S.s.M, (S.s6 a).rs⟩ w' /\ Tn Fw2 w11 Fw2 w') := ⟨hT11, hnpk, fun w' h1 h2 => hup w' _ _ _ h1 h2⟩
  have lpk := World.block_lt_of_cell? w11 _ d0
  have epw : c.pw = a.pw := HC.out.2.2.2.2.symm
  have ep : c.p = a.p := by rw [HC.out.1]
  rw [epw] at d0 d5
  rw [ep] at d5
  clear hJ11 hV11 hw11 hA11 hup hsub hnpk hT11 hT10 epw ep
  go_wp2_with fail
  refine P9.mono ?_
  clear P9
  rintro e w12 ⟨rfl, hA12, hs12⟩
  obtain ⟨hw12, hT12⟩ := HU.out.2.2 w12 hA12 hs12
  obtain ⟨pq2, hcd, hcu⟩ := wod_cards hw12
  obtain ⟨_, f1, _⟩ := wod_cells hw12
  have f0 : w12.cell? ⟨c.pk, 0, none⟩ = some (.pointer (some ⟨a.pw, 0, none⟩)) := (World.cell?_of_block (a := ⟨c.pk, 0, none⟩) (hT12.fr.block c.pk lpk HU.out.2.1)).trans d0
  have P10 := clearC_any w12 hcd.hp
  have HU2 : Hid (Tn Fj w9 Fw2 w12 /\ ∀ w', Cd w' a.pc w12.heap.size a.N (nC a.O) [] -> Sv a.pc pq2 w12 w' -> ∃ F', (wodO a).J F' ⟨0, (S.s6 a).g, (S.s6 a).ws, [], (S.s6 a).rs⟩ w' /\ Tn Fw2 w12 F' w') := ⟨HU.out.1.trans hT12, fun w' h1 h2 => hcu w' _ _ h1 h2 (Or.inr (Nat.le_refl _))⟩
  clear hA12 hs12 hw12 hT12 hcd hcu d0 d5
  go_wp2_with fail
  refine P10.mono ?_
  clear P10
  rintro e w13 ⟨rfl, hcd13, hs13⟩
  have HF : Hid (∃ F', (wsO a).J F' (S.cut a) w13 /\ Tn F w F' w13) := by
    obtain ⟨F13, hw13, hT13⟩ := HU2.out.2 w13 hcd13 ⟨hs13.os, hs13.tape, hs13.output, hs13.size, fun b hb h1 _ => hs13.block b hb h1 h1⟩
    obtain ⟨F14, hM14, hT14⟩ := HTo9.out (wodO a) F13 _ w13 hw13 (HU2.out.1.trans hT13)
    obtain ⟨_, hR9, hn9, h89, hT9⟩ := HM9.out
    have eS : S.cut a = ⟨⟨0, (S.s6 a).g, (S.s6 a).ws, [], (S.s6 a).rs⟩, (S.s.k0 a).sR (S.t3 a) S.r, (S.s.k0 a).sQ (S.t3 a) S.r⟩ := by
      unfold Ww.cut
      rw [if_neg]
      unfold Ww.full
      simp
      omega
    rw [eS]
    rw [<- HC.out.2.1] at hM14
    have hT0 := hT9.trans hT14
    refine ⟨fun b => F14 b \/ some b = (Value.slice a1 ((S.s.k0 a).sR (S.t3 a) S.r).length c1).ownBlock, ⟨F14, a1, c1, hM14, row_fr hR9 hT14.fr (fun b e => (hn9 b e).1), fun b e d => (hT14.sub b d).elim (hn9 b e).1 (fun d => by have := (row_lt hR9 b e).2; omega), fun b => Iff.rfl⟩, ⟨hT0.fr.mono (fun b d => (HR.out.2.2 b).2 (Or.inl d)), fun b d => ?_⟩⟩
    rcases d with d | d
    · exact (hT0.sub b d).imp (fun d => (HR.out.2.2 b).2 (Or.inl d)) id
    · exact Or.inr (Nat.le_trans h89 (hn9 b d).2)
  clear hcd13 hs13 HU2 HTo9 HM9 f0 f1
  go_wp2_with fail
  go_ret
  obtain ⟨F', j1, j2⟩ := HF.out
  exact ⟨F', rfl, j1, j2⟩
theorem cutM_any (h : (wsO a).J F S w) (hq : S.q.length + S.r.length <= 90000) :
  Calls Tryz.prog 16 #[.pointer (some ⟨a.pw, 0, none⟩)] w fun e w' => ∃ F', e = .returned (.int .i64 (S.code a)) /\ (wsO a).J F' (S.cut a) w' /\ Tn F w F' w' := by
 cases hf : S.full a
 ·have e1 : S.code a = 0 := by unfold Ww.code; rw [hf]; rfl
  rw [e1]
  exact cutM_yes h hf hq
 ·have e1 : S.code a = 3 := by unfold Ww.code; rw [if_pos hf]
  have e2 : S.cut a = S := by unfold Ww.cut; rw [if_pos hf]
  rw [e1, e2]
  refine (cutM_no h hf).mono ?_
  rintro e w' ⟨rfl, hb⟩
  exact ⟨F, rfl, (wsO a).below h hb, Tn.of hb⟩
end
end Go.Proofs.YtnalfnlmaallmaaGreat

namespace Go.Proofs.YtnalfnlmaallmaaGreat
open Go.RowKit W Kp Stl
section
variable {c : Jc} {k0 k : Jk} {vt ve vr : Value} {F : Nat -> Prop} {s : Js} {w : World} {bp bn : Nat}
end
end Go.Proofs.YtnalfnlmaallmaaGreat

namespace Go.Proofs.YtnalfnlmaallmaaGreat
open Go.RowKit W Kp Stl
section
variable {c : Jc} {k : Jk} {vt ve : Value} {F : Nat -> Prop} {s : Js} {w : World}
end
end Go.Proofs.YtnalfnlmaallmaaGreat

namespace Go.Proofs.YtnalfnlmaallmaaGreat
set_option maxRecDepth 100000
set_option maxHeartbeats 400000
open Go.RowKit W Kp Stl
end Go.Proofs.YtnalfnlmaallmaaGreat


namespace Go.Proofs.YtnalfnlmaallmaaGreat
open Go.RowKit W Kp Stl
end Go.Proofs.YtnalfnlmaallmaaGreat

namespace Go.Proofs.YtnalfnlmaallmaaGreat
open Go.RowKit W Kp Stl
section
variable {a : Wc} {s : Wst}
end
end Go.Proofs.YtnalfnlmaallmaaGreat

namespace Go.Proofs.YtnalfnlmaallmaaGreat
open Go.RowKit W Kp Stl
section
variable {k : Jk} {C X : Int -> Prop} {s : Js}
end
end Go.Proofs.YtnalfnlmaallmaaGreat

namespace Go.Proofs.YtnalfnlmaallmaaGreat
open Go.RowKit W Kp Stl
section
variable {k : Jk} {X : Int -> Prop} {s t : Js}
end
end Go.Proofs.YtnalfnlmaallmaaGreat

namespace Go.Proofs.YtnalfnlmaallmaaGreat
open Go.RowKit W Kp Stl
section
variable {k : Jk} {s : Js}
end
end Go.Proofs.YtnalfnlmaallmaaGreat

namespace Go.Proofs.YtnalfnlmaallmaaGreat
set_option maxRecDepth 100000
set_option maxHeartbeats 2000000
open Go.RowKit W Kp Stl
end Go.Proofs.YtnalfnlmaallmaaGreat


namespace Go.Proofs.YtnalfnlmaallmaaGreat
open Go.RowKit W Kp Stl
end Go.Proofs.YtnalfnlmaallmaaGreat

namespace Go.Proofs.YtnalfnlmaallmaaGreat
set_option maxRecDepth 100000
set_option maxHeartbeats 1000000
open Go.RowKit W Kp Stl
structure Sds (w : World) (p : Nat) (a0 : Option Addr) (k0 : Nat) (a1 : Option Addr) (k1 : Nat) (r q : List En) : Prop where
  blk : w.heap[p]? = some (.cells #[.slice a0 r.length k0, .slice a1 q.length k1] 153 (0, 0))
  r0 : w.ownsRow 0 106 2 (.slice a0 r.length k0) r.length (ev r)
  q0 : w.ownsRow 0 106 2 (.slice a1 q.length k1) q.length (ev q)
theorem row_li {w : World} {base : Nat} {e : TypeId} {ad : Option Addr} {cap : Nat} {l : List En} (h : w.ownsRow base e 2 (.slice ad l.length cap) l.length (ev l)) : Li w ad l cap := by
 refine ⟨row_pairs h, ?_, ?_⟩
 ·rcases h.2 with ⟨hv, h0⟩ | ⟨g, cap', cur, hv, _, _, hc, _⟩
  ·omega
  ·simp at hv; omega
 ·intro e0
  rcases h.2 with ⟨hv, h0⟩ | ⟨g, cap', cur, hv, _⟩
  ·simp at hv; exact ⟨h0, hv.2.2⟩
  ·rw [e0] at hv; simp at hv
theorem Sds.keep {w w' : World} {p : Nat} {a0 a1 : Option Addr} {k0 k1 : Nat} {r q : List En} (h : Sds w p a0 k0 a1 k1 r q) (h1 : w'.heap[p]? = w.heap[p]?) (h2 : ∀ k, some k = (Value.slice a0 r.length k0).ownBlock -> w'.heap[k]? = w.heap[k]?) (h3 : ∀ k, some k = (Value.slice a1 q.length k1).ownBlock -> w'.heap[k]? = w.heap[k]?) : Sds w' p a0 k0 a1 k1 r q :=
 ⟨h1.trans h.blk, row_keep h.r0 h2, row_keep h.q0 h3⟩
theorem Sds.below {w w' : World} {p : Nat} {a0 a1 : Option Addr} {k0 k1 : Nat} {r q : List En} (h : Sds w p a0 k0 a1 k1 r q) (hb : Below w.heap.size w w') : Sds w' p a0 k0 a1 k1 r q :=
 h.keep (hb.block p (lt_of_some h.blk)) (fun k e => hb.block k (row_lt h.r0 k e).2) (fun k e => hb.block k (row_lt h.q0 k e).2)
theorem Sds.np {w : World} {p : Nat} {a0 a1 : Option Addr} {k0 k1 : Nat} {r q : List En} (h : Sds w p a0 k0 a1 k1 r q) {b n : Nat} {v : Value} {l : List Value} (hr : w.ownsRow b 106 2 v n l) : ∀ k, some k = v.ownBlock -> k ≠ p := by
 intro k e e'
 obtain ⟨cur, hc⟩ := row_type hr k e
 rw [e', h.blk] at hc
 simp at hc
def fulB (n : Nat) : Bool := decide (24 <= n)
theorem fulB_yes {n : Nat} (h : 24 <= n) : fulB n = true := by simp [fulB, h]
theorem fulB_no {n : Nat} (h : ¬ 24 <= n) : fulB n = false := by simp [fulB, h]
theorem ful_eq {n0 n1 : Nat} (h0 : n0 <= 100000) (h1 : n1 <= 100000) : Hid (decide ((24 : Int) <= IntKind.i64.wrap ((n0 : Int) + (n1 : Int))) = fulB (n0 + n1)) := by
 show _ = _
 rw [show IntKind.i64.wrap ((n0 : Int) + (n1 : Int)) = (n0 : Int) + n1 by rw [IntKind.wrap_i64]; omega]
 unfold fulB
 by_cases h : 24 <= n0 + n1
 ·rw [decide_eq_true h, decide_eq_true (by omega)]
 ·rw [decide_eq_false h, decide_eq_false (by omega)]
theorem full_any' (w : World) (p : Nat) (a0 a1 : Option Addr) (n0 k0 n1 k1 : Nat) (h : w.heap[p]? = some (.cells #[.slice a0 n0 k0, .slice a1 n1 k1] 153 (0, 0))) (h0 : n0 <= 100000) (h1 : n1 <= 100000) :
  Calls Tryz.prog 121 #[.pointer (some ⟨p, 0, none⟩)] w fun e w' => e = .returned (.bool (fulB (n0 + n1))) /\ Below w.heap.size w w' := by
 have c0 : w.cell? ⟨p, 0, none⟩ = some (.slice a0 n0 k0) := by simp [World.cell?, h]
 have c1 : w.cell? ⟨p, 1, none⟩ = some (.slice a1 n1 k1) := by simp [World.cell?, h]
 clear h
 have HE := ful_eq h0 h1
 go_enter Tryz.func121, Tryz.ntmps121
 go_wp2_with fail
 go_region_held3 (fun w' => w'.cell? ⟨p, 0, none⟩ = some (.slice a0 n0 k0) /\ w'.cell? ⟨p, 1, none⟩ = some (.slice a1 n1 k1)) (go_keep) (fail)
 go_wp2_with fail
 go_ret
 exact ⟨by rw [<- HE.out]; rfl, (Below.refl _ _).drew⟩
theorem Sds.cells {w : World} {p : Nat} {a0 a1 : Option Addr} {k0 k1 : Nat} {r q : List En} (h : Sds w p a0 k0 a1 k1 r q) : w.cell? ⟨p, 0, none⟩ = some (.slice a0 r.length k0) /\ w.cell? ⟨p, 1, none⟩ = some (.slice a1 q.length k1) /\ w.frozen? ⟨p, 0, none⟩ = false /\ w.frozen? ⟨p, 1, none⟩ = false /\ p < w.heap.size :=
 ⟨by simp [World.cell?, h.blk], by simp [World.cell?, h.blk], by simp [World.frozen?, h.blk], by simp [World.frozen?, h.blk], lt_of_some h.blk⟩
theorem set_fst {w : World} {p : Nat} {x y v : Value} {T : TypeId} (h : w.heap[p]? = some (.cells #[x, y] T (0, 0))) : (w.setCell ⟨p, 0, none⟩ v).heap[p]? = some (.cells #[v, y] T (0, 0)) := by
 simp only [World.setCell, Array.getElem?_modify, if_true, h, Option.map_some]
 simp
theorem reg_any (w : World) (p : Nat) (a0 a1 : Option Addr) (k0 k1 : Nat) (r q : List En) (g z : Int) (h : Sds w p a0 k0 a1 k1 r q) (h0 : r.length <= 90000) (h1 : q.length <= 90000) :
  Calls Tryz.prog 58 #[.pointer (some ⟨p, 0, none⟩), .agg #[.int .i64 g, .int .i64 z]] w fun e w' => e = .returned (.bool (!fulB (r.length + q.length))) /\
   ((24 <= r.length + q.length /\ Below w.heap.size w w') \/ (¬ 24 <= r.length + q.length /\ ∃ b1 c1, Sds w' p (some ⟨b1, 0, none⟩) c1 a1 k1 (r ++ [(g, z)]) q /\ w.heap.size <= b1 /\ Fr (fun k => k = p) w w')) := by
 obtain ⟨c0, c1, f0, f1, lp⟩ := h.cells
 have H : Hid (Sds w p a0 k0 a1 k1 r q) := h
 have hb1 := (Below.refl w.heap.size w).alloc (Nat.le_refl _) (.cells #[.int .i64 g, .int .i64 z] 106)
 have HLi : Hid (Li w a0 r k0) := row_li h.r0
 by_cases hf : 24 <= r.length + q.length
 ·rw [fulB_yes hf]
  clear h
  go_enter Tryz.func58, Tryz.ntmps58
  go_wp2_with fail
  refine (full_any' _ p a0 a1 r.length k0 q.length k1 ((hb1.block p lp).trans H.out.blk) (by omega) (by omega)).mono ?_
  rintro e w1 ⟨rfl, hb⟩
  rw [fulB_yes hf]
  have hb2 := hb1.trans (hb.mono (by simp))
  go_wp2_with fail
  go_ret
  exact ⟨rfl, Or.inl ⟨hf, hb2⟩⟩
 ·rw [fulB_no hf]
  clear h
  go_enter Tryz.func58, Tryz.ntmps58
  go_wp2_with fail
  refine (full_any' _ p a0 a1 r.length k0 q.length k1 ((hb1.block p lp).trans H.out.blk) (by omega) (by omega)).mono ?_
  rintro e w1 ⟨rfl, hb⟩
  rw [fulB_no hf]
  have hb2 := hb1.trans (hb.mono (by simp))
  have hl0 : w.heap.size < w1.heap.size := by have := hb.size; simp at this; omega
  have y0 : w1.cell? ⟨w.heap.size, 0, none⟩ = some (.int .i64 g) := (hb.cell (by simp)).trans (by simp)
  have y1 : w1.cell? ⟨w.heap.size, 1, none⟩ = some (.int .i64 z) := (hb.cell (by simp)).trans (by simp)
  have y2 := (hb2.cell (p := ⟨p, 0, none⟩) lp).trans c0
  have y3 := (hb2.frozen (p := ⟨p, 0, none⟩) lp).trans f0
  have lp1 : p < w1.heap.size := by omega
  have hLi1 := HLi.out.below hb2
  clear hb hb1
  go_wp2_with fail
  go_region_with (go_at_call 122; refine (with_any _ a0 r k0 g z (hLi1.below ((Below.refl _ _).drew)) (by omega)).mono ?_; rintro e w5 ⟨b1, cap1, rfl, hown, hb5⟩; have e4 := (hb5.cell (p := ⟨p, 0, none⟩) lp1).trans y2; have e5 := (hb5.frozen (p := ⟨p, 0, none⟩) lp1).trans y3)
  all_goals
   go_wp2_with fail
   go_ret
   refine ⟨rfl, Or.inr ⟨hf, b1, cap1, ?_⟩⟩
   have hbw : Below w.heap.size w w5 := hb2.drew.trans (hb5.mono (by simp; omega))
   have lb : w1.heap.size <= b1 := (row_lt hown b1 rfl).1
   have hS := H.out.below hbw
   have hfr : Fr (fun k => k = p) w (w5.setCell ⟨p, 0, none⟩ (.slice (some ⟨b1, 0, none⟩) (r.length + 1) cap1)) := (Fr.of hbw).set p 0 _ rfl
   have kk : ∀ k, k ≠ p -> (w5.setCell ⟨p, 0, none⟩ (.slice (some ⟨b1, 0, none⟩) (r.length + 1) cap1)).heap[k]? = w5.heap[k]? := fun k hk => Below.heap_setCell _ _ _ _ hk
   refine ⟨⟨by simpa using set_fst hS.blk, ?_, row_keep hS.q0 (fun k e => kk k (hS.np hS.q0 k e))⟩, by omega, hfr⟩
   have := row_base (base' := 0) (row_keep (w' := w5.setCell ⟨p, 0, none⟩ (.slice (some ⟨b1, 0, none⟩) (r.length + 1) cap1)) hown (fun k e => kk k (hS.np hown k e))) (fun _ _ => Nat.zero_le _)
   simpa using this
end Go.Proofs.YtnalfnlmaallmaaGreat

namespace Go.Proofs.YtnalfnlmaallmaaGreat
open Go.RowKit W Kp Stl
end Go.Proofs.YtnalfnlmaallmaaGreat

namespace Go.Proofs.YtnalfnlmaallmaaGreat
open Go.RowKit W Kp Stl
section
variable {a : Wc} {S : Ww} {w w' w'' : World} {pk mq ps : Nat} {b0 b1 : Option Addr} {d0 d1 : Nat} {yv ov : Value} {T : List Int}
end
end Go.Proofs.YtnalfnlmaallmaaGreat

namespace Go.Proofs.YtnalfnlmaallmaaGreat
open Go.RowKit W Kp Stl
end Go.Proofs.YtnalfnlmaallmaaGreat

namespace Go.Proofs.YtnalfnlmaallmaaGreat
open Go.RowKit W
section
variable {N O y g : Nat} {ws : List Int} {Y G : List Int}
theorem fcC_zero {x i : Int} (h : fcC N y g ws x i = 0) : tB N y g ws x = true /\ pk (ld N y g ws (aV x)) ≠ 5 /\ 0 <= i /\ i < stN N y g (aV x) (pf (ld N y g ws (aV x))) := by
 unfold fcC at h
 by_cases ht : tB N y g ws x = true
 ·rw [if_pos ht] at h
  by_cases h5 : pk (ld N y g ws (aV x)) = 5
  ·rw [if_pos h5] at h
   omega
  ·rw [if_neg h5] at h
   by_cases hi : i < 0 \/ stN N y g (aV x) (pf (ld N y g ws (aV x))) <= i
   ·rw [if_pos hi] at h
    omega
   ·exact ⟨ht, h5, by omega, by omega⟩
 ·rw [if_neg ht] at h
  omega
theorem tB_mem {x : Int} (h : Full2 N y g ws Y G) (hN : N <= 256) (hy : y <= N) (hO : O <= 1024) (hg : g <= O) (ht : tB N y g ws x = true) : aB x = true /\ (aV x ∈ Y \/ aV x ∈ G) := by
 obtain ⟨e1, e2⟩ := h.lists (O := O) hN hy hO hg
 unfold tB at ht
 rw [e1, e2] at ht
 simpa using ht
theorem stM_len (x i z c : Int) (M : List Int) : (stM N y g ws x i z c M).length <= M.length + 1 := by
 unfold stM
 split
 ·unfold mkM
  split
  ·exact len_addM _ _
  ·omega
 ·omega
end
end Go.Proofs.YtnalfnlmaallmaaGreat

namespace Go.Proofs.YtnalfnlmaallmaaGreat
open Go.RowKit W Apart2
structure WInv (N y g : Nat) (ws Y G rs : List Int) : Prop where
  full : Full2 N y g ws Y G
  rt : ∀ x ∈ rs, aB x = true -> aV x ∈ Y \/ aV x ∈ G
  fd : ∀ v, (v ∈ Y \/ v ∈ G) -> ∀ i, 0 <= i -> i < pf (ld N y g ws v) -> aB (ld N y g ws (v + 1 + i)) = true -> aV (ld N y g ws (v + 1 + i)) ∈ Y \/ aV (ld N y g ws (v + 1 + i)) ∈ G
section
variable {N O y g : Nat} {ws Y G rs : List Int}
theorem ew_at (n : Nat) (h : n < 1000000) : aB (ew 3 n) = true /\ aV (ew 3 n) = n := by
 have h0 := vc3_in (n : Int) (by omega) (by omega)
 have h1 := at_enc 3 n h0
 exact ⟨h1.1, h1.2 rfl⟩
theorem WInv.root (h : WInv N y g ws Y G rs) (k : Nat) (x : Int) (hx : aB x = true -> aV x ∈ Y \/ aV x ∈ G) : WInv N y g ws Y G (rs.set k x) :=
 ⟨h.full, fun z hz => by
  rcases List.mem_or_eq_of_mem_set hz with hz | hz
  ·exact h.rt z hz
  ·rw [hz]; exact hx, h.fd⟩
theorem WInv.at (h : WInv N y g ws Y G rs) (k : Nat) (hk : k < rs.length) (ha : aB (rs.getD k 0) = true) : aV (rs.getD k 0) ∈ Y \/ aV (rs.getD k 0) ∈ G :=
 h.rt _ (by rw [List.getD_eq_getElem?_getD, List.getElem?_eq_getElem hk]; exact List.getElem_mem hk) ha
theorem field_y (h : Full2 N y g ws Y G) {v i : Int} (hv : v ∈ Y) (i0 : 0 <= i) (i1 : i < pf (ld N y g ws v)) : 0 <= v + 1 + i /\ v + 1 + i < y := by
 have h1 := h.ty.mem v hv
 have h2 := h.iy v hv
 omega
theorem field_o (h : Full2 N y g ws Y G) {v i : Int} (hv : v ∈ G) (i0 : 0 <= i) (i1 : i < pf (ld N y g ws v)) : (N : Int) <= v + 1 + i /\ v + 1 + i < (N : Int) + g := by
 have h1 := h.to.mem v hv
 have h2 := h.io v hv
 omega
theorem field_i (h : Full2 N y g ws Y G) {v i : Int} (hv : v ∈ Y \/ v ∈ G) (i0 : 0 <= i) (i1 : i < pf (ld N y g ws v)) : iB N y g (v + 1 + i) = true := by
 rcases hv with hv | hv
 ·have := field_y h hv i0 i1
  exact iB_y this.1 this.2
 ·have := field_o h hv i0 i1
  exact iB_o this.1 this.2
theorem WInv.make (h : WInv N y g ws Y G rs) (hl : ws.length = N + O) {k f : Int} (hm : mkB N y k f = true) : WInv N (mkY N y k f) g (mkW N y k f ws) (Y ++ [(y : Int)]) G rs := by
 have hF := h.full.make hl hm
 obtain ⟨h1, h2⟩ := mkB_yes hm
 have hf := hc_bd k f h1
 have eY : mkY N y k f = y + 1 + f.toNat := by unfold mkY; rw [if_pos hm]
 have eW : mkW N y k f ws = fil ws y (hw k f) f.toNat := by unfold mkW; rw [if_pos hm]
 have hlt : y + f.toNat < ws.length := by omega
 rw [eY, eW] at hF ⊢
 have hh : ld N (y + 1 + f.toNat) g (fil ws y (hw k f) f.toNat) y = hw k f := ld_head _ _ hlt
 have hp := parts_head k f h1
 have mem : ∀ {z : Int}, (z ∈ Y \/ z ∈ G) -> (z ∈ Y ++ [(y : Int)] \/ z ∈ G) := fun hz => hz.imp (fun c => List.mem_append_left _ c) id
 refine ⟨hF, fun x hx ha => mem (h.rt x hx ha), fun v hv i i0 i1 ha => ?_⟩
 rcases hv with hv | hv
 ·rcases List.mem_append.1 hv with hv | hv
  ·have hi := h.full.iy v hv
   have e0 : ld N (y + 1 + f.toNat) g (fil ws y (hw k f) f.toNat) v = ld N y g ws v := by
    rw [ld_in (iB_y hi.1 (by omega)), ld_in (iB_y hi.1 hi.2), fil_get _ _ _ _ _ hlt, if_neg (by omega), if_neg (by omega)]
   rw [e0] at i1
   have hb := field_y h.full hv i0 i1
   have e1 : ld N (y + 1 + f.toNat) g (fil ws y (hw k f) f.toNat) (v + 1 + i) = ld N y g ws (v + 1 + i) := by
    rw [ld_in (iB_y hb.1 (by omega)), ld_in (iB_y hb.1 hb.2), fil_get _ _ _ _ _ hlt, if_neg (by omega), if_neg (by omega)]
   rw [e1] at ha ⊢
   exact mem (h.fd v (Or.inl hv) i i0 i1 ha)
  ·simp at hv
   subst hv
   rw [hh, hp.2.1] at i1
   have e1 : ld N (y + 1 + f.toNat) g (fil ws y (hw k f) f.toNat) ((y : Int) + 1 + i) = 2 := by
    rw [ld_in (iB_y (by omega) (by omega)), fil_get _ _ _ _ _ hlt, if_neg (by omega), if_pos (by omega)]
   rw [e1] at ha
   exact absurd ha (by decide)
 ·have hi := h.full.io v hv
  have e0 : ld N (y + 1 + f.toNat) g (fil ws y (hw k f) f.toNat) v = ld N y g ws v := by
   rw [ld_in (iB_o hi.1 hi.2), ld_in (iB_o hi.1 hi.2), fil_get _ _ _ _ _ hlt, if_neg (by omega), if_neg (by omega)]
  rw [e0] at i1
  have hb := field_o h.full hv i0 i1
  have e1 : ld N (y + 1 + f.toNat) g (fil ws y (hw k f) f.toNat) (v + 1 + i) = ld N y g ws (v + 1 + i) := by
   rw [ld_in (iB_o hb.1 hb.2), ld_in (iB_o hb.1 hb.2), fil_get _ _ _ _ _ hlt, if_neg (by omega), if_neg (by omega)]
  rw [e1] at ha ⊢
  exact mem (h.fd v (Or.inr hv) i i0 i1 ha)
theorem WInv.set (h : WInv N y g ws Y G rs) (hl : ws.length = N + O) (hy : y <= N) (hg : g <= O) {v i z : Int} (hv : v ∈ Y \/ v ∈ G) (i0 : 0 <= i) (i1 : i < pf (ld N y g ws v)) (hz : aB z = true -> aV z ∈ Y \/ aV z ∈ G) : WInv N y g (ws.set (v + 1 + i).toNat z) Y G rs := by
 obtain ⟨hF, hk⟩ := h.full.set (z := z) hl hy hg hv i0 i1
 have hb := iB_bd (O := O) (field_i h.full hv i0 i1) hy hg
 refine ⟨hF, h.rt, fun u hu j j0 j1 ha => ?_⟩
 rw [hk u hu] at j1
 have hi := field_i h.full hu j0 j1
 have hbi := iB_bd (O := O) hi hy hg
 have e1 : ld N y g (ws.set (v + 1 + i).toNat z) (u + 1 + j) = if (v + 1 + i).toNat = (u + 1 + j).toNat then z else ld N y g ws (u + 1 + j) := by
  rw [ld_in hi, ld_in hi, getD_set _ _ _ _ (by omega)]
 rw [e1] at ha ⊢
 split at ha
 ·rename_i e
  rw [if_pos e]
  exact hz ha
 ·rename_i e
  rw [if_neg e]
  exact h.fd u hu j j0 j1 ha
theorem WInv.tb (h : WInv N y g ws Y G rs) (hN : N <= 256) (hy : y <= N) (hO : O <= 1024) (hg : g <= O) (k : Nat) (hk : k < rs.length) : tB N y g ws (rs.getD k 0) = aB (rs.getD k 0) := by
 obtain ⟨e1, e2⟩ := h.full.lists (O := O) hN hy hO hg
 unfold tB
 rw [e1, e2]
 cases ha : aB (rs.getD k 0)
 ·rfl
 ·have := h.at k hk ha
  simpa using this
end
end Go.Proofs.YtnalfnlmaallmaaGreat
