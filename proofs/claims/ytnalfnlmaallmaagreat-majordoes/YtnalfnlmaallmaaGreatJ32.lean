/- Joined: Mn11, Mn17, Mj22. -/
import Derived.Test.YtnalfnlmaallmaaGreatJ18
import Derived.Test.YtnalfnlmaallmaaGreatJ31
import Derived.Test.YtnalfnlmaallmaaGreatJ30
namespace Go.Proofs.YtnalfnlmaallmaaGreat
set_option maxRecDepth 100000
set_option maxHeartbeats 2000000
open Go.RowKit W Kp Stl
section
variable {c : Cc} {k : Ck} {F : Nat -> Prop} {s : Cs} {w : World}
theorem mendW_any (h : (cutO c k).J F s w) (hI : CI k s) (hl : s.wk.length <= 10000) :
  Calls Tryz.prog 67 #[.pointer (some ⟨c.pk, 0, none⟩)] w fun e w' => e = .returned (.tuple #[]) /\ (cutO c k).J F (k.mw s s.wk) w' /\ Tn F w F w' := by
 obtain ⟨vw, ve, h⟩ := h
 obtain ⟨c0, _, _, c4, _, c5, _, _, _, cz, er, _, _, lk, _⟩ := cut_cells h
 obtain ⟨ad, cap, rfl⟩ := row_slice er
 have HI : Hid (CI k s) := hI
 have HP : Hid (∀ a ∈ s.wk, (k.N : Int) <= a /\ a <= 2000) := hI.wk0
 have hN0 : (0 : Int) <= k.N := by omega
 clear hI cz
 go_enter Tryz.func67, Tryz.ntmps67
 go_wp2_with fail
 go_loopw [10] (fun iv wr => ∃ (j : Nat) (s1 : Cs), j <= s.wk.length /\ iv = .int .i64 j /\ Hid (k.mw s (s.wk.take j) = s1) /\ (cutV c k (.slice ad s.wk.length cap) ve).J F s1 wr /\ Tn F w F wr /\ Hid (CI k s1 /\ Cq k s s1)) (fun iv _ => s.wk.length - (intOf iv).toNat)
 case atStart => exact ⟨0, s, Nat.zero_le _, rfl, rfl, h, Tn.refl _ _, ⟨HI.out, Cq.refl _ _⟩⟩
 case round =>
  obtain ⟨j, s1, hj, rfl, HE, hJ, hT, HI1⟩ := hrel
  obtain ⟨d0, _, _, d4, _, d5, _, _, _, dz, er1, _, _, lk1, _⟩ := cut_cells hJ
  have eep := HI1.out.2.wk
  rw [eep] at er1
  by_cases hlt : j < s.wk.length
  ·obtain ⟨b0, o0, e0, hb0, hc⟩ := row_ints er1 (by omega)
   have x1 := hc j hlt
   subst e0
   have hin : s.wk.getD j 0 ∈ s.wk := by rw [List.getD_eq_getElem?_getD, List.getElem?_eq_getElem hlt]; exact List.getElem_mem hlt
   have hbd := HP.out _ hin
   have HS : Hid (k.mw s (s.wk.take (j + 1)) = k.mw1 s1 (s.wk.getD j 0)) := by
    show _ = _
    rw [take_snoc s.wk j hlt 0]
    unfold Ck.mw
    rw [List.foldl_append]
    have := HE.out
    unfold Ck.mw at this
    rw [this]
    rfl
   generalize s.wk.getD j 0 = a at x1 hbd HS
   have HI2 : Hid (CI k (k.mw1 s1 a) /\ Cq k s (k.mw1 s1 a)) := by
    obtain ⟨i1, i2⟩ := HI1.out.1.mw1 hbd.1
    exact ⟨i1, HI1.out.2.trans i2⟩
   have hw1 : IntKind.i64.wrap (a + 1) = a + 1 := by rw [IntKind.wrap_i64]; omega
   obtain ⟨hA, _⟩ := cut_arena hJ
   have L := load_any (a + 1) wr hA
   have el : ld k.N k.y s1.g s1.ws (a + 1) = k.ld s1 (a + 1) := rfl
   rw [el] at L
   have HJ1 : Hid ((cutV c k (.slice (some ⟨b0, o0, none⟩) s.wk.length cap) ve).J F s1 wr /\ Tn F w F wr) := ⟨hJ, hT⟩
   clear hc hin hJ hT hA el dz er1 d4
   cases hls : k.ls s1 (k.ld s1 (a + 1))
   ·have HB : Hid (k.mw1 s1 a = k.st s1 (a + 1) (k.nw s1 (k.ld s1 (a + 1)))) := by
     show _ = _
     unfold Ck.mw1
     rw [hls]
     rfl
    generalize k.mw1 s1 a = s3 at HS HI2 HB
    generalize k.ld s1 (a + 1) = x at L hls HB
    go_wp2_with fail
    refine L.mono ?_
    clear L
    rintro e w1 ⟨rfl, hb1⟩
    have P := lost_any ((cutV c k (.slice (some ⟨b0, o0, none⟩) s.wk.length cap) ve).below HJ1.out.1 hb1) x
    rw [hls] at P
    clear x1 d0 d5
    go_wp2_with fail
    refine P.mono ?_
    clear P
    rintro e w2 ⟨rfl, hb2⟩
    have hb := hb1.trans (hb2.mono hb1.size)
    have hJ2 := (cutV c k (.slice (some ⟨b0, o0, none⟩) s.wk.length cap) ve).below HJ1.out.1 hb
    obtain ⟨d0, _, _, _, _, d5, _⟩ := cut_cells hJ2
    have HJ2 : Hid ((cutV c k (.slice (some ⟨b0, o0, none⟩) s.wk.length cap) ve).J F s1 w2.drew /\ Tn F w F w2.drew) := ⟨(cutV c k (.slice (some ⟨b0, o0, none⟩) s.wk.length cap) ve).below hJ2 (Below.refl _ w2).drew, (HJ1.out.2.below hb).below (Below.refl _ w2).drew⟩
    clear hb1 hb2 hJ2 hb HJ1
    go_wp2_with fail
    go_region_held3 (fun w' => w'.cell? ⟨c.pk, 0, none⟩ = some (.pointer (some ⟨c.pw, 0, none⟩)) /\ w'.cell? ⟨c.pw, 0, none⟩ = some (.pointer (some ⟨c.p, 0, none⟩))) (go_keep)
     (first
      | (go_at_call 143; refine (nowM_any HJ2.out.1 x).mono ?_; rintro e w3 ⟨rfl, hb3⟩; have hJ3 := (cutV c k (.slice (some ⟨b0, o0, none⟩) s.wk.length cap) ve).below HJ2.out.1 hb3; obtain ⟨g0, _, _, _, _, g5, _⟩ := cut_cells hJ3; obtain ⟨hA3, hA4⟩ := cut_arena hJ3; have HA : Hid (_ /\ _ /\ _) := ⟨hA3, hA4, HJ2.out.2.below hb3⟩; clear hb3 hJ3 hA3 hA4 HJ2)
      | (go_at_call 111; refine (store_any (a + 1) (k.nw s1 x) w3 HA.out.1).mono ?_; rintro e w5 ⟨rfl, hA3, hs3⟩; obtain ⟨hJ5, hT5⟩ := HA.out.2.1 w5 _ _ hA3 hs3; obtain ⟨r0, _, _, _, _, r5, _⟩ := cut_cells hJ5; have HJ5 : Hid ((cutV c k (.slice (some ⟨b0, o0, none⟩) s.wk.length cap) ve).J F s3 w5 /\ Tn F w F w5) := ⟨(by rw [HB.out]; exact hJ5), HA.out.2.2.trans hT5⟩; clear hA3 hs3 hJ5 hT5 HA))
    clear g0 g5 r0 r5 d0 d5
    go_wp2_with fail
    go_roundw
    case rel => exact ⟨j + 1, s3, by omega, by go_num, HS, HJ5.out.1, HJ5.out.2, HI2⟩
    case measure => simp [intOf]; omega
   ·have HB : Hid (k.mw1 s1 a = k.st s1 (a + 1) 3) := by
     show _ = _
     unfold Ck.mw1
     rw [if_pos hls]
    generalize k.mw1 s1 a = s3 at HS HI2 HB
    generalize k.ld s1 (a + 1) = x at L hls
    go_wp2_with fail
    refine L.mono ?_
    clear L
    rintro e w1 ⟨rfl, hb1⟩
    have P := lost_any ((cutV c k (.slice (some ⟨b0, o0, none⟩) s.wk.length cap) ve).below HJ1.out.1 hb1) x
    rw [hls] at P
    clear x1 d0 d5
    go_wp2_with fail
    refine P.mono ?_
    clear P
    rintro e w2 ⟨rfl, hb2⟩
    have hb := hb1.trans (hb2.mono hb1.size)
    have hJ2 := (cutV c k (.slice (some ⟨b0, o0, none⟩) s.wk.length cap) ve).below HJ1.out.1 hb
    obtain ⟨d0, _, _, _, _, d5, _⟩ := cut_cells hJ2
    obtain ⟨hA3, hA4⟩ := cut_arena ((cutV c k (.slice (some ⟨b0, o0, none⟩) s.wk.length cap) ve).below hJ2 (Below.refl _ w2).drew)
    have HA : Hid (_ /\ _ /\ _) := ⟨hA3, hA4, (HJ1.out.2.below hb).below (Below.refl _ w2).drew⟩
    clear hb1 hb2 hJ2 hb HJ1 hA3 hA4
    go_wp2_with fail
    go_region_held3 (fun w' => w'.cell? ⟨c.pk, 0, none⟩ = some (.pointer (some ⟨c.pw, 0, none⟩)) /\ w'.cell? ⟨c.pw, 0, none⟩ = some (.pointer (some ⟨c.p, 0, none⟩))) (go_keep)
     (first
      | (go_at_call 144; refine (gone_any _).mono ?_; rintro e w4 ⟨rfl, hw2'⟩; have hw2' := hw2'.symm; subst hw2')
      | (go_at_call 111; refine (store_any (a + 1) 3 w2.drew HA.out.1).mono ?_; rintro e w5 ⟨rfl, hA3, hs3⟩; obtain ⟨hJ5, hT5⟩ := HA.out.2.1 w5 _ _ hA3 hs3; obtain ⟨r0, _, _, _, _, r5, _⟩ := cut_cells hJ5; have HJ5 : Hid ((cutV c k (.slice (some ⟨b0, o0, none⟩) s.wk.length cap) ve).J F s3 w5 /\ Tn F w F w5) := ⟨(by rw [HB.out]; exact hJ5), HA.out.2.2.trans hT5⟩; clear hA3 hs3 hJ5 hT5 HA))
    clear r0 r5 d0 d5
    go_wp2_with fail
    go_roundw
    case rel => exact ⟨j + 1, s3, by omega, by go_num, HS, HJ5.out.1, HJ5.out.2, HI2⟩
    case measure => simp [intOf]; omega
  ·obtain rfl : j = s.wk.length := by omega
   rw [List.take_length] at HE
   go_wp2_with fail
   go_end0
   rw [HE.out]
   exact ⟨rfl, ⟨_, _, hJ⟩, hT⟩
theorem cut_nbne {vw ve : Value} (h : (cutV c k vw ve).J F s w) : c.nb ≠ c.pk /\ c.nb ≠ c.pw := by
 obtain ⟨own, h, hF⟩ := h
 refine ⟨fun e => ?_, fun e => ?_⟩
 ·have h1 := h.r1
  rw [e, h.k1] at h1
  omega
 ·have h1 := h.r1
  rw [e, h.w1] at h1
  omega
theorem keepRoots_any (h : (cutO c k).J F s w) (hI : CI k s) :
  Calls Tryz.prog 61 #[.pointer (some ⟨c.pk, 0, none⟩)] w fun e w' => e = .returned (.tuple #[]) /\ (cutO c k).J F (k.kr s 12) w' /\ Tn F w F w' := by
 obtain ⟨vw, ve, h⟩ := h
 obtain ⟨c0, _, _, _, _, _, _, _, c8, _⟩ := cut_cells h
 have HI : Hid (CI k s) := hI
 clear hI
 go_enter Tryz.func61, Tryz.ntmps61
 go_wp2_with fail
 go_loopw [12] (fun iv wr => ∃ (j : Nat), j <= 12 /\ iv = .int .i64 j /\ (cutV c k vw ve).J F (k.kr s j) wr /\ Tn F w F wr) (fun iv _ => 12 - (intOf iv).toNat)
 case atStart => exact ⟨0, Nat.zero_le _, rfl, h, Tn.refl _ _⟩
 case round =>
  obtain ⟨j, hj, rfl, hJ, hT⟩ := hrel
  by_cases hlt : j < 12
  ·obtain ⟨d0, _, _, _, _, _, _, _, d8, _⟩ := cut_cells hJ
   obtain ⟨hrl, lnb, hr⟩ := cut_roots hJ
   obtain ⟨x1, xf⟩ := hr j hlt
   obtain ⟨n1, n2⟩ := cut_nbne hJ
   have HB : Hid (k.kr s (j + 1) = { (k.br (k.kr s j) ((k.kr s j).rs.getD j 0)).2 with rs := (k.br (k.kr s j) ((k.kr s j).rs.getD j 0)).2.rs.set j (k.br (k.kr s j) ((k.kr s j).rs.getD j 0)).1 }) := rfl
   have HI1 : Hid (CI k (k.kr s j)) := (HI.out.kr j).1
   have HJ1 : Hid ((cutV c k vw ve).J F (k.kr s j) wr.drew /\ Tn F w F wr.drew) := ⟨(cutV c k vw ve).below hJ (Below.refl _ wr).drew, hT.below (Below.refl _ wr).drew⟩
   obtain ⟨s3, hs3⟩ : ∃ s3, s3 = k.kr s (j + 1) := ⟨_, rfl⟩
   rw [<- hs3] at HB
   have HS3 : Hid (s3 = k.kr s (j + 1)) := hs3
   clear hs3
   generalize (k.kr s j).rs.getD j 0 = x at x1 HB
   generalize k.kr s j = s1 at *
   have j0 : (0 : Int) <= (j : Int) := by omega
   have j1 : (j : Int) < 12 := by omega
   clear hr hJ hT
   go_wp2_with fail
   go_region_held3 (fun w' => w'.cell? ⟨c.pk, 0, none⟩ = some (.pointer (some ⟨c.pw, 0, none⟩)) /\ w'.cell? ⟨c.pw, 3, none⟩ = some (.slice (some ⟨c.nb, 0, none⟩) 12 12)) (go_keep)
    (first
     | (go_at_call 127; refine (bring_any HJ1.out.1 HI1.out x).mono ?_; rintro e w3 ⟨rfl, hJ3, hT3⟩; obtain ⟨g0, _, _, _, _, _, _, _, g8, _⟩ := cut_cells hJ3; obtain ⟨_, lnb3, hr3⟩ := cut_roots hJ3; obtain ⟨y1, yf⟩ := hr3 j hlt; have HJ3 : Hid ((cutV c k vw ve).J F (k.br s1 x).2 w3 /\ Tn F w F w3) := ⟨hJ3, HJ1.out.2.trans hT3⟩; clear hJ3 hT3 hr3 HJ1))
   obtain ⟨hJ5, hT5⟩ := cut_root HJ3.out.1 j (k.br s1 x).1
   have HJ5 : Hid ((cutV c k vw ve).J F s3 (w3.setCell ⟨c.nb, j, none⟩ (.int .i64 (k.br s1 x).1)) /\ Tn F w F (w3.setCell ⟨c.nb, j, none⟩ (.int .i64 (k.br s1 x).1))) := ⟨by rw [HB.out]; exact hJ5, HJ3.out.2.trans hT5⟩
   clear hJ5 hT5 HJ3 g0 g8 y1 yf d0 d8 x1 xf
   go_wp2_with fail
   go_roundw
   case rel => exact ⟨j + 1, by omega, by go_num, by rw [<- HS3.out]; exact HJ5.out.1, HJ5.out.2⟩
   case measure => simp [intOf]; omega
  ·obtain rfl : j = 12 := by omega
   go_wp2_with fail
   go_end0
   exact ⟨rfl, ⟨_, _, hJ⟩, hT⟩
end
end Go.Proofs.YtnalfnlmaallmaaGreat

namespace Go.Proofs.YtnalfnlmaallmaaGreat
set_option maxRecDepth 100000
set_option maxHeartbeats 4000000
open Go.RowKit W Kp Stl
section
variable {a : Wc} {F : Nat -> Prop} {S : Ww} {w : World}
theorem cutM_no (h : (wsO a).J F S w) (hf : S.full a = true) :
  Calls Tryz.prog 16 #[.pointer (some ⟨a.pw, 0, none⟩)] w fun e w' => e = .returned (.int .i64 3) /\ Below w.heap.size w w' := by
 obtain ⟨F0, ar, cr, h1, _⟩ := h
 obtain ⟨Fw, hw, _⟩ := mkSd_to h1
 obtain ⟨hA, _⟩ := wod_arena hw
 have hA : At w a.p a.q a.N a.O S.s.y S.s.g S.s.ws := hA
 obtain ⟨c0, _, _, _, lpw, _⟩ := wod_cells hw
 have n1 := hA.hg
 have n2 : a.O - S.s.g < S.s.y := by simpa [Ww.full] using hf
 have n3 : (a.O : Int) - S.s.g < S.s.y := by omega
 have n4 := hA.hO
 have n5 := hA.hy
 have n6 := hA.hN'
 have P1 := used_any w hA
 clear h1 hw
 go_enter Tryz.func16, Tryz.ntmps16
 go_wp2_with fail
 refine P1.mono ?_
 clear P1
 rintro e w1 ⟨rfl, hb1⟩
 have c1 := (hb1.cell (p := ⟨a.pw, 0, none⟩) lpw).trans c0
 have P2 := freeOf_any w1 (hA.below hb1 (Nat.le_refl _))
 go_wp2_with fail
 refine P2.mono ?_
 clear P2
 rintro e w2 ⟨rfl, hb2⟩
 have hb := hb1.trans (hb2.mono hb1.size)
 clear hb1 hb2 c0 c1
 go_wp2_with fail
 go_ret
 exact ⟨rfl, hb⟩
theorem cutM_yes (h : (wsO a).J F S w) (hf : S.full a = false) (hq : S.q.length + S.r.length <= 90000) :
    Calls Tryz.prog 16 #[.pointer (some ⟨a.pw, 0, none⟩)] w fun e w' => ∃ F', e = .returned (.int .i64 0) /\ (wsO a).J F' (S.cut a) w' /\ Tn F w F' w' := by
  have hmf : ∀ (fn : Fn) (first cap : Array Value) (w : World), (Instr.makeFunc fn first cap).run Tryz.prog w = .ok (.func fn first cap) w := fun _ _ _ _ => rfl
  obtain ⟨F0, ar, cr, h1, hR, hRn, hF⟩ := h
  obtain ⟨Fw, hw, hto⟩ := mkSd_to h1
  obtain ⟨hA, _⟩ := wod_arena hw
  have hA : At w a.p a.q a.N a.O S.s.y S.s.g S.s.ws := hA
  obtain ⟨c0, _, _, _, lpw, _⟩ := wod_cells hw
  have n1 := hA.hg
  have n2 : S.s.y <= a.O - S.s.g := by
    unfold Ww.full at hf
    have := of_decide_eq_false hf
    omega
  have n3 : ¬ (a.O : Int) - S.s.g < S.s.y := by omega
  have n4 := hA.hO
  have n5 := hA.hy
  have n6 := hA.hN'
  have HI0 : Hid (CI (S.s.k0 a) (S.s.s0 a)) := CI.start hA.hN hA.hN' hA.hO hA.hy hA.hg hA.hl n2
  have P1 := used_any w hA
  have HW : Hid ((wodO a).J Fw S.s w /\ At w a.p a.q a.N a.O S.s.y S.s.g S.s.ws) := ⟨hw, hA⟩
  have HTo : Hid (∀ {τ' : Type} (o' : Ob τ') F1 t1 w', o'.J F1 t1 w' -> Tn Fw w F1 w' -> ∃ F', (mkSd o' a.sd (.slice ar S.r.length cr)).J F' (t1, S.q) w' /\ Tn F0 w F' w') := hto
  have HR : Hid (w.ownsRow 0 106 2 (.slice ar S.r.length cr) S.r.length (ev S.r) /\ (∀ b, some b = (Value.slice ar S.r.length cr).ownBlock -> ¬ F0 b) /\ ∀ b, F b ↔ (F0 b \/ some b = (Value.slice ar S.r.length cr).ownBlock)) := ⟨hR, hRn, hF⟩
  clear h1 hw hA hto hR hRn hF hf
  go_enter Tryz.func16, Tryz.ntmps16
  go_wp2_with fail
  refine P1.mono ?_
  clear P1
  rintro e w1 ⟨rfl, hb1⟩
  have c1 := (hb1.cell (p := ⟨a.pw, 0, none⟩) lpw).trans c0
  have P2 := freeOf_any w1 (HW.out.2.below hb1 (Nat.le_refl _))
  go_wp2_with fail
  refine P2.mono ?_
  clear P2
  rintro e w2 ⟨rfl, hb2⟩
  have hb := hb1.trans (hb2.mono hb1.size)
  have P3 := newCut_any ((wodO a).below HW.out.1 hb)
  have HB : Hid (Below w.heap.size w w2) := hb
  clear hb1 hb2 c0 c1 hb
  go_wp2_with fail
  refine P3.mono ?_
  clear P3
  rintro e w3 ⟨pk, mq, pq, F3, rfl, hJ3, hT3⟩
  have hT3 := (Tn.of (F := Fw) HB.out).trans hT3
  obtain ⟨c, hc⟩ : ∃ c : Cc, c = ⟨pk, mq, a.pw, a.p, a.q, a.pc, pq, a.sd, a.nb, nC a.O, S.s.M⟩ := ⟨_, rfl⟩
  have epk : pk = c.pk := by rw [hc]
  have HC : Hid (c = ⟨pk, mq, a.pw, a.p, a.q, a.pc, pq, a.sd, a.nb, nC a.O, S.s.M⟩ /\ a.sd = c.sd /\ c.c = nC a.O /\ c.M = S.s.M /\ a.pw = c.pw) := ⟨hc, by rw [hc], by rw [hc], by rw [hc], by rw [hc]⟩
  rw [<- hc] at hJ3
  clear hc
  subst epk
  have hJ3 : (cutO c (S.s.k0 a)).J F3 (S.s.s0 a) w3 := hJ3
  have P4 := keepRoots_any hJ3 HI0.out
  clear hJ3
  go_wp2_with fail
  refine P4.mono ?_
  clear P4
  rintro e w4 ⟨rfl, hJ4, hT4⟩
  have hJ4 : (cutO c (S.s.k0 a)).J F3 (S.s.s1 a) w4 := hJ4
  obtain ⟨k1, k2, k3, k4, k5, k6⟩ := HI0.out.kr 12
  have P5 := marked_any hJ4 (s := S.s.s1 a) k1 k3 k4
  have HT4 : Hid (Tn Fw w F3 w4) := hT3.trans hT4
  clear hJ4 hT4 hT3 k1 k2 k3 k4 k5 k6
  go_wp2_with fail
  refine P5.mono ?_
  clear P5
  rintro e w5 ⟨F5, rfl, hJ5, hT5, i5, b5, nx5⟩
  rw [HC.out.2.2.1, HC.out.2.2.2.1] at hJ5 i5 b5
  have hJ5 : (cutO c (S.s.k0 a)).J F5 (S.s.s2 a) w5 := hJ5
  have i5 : CI (S.s.k0 a) (S.s.s2 a) := i5
  have b5 : CB (S.s.k0 a) (S.s.s2 a) := b5
  obtain ⟨F6, hM6, hT6⟩ := HTo.out (cutI c (S.s.k0 a)) F5 (S.s.s2 a) w5 ⟨hJ5, i5, b5⟩ (HT4.out.trans hT5)
  rw [HC.out.2.1] at hM6
  have P6 := spread_any (c := c) rfl hM6 (by show S.q.length <= 90000; omega)
  have HT6 : Hid (Tn F0 w F6 w5) := hT6
  clear hJ5 hT5 i5 b5 nx5 hM6 hT6
  go_wp2_with fail
  refine P6.mono ?_
  clear P6
  rintro e w7 ⟨F7, rfl, hM7, hT7⟩
  have hM7 : (mkSd (cutI c (S.s.k0 a)) c.sd (.slice ar S.r.length cr)).J F7 (S.t3 a) w7 := hM7
  have hT7 : Tn F0 w F7 w7 := HT6.out.trans hT7
  obtain ⟨Fi, ⟨⟨vw7, ve7, hJ7⟩, _⟩, _⟩ := mkSd_to hM7
  obtain ⟨d0, _, _, _, _, _, _, d7, _⟩ := cut_cells hJ7
  have l0 := World.block_lt_of_cell? w7 _ d0
  have l7 := World.block_lt_of_cell? w7 _ d7
  have HM7 : Hid ((mkSd (cutI c (S.s.k0 a)) c.sd (.slice ar S.r.length cr)).J F7 (S.t3 a) w7.drew /\ Tn F0 w F7 w7.drew) := ⟨(mkSd (cutI c (S.s.k0 a)) c.sd (.slice ar S.r.length cr)).below hM7 (Below.refl _ w7).drew, hT7.below (Below.refl _ w7).drew⟩
  have hlq : (S.t3 a).2.length + S.r.length <= 90000 := by
    have : (S.t3 a).2.length = S.q.length := spr_len _ _ _
    omega
  clear hM7 hT7 hJ7
  go_wp2_with fail
  go_region_held3 (fun w' => w'.cell? ⟨c.pk, 0, none⟩ = some (.pointer (some ⟨c.pw, 0, none⟩)) /\ w'.cell? ⟨c.pw, 2, none⟩ = some (.pointer (some ⟨c.sd, 0, none⟩))) (go_keep)
    (first
      | (go_at_call 65; refine (looksM_any (fkM c) w7.drew c.pk).mono ?_; rintro e w8 ⟨rfl, hx8, hb8⟩; have y0 := (hb8.cell (p := ⟨c.pk, 0, none⟩) l0).trans d0; have y7 := (hb8.cell (p := ⟨c.pw, 2, none⟩) l7).trans d7; have HX : Hid (w8.heap[w7.heap.size]? = some (boxC c) /\ Below w7.drew.heap.size w7.drew w8) := ⟨hx8, hb8⟩; clear hx8 hb8)
      | (go_at_call 64; refine (settleM_any (t := S.t3 a) (r := S.r) rfl ((mkSd (cutI c (S.s.k0 a)) c.sd (.slice ar S.r.length cr)).below HM7.out.1 HX.out.2) (by
            have hf := ((Fr.of (X := F0) HX.out.2))
            exact row_keep HR.out.1 (fun b e => (HX.out.2.block b (Nat.lt_of_lt_of_le (row_lt HR.out.1 b e).2 HM7.out.2.fr.size)).trans (HM7.out.2.fr.block b (row_lt HR.out.1 b e).2 (HR.out.2.1 b e)))) hlq w7.heap.size HX.out.1 (fun d => by have := (mkSd (cutI c (S.s.k0 a)) c.sd (.slice ar S.r.length cr)).lt HM7.out.1 _ d; have e8 : w7.drew.heap.size = w7.heap.size := rfl; omega)).mono ?_; rintro e w9 ⟨a1, c1, F9, rfl, hM9, hR9, hn9, hf9, hs9⟩; obtain ⟨Fj, ⟨⟨vw9, ve9, hJ9⟩, _⟩, _⟩ := mkSd_to hM9; obtain ⟨r0, _, _, _, _, _, _, r7, _⟩ := cut_cells hJ9; have HM9 : Hid ((mkSd (cutI c (S.s.k0 a)) c.sd (.slice a1 ((S.s.k0 a).sR (S.t3 a) S.r).length c1)).J F9 (S.s4 a, (S.s.k0 a).sQ (S.t3 a) S.r) w9 /\ w9.ownsRow 0 106 2 (.slice a1 ((S.s.k0 a).sR (S.t3 a) S.r).length c1) ((S.s.k0 a).sR (S.t3 a) S.r).length (ev ((S.s.k0 a).sR (S.t3 a) S.r)) /\ (∀ b, some b = (Value.slice a1 ((S.s.k0 a).sR (S.t3 a) S.r).length c1).ownBlock -> ¬ F9 b /\ w8.heap.size <= b) /\ w.heap.size <= w8.heap.size /\ Tn F0 w F9 w9) := ⟨hM9, hR9, hn9, Nat.le_trans HM7.out.2.fr.size HX.out.2.size, ⟨(HM7.out.2.below HX.out.2).fr.trans hf9 (fun b d => d.elim (HM7.out.2.sub b) (fun d => Or.inr (by have := HM7.out.2.fr.size; have e8 : w7.drew.heap.size = w7.heap.size := rfl; omega))), fun b d => (hs9 b d).elim (HM7.out.2.sub b) (fun d => Or.inr (by have h1 := HM7.out.2.fr.size; have h2 := HX.out.2.size; omega))⟩⟩; clear hM9 hR9 hn9 hf9 hs9 hJ9))
  clear d0 d7 y0 y7 r0 r7 HM7 HX hlq
  obtain ⟨Fj, ⟨hJ9, i9, b9⟩, hto9⟩ := mkSd_to HM9.out.1
  have hJ9 : (cutO c (S.s.k0 a)).J Fj (S.s4 a) w9 := hJ9
  have i9 : CI (S.s.k0 a) (S.s4 a) := i9
  have b9 : CB (S.s.k0 a) (S.s4 a) := b9
  obtain ⟨i10, q10⟩ := i9.mw (l := (S.s4 a).wk) (fun x hx => (i9.wk0 x hx).1)
  have i10 : CI (S.s.k0 a) (S.s5 a) := i10
  have P7 := mendW_any hJ9 i9 (by have := b9.wk; omega)
  have HI10 : Hid (CI (S.s.k0 a) (S.s5 a) /\ (S.s5 a).ep.length <= 10000) := ⟨i10, by have h1 : (S.s5 a).ep = (S.s4 a).ep := q10.ep; rw [h1]; have := b9.ep; omega⟩
  have HTo9 : Hid (∀ {τ' : Type} (o' : Ob τ') F1 t1 w', o'.J F1 t1 w' -> Tn Fj w9 F1 w' -> ∃ F', (mkSd o' c.sd (.slice a1 ((S.s.k0 a).sR (S.t3 a) S.r).length c1)).J F' (t1, (S.s.k0 a).sQ (S.t3 a) S.r) w' /\ Tn F9 w9 F' w') := hto9
  clear hJ9 i9 b9 i10 q10 hto9
  go_wp2_with fail
  refine P7.mono ?_
  clear P7
  rintro e w10 ⟨rfl, hJ10, hT10⟩
  have hJ10 : (cutO c (S.s.k0 a)).J Fj (S.s5 a) w10 := hJ10
  have P8 := breakE_any hJ10 HI10.out.1 HI10.out.2
  clear hJ10
  go_wp2_with fail
  refine P8.mono ?_
  clear P8
  rintro e w11 ⟨rfl, hJ11, hT11⟩
  have hJ11 : (cutO c (S.s.k0 a)).J Fj (S.s6 a) w11 := hJ11
  obtain ⟨vw, ve, hV11⟩ := hJ11
  obtain ⟨d0, _, _, _, _, d5, _⟩ := cut_cells hV11
  have hJ11 : (cutO c (S.s.k0 a)).J Fj (S.s6 a) w11 := ⟨vw, ve, hV11⟩
  rw [HC.out.1] at hJ11
  obtain ⟨Fw2, hw11, hsub, hnpk⟩ := cut_wood (pk := c.pk) (a := a) hJ11
  obtain ⟨hA11, hup⟩ := wod_arena hw11
  have hT11 : Tn Fj w9 Fw2 w11 := ⟨(hT10.trans hT11).fr, fun b hb => Or.inl (hsub b hb)⟩
  have P9 := clear_any w11 hA11
  have HU : Hid (Tn Fj w9 Fw2 w11 /\ ¬ Fw2 c.pk /\ ∀ w', At w' a.p a.q a.N a.O 0 (S.s6 a).g (S.s6 a).ws -> Sv a.p a.q w11 w' -> (wodO a).J Fw2 ⟨0, (S.s6 a).g, (S.s6 a).ws, S.s.M, (S.s6 a).rs⟩ w' /\ Tn Fw2 w11 Fw2 w') := ⟨hT11, hnpk, fun w' h1 h2 => hup w' _ _ _ h1 h2⟩
  have lpk := World.block_lt_of_cell? w11 _ d0
  have epw : c.pw = a.pw := HC.out.2.2.2.2.symm
  have ep : c.p = a.p := by rw [HC.out.1]
  rw [epw] at d0 d5
  rw [ep] at d5
  clear hJ11 hV11 hw11 hA11 hup hsub hnpk hT11 hT10 epw ep
  go_wp2_with fail
  refine P9.mono ?_
  clear P9
  rintro e w12 ⟨rfl, hA12, hs12⟩
  obtain ⟨hw12, hT12⟩ := HU.out.2.2 w12 hA12 hs12
  obtain ⟨pq2, hcd, hcu⟩ := wod_cards hw12
  obtain ⟨_, f1, _⟩ := wod_cells hw12
  have f0 : w12.cell? ⟨c.pk, 0, none⟩ = some (.pointer (some ⟨a.pw, 0, none⟩)) := (World.cell?_of_block (a := ⟨c.pk, 0, none⟩) (hT12.fr.block c.pk lpk HU.out.2.1)).trans d0
  have P10 := clearC_any w12 hcd.hp
  have HU2 : Hid (Tn Fj w9 Fw2 w12 /\ ∀ w', Cd w' a.pc w12.heap.size a.N (nC a.O) [] -> Sv a.pc pq2 w12 w' -> ∃ F', (wodO a).J F' ⟨0, (S.s6 a).g, (S.s6 a).ws, [], (S.s6 a).rs⟩ w' /\ Tn Fw2 w12 F' w') := ⟨HU.out.1.trans hT12, fun w' h1 h2 => hcu w' _ _ h1 h2 (Or.inr (Nat.le_refl _))⟩
  clear hA12 hs12 hw12 hT12 hcd hcu d0 d5
  go_wp2_with fail
  refine P10.mono ?_
  clear P10
  rintro e w13 ⟨rfl, hcd13, hs13⟩
  have HF : Hid (∃ F', (wsO a).J F' (S.cut a) w13 /\ Tn F w F' w13) := by
    obtain ⟨F13, hw13, hT13⟩ := HU2.out.2 w13 hcd13 ⟨hs13.os, hs13.tape, hs13.output, hs13.size, fun b hb h1 _ => hs13.block b hb h1 h1⟩
    obtain ⟨F14, hM14, hT14⟩ := HTo9.out (wodO a) F13 _ w13 hw13 (HU2.out.1.trans hT13)
    obtain ⟨_, hR9, hn9, h89, hT9⟩ := HM9.out
    have eS : S.cut a = ⟨⟨0, (S.s6 a).g, (S.s6 a).ws, [], (S.s6 a).rs⟩, (S.s.k0 a).sR (S.t3 a) S.r, (S.s.k0 a).sQ (S.t3 a) S.r⟩ := by
      unfold Ww.cut
      rw [if_neg]
      unfold Ww.full
      simp
      omega
    rw [eS]
    rw [<- HC.out.2.1] at hM14
    have hT0 := hT9.trans hT14
    refine ⟨fun b => F14 b \/ some b = (Value.slice a1 ((S.s.k0 a).sR (S.t3 a) S.r).length c1).ownBlock, ⟨F14, a1, c1, hM14, row_fr hR9 hT14.fr (fun b e => (hn9 b e).1), fun b e d => (hT14.sub b d).elim (hn9 b e).1 (fun d => by have := (row_lt hR9 b e).2; omega), fun b => Iff.rfl⟩, ⟨hT0.fr.mono (fun b d => (HR.out.2.2 b).2 (Or.inl d)), fun b d => ?_⟩⟩
    rcases d with d | d
    · exact (hT0.sub b d).imp (fun d => (HR.out.2.2 b).2 (Or.inl d)) id
    · exact Or.inr (Nat.le_trans h89 (hn9 b d).2)
  clear hcd13 hs13 HU2 HTo9 HM9 f0 f1
  go_wp2_with fail
  go_ret
  obtain ⟨F', j1, j2⟩ := HF.out
  exact ⟨F', rfl, j1, j2⟩
theorem cutM_any (h : (wsO a).J F S w) (hq : S.q.length + S.r.length <= 90000) :
  Calls Tryz.prog 16 #[.pointer (some ⟨a.pw, 0, none⟩)] w fun e w' => ∃ F', e = .returned (.int .i64 (S.code a)) /\ (wsO a).J F' (S.cut a) w' /\ Tn F w F' w' := by
 cases hf : S.full a
 ·have e1 : S.code a = 0 := by unfold Ww.code; rw [hf]; rfl
  rw [e1]
  exact cutM_yes h hf hq
 ·have e1 : S.code a = 3 := by unfold Ww.code; rw [if_pos hf]
  have e2 : S.cut a = S := by unfold Ww.cut; rw [if_pos hf]
  rw [e1, e2]
  refine (cutM_no h hf).mono ?_
  rintro e w' ⟨rfl, hb⟩
  exact ⟨F, rfl, (wsO a).below h hb, Tn.of hb⟩
end
end Go.Proofs.YtnalfnlmaallmaaGreat

namespace Go.Proofs.YtnalfnlmaallmaaGreat
open Go.RowKit W Kp Stl
def Jk.slS (s : Js) (t : Jk × Int) (a : Int) : Jk × Int := (t.1.mov (s.f a).toNat a.toNat (1 + (pf (t.1.ld a)).toNat), t.2 + (1 + pf (t.1.ld a)))
def Jk.slL (k : Jk) (s : Js) (l : List Int) : Jk × Int := ejL (fun _ a => s.f a) (Jk.slS s) (k, 0) l
def Jk.cpL (k : Jk) (s : Js) (l : List Int) : Jk := ejL (fun (_ : Jk) a => s.f a) (fun k a => k.cop a) k l
def Jk.cdc (k : Jk) : Jk := { k with s := { k.s with M := [] } }
def Jk.sl1 (k : Jk) (s : Js) : Jk := (k.slL s k.G).1.ar (k.slL s k.G).1.s.y (k.slL s k.G).2.toNat (k.slL s k.G).1.s.ws
def Jk.sl2 (k : Jk) (s : Js) : Jk := (k.sl1 s).cpL s k.Y
def Jk.sl (k : Jk) (s : Js) : Jk := ((k.sl2 s).ar 0 (k.sl2 s).s.g (k.sl2 s).s.ws).cdc
theorem ent_sl1 : Ent 213 := ent_of Tryz.func213 (by kernel_rfl) rfl
theorem ent_sl2 : Ent 216 := ent_of Tryz.func216 (by kernel_rfl) rfl
section
variable {c : Jc} {k0 k : Jk} {vt ve vr : Value} {F : Nat -> Prop} {s : Js} {w : World} {bp bn : Nat}
theorem mt_cutA (h : (mtO c k0 s vt ve).J F k w) (n : Int) (h0 : 0 <= n) (h1 : n <= k0.a.O) : Calls Tryz.prog 215 #[.pointer (some ⟨k0.a.p, 0, none⟩), .int .i64 n] w fun e w' => ∃ F', e = .returned (.tuple #[]) /\ (mtO c k0 s vt ve).J F' (k.ar k.s.y n.toNat k.s.ws) w' /\ Tn F w F' w' := by
 obtain ⟨h, ea, eY, eG⟩ := h
 obtain ⟨hA, hU⟩ := mj_ar h
 have P := cut_any n w hA h0 (by rw [ea]; exact h1)
 rw [<- ea]
 refine P.mono ?_
 rintro e w2 ⟨rfl, hA2, hs2⟩
 obtain ⟨F2, h2, t2⟩ := hU w2 _ _ _ hA2 hs2
 exact ⟨F2, rfl, ⟨h2, ea, eY, eG⟩, t2⟩
theorem mt_clear (h : (mtO c k0 s vt ve).J F k w) : Calls Tryz.prog 69 #[.pointer (some ⟨k0.a.p, 0, none⟩)] w fun e w' => ∃ F', e = .returned (.tuple #[]) /\ (mtO c k0 s vt ve).J F' (k.ar 0 k.s.g k.s.ws) w' /\ Tn F w F' w' := by
 obtain ⟨h, ea, eY, eG⟩ := h
 obtain ⟨hA, hU⟩ := mj_ar h
 have P := clear_any w hA
 rw [<- ea]
 refine P.mono ?_
 rintro e w2 ⟨rfl, hA2, hs2⟩
 obtain ⟨F2, h2, t2⟩ := hU w2 _ _ _ hA2 hs2
 exact ⟨F2, rfl, ⟨h2, ea, eY, eG⟩, t2⟩
theorem mt_cards (h : (mtO c k0 s vt ve).J F k w) : w.cell? ⟨k0.a.pw, 1, none⟩ = some (.pointer (some ⟨k0.a.pc, 0, none⟩)) /\ Calls Tryz.prog 70 #[.pointer (some ⟨k0.a.pc, 0, none⟩)] w fun e w' => ∃ F', e = .returned (.tuple #[]) /\ (mtO c k0 s vt ve).J F' k.cdc w' /\ Tn F w F' w' := by
 obtain ⟨h, ea, eY, eG⟩ := h
 obtain ⟨FW, g1, g2⟩ := mj_turn h
 obtain ⟨_, c1, _⟩ := wod_cells g1
 obtain ⟨pq, hc, hU⟩ := wod_cards g1
 have P := clearC_any w hc.hp
 rw [ea] at c1 P
 refine ⟨c1, P.mono ?_⟩
 rintro e w2 ⟨rfl, hC2, hs2⟩
 rw [<- ea] at hC2 hs2
 obtain ⟨F1, j1, t1⟩ := hU w2 _ _ hC2 ⟨hs2.os, hs2.tape, hs2.output, hs2.size, fun b hb h1 _ => hs2.block b hb h1 h1⟩ (Or.inr (Nat.le_refl _))
 obtain ⟨F2, j2, t2⟩ := g2 _ _ _ j1 t1
 exact ⟨F2, rfl, ⟨j2, ea, eY, eG⟩, t2⟩
theorem mt_lists (h : (mtO c k0 s vt ve).J F k w) : w.cell? ⟨c.pk, 1, none⟩ = some c.yv /\ w.cell? ⟨c.pk, 2, none⟩ = some c.ov /\ w.ownsRow 0 3 1 c.yv k0.Y.length (k0.Y.map (Value.int .i64)) /\ w.ownsRow 0 3 1 c.ov k0.G.length (k0.G.map (Value.int .i64)) := by
 obtain ⟨h, ea, eY, eG⟩ := h
 obtain ⟨_, d1, d2, _⟩ := mj_cells h
 obtain ⟨y, g⟩ := mj_things h
 rw [eY] at y
 rw [eG] at g
 exact ⟨d1, d2, y, g⟩
def SlG (k0 : Jk) (s : Js) (G : Nat -> Jk × Int -> Prop) : Prop :=
 (∀ j t, j < k0.G.length -> G j t -> s.f (k0.G.getD j 0) ≠ -1 -> 0 <= s.f (k0.G.getD j 0) /\ s.f (k0.G.getD j 0) + (1 + pf (t.1.ld (k0.G.getD j 0))) <= k0.a.N + k0.a.O /\ k0.G.getD j 0 + (1 + pf (t.1.ld (k0.G.getD j 0))) <= k0.a.N + k0.a.O /\ 0 <= t.2 /\ t.2 <= 100000) /\
 (∀ j t, j < k0.G.length -> G j t -> G (j + 1) (ejS (fun _ a => s.f a) (Jk.slS s) t (k0.G.getD j 0))) /\ (∀ t, G k0.G.length t -> 0 <= t.2 /\ t.2 <= k0.a.O)
theorem slideE1_any {G : Nat -> Jk × Int -> Prop} (hG : SlG k0 s G) {t : Jk × Int} (h0 : G 0 t) (h : (obN (obX (mtO c k0 s vt ve) bp (boxJ c)) bn).J F t w) (hl : k0.G.length <= 4000) (hp : ∀ a ∈ k0.G, 0 <= a /\ a <= 2000) {ad : Option Addr} {d : Nat} (hv : c.ov = .slice ad k0.G.length d) :
  Calls Tryz.prog 209 #[.pointer (some ⟨c.pk, 0, none⟩), .slice ad k0.G.length d, .func (.func 213) #[] #[.pointer (some ⟨bp, 0, none⟩), .pointer (some ⟨bn, 0, none⟩)]] w fun e w' => ∃ F', e = .returned (.tuple #[]) /\ (obN (obX (mtO c k0 s vt ve) bp (boxJ c)) bn).J F' (ejL (fun _ a => s.f a) (Jk.slS s) t k0.G) w' /\ Tn F w F' w' /\ G k0.G.length (ejL (fun _ a => s.f a) (Jk.slS s) t k0.G) := by
 have hT : ∀ a ∈ k0.G, a ∈ k0.T := fun a ha => List.mem_append.2 (Or.inl ha)
 refine eachJ0_any (obN (obX (mtO c k0 s vt ve) bp (boxJ c)) bn) (fun _ a => s.f a) (fun t a => pf (t.1.ld a)) (Jk.slS s) G k0.T c.pk k0.a.pw k0.a.p c.mq 213 #[.pointer (some ⟨bp, 0, none⟩), .pointer (some ⟨bn, 0, none⟩)] ent_sl1 k0.G ad d F t w
  (by
   rintro F t w9 a h9
   obtain ⟨_, h8, _⟩ := obN_in h9
   obtain ⟨_, h1, _⟩ := obX_in h8
   have ea : t.1.a = k0.a := h1.2.1
   obtain ⟨c0, c3, c5, hM, hA⟩ := mt_cells h1
   refine ⟨c0, c3, c5, hM, (thing_any a w9 hA).mono ?_⟩
   rintro r w' ⟨rfl, hb⟩
   have el : pf (t.1.ld a) = pf (ld k0.a.N t.1.s.y t.1.s.g t.1.s.ws a) := by unfold Jk.ld; rw [ea]
   exact ⟨pk (ld k0.a.N t.1.s.y t.1.s.g t.1.s.ws a), pc (ld k0.a.N t.1.s.y t.1.s.g t.1.s.ws a), by rw [el], hb⟩)
  (fun t a => pf_bd _) (fun a ha => ⟨by have := hp a ha; omega, hT a ha⟩) (by omega)
  (by
   rintro j F t w9 hj hg hJ hf
   have hm : k0.G.getD j 0 ∈ k0.G := by rw [List.getD_eq_getElem?_getD, List.getElem?_eq_getElem hj]; exact List.getElem_mem hj
   have h1 := hp _ hm
   have h2 := pf_bd (t.1.ld (k0.G.getD j 0))
   obtain ⟨a1, a2, a3, a4, a5⟩ := hG.1 j t hj hg hf
   have e1 : ((1 + (pf (t.1.ld (k0.G.getD j 0))).toNat : Nat) : Int) = 1 + pf (t.1.ld (k0.G.getD j 0)) := by omega
   have P := slide1J_any (k := t.1) (u := t.2) hJ (k0.G.getD j 0) (1 + (pf (t.1.ld (k0.G.getD j 0))).toNat) (hT _ hm) h1 a1 (by rw [e1]; exact a2) (by rw [e1]; exact a3) ⟨a4, a5⟩ (by omega)
   rw [e1] at P
   exact P)
  hG.2.1 h0 h (fun F' t' w' hJ _ => ?_)
 obtain ⟨_, h8, _⟩ := obN_in hJ
 obtain ⟨_, h1, _⟩ := obX_in h8
 have hr := (mt_lists h1).2.2.2
 rw [hv] at hr
 exact row_ints hr
theorem slideE2_any (h : (obX (mtO c k0 s vt ve) bp (boxJ c)).J F k w) (hl : k0.Y.length <= 4000) (hp : ∀ a ∈ k0.Y, 0 <= a /\ a <= 2000) {ad : Option Addr} {d : Nat} (hv : c.yv = .slice ad k0.Y.length d) :
  Calls Tryz.prog 209 #[.pointer (some ⟨c.pk, 0, none⟩), .slice ad k0.Y.length d, .func (.func 216) #[] #[.pointer (some ⟨bp, 0, none⟩)]] w fun e w' => ∃ F', e = .returned (.tuple #[]) /\ (obX (mtO c k0 s vt ve) bp (boxJ c)).J F' (k.cpL s k0.Y) w' /\ Tn F w F' w' := by
 have hT : ∀ a ∈ k0.Y, a ∈ k0.T := fun a ha => List.mem_append.2 (Or.inr ha)
 have E := eachJ0_any (obX (mtO c k0 s vt ve) bp (boxJ c)) (fun (_ : Jk) a => s.f a) (fun t a => pf (t.ld a)) (fun k a => k.cop a) (fun _ _ => True) k0.T c.pk k0.a.pw k0.a.p c.mq 216 #[.pointer (some ⟨bp, 0, none⟩)] ent_sl2 k0.Y ad d F k w
  (by
   rintro F t w9 a h9
   obtain ⟨_, h1, _⟩ := obX_in h9
   have ea : t.a = k0.a := h1.2.1
   obtain ⟨c0, c3, c5, hM, hA⟩ := mt_cells h1
   refine ⟨c0, c3, c5, hM, (thing_any a w9 hA).mono ?_⟩
   rintro r w' ⟨rfl, hb⟩
   have el : pf (t.ld a) = pf (ld k0.a.N t.s.y t.s.g t.s.ws a) := by unfold Jk.ld; rw [ea]
   exact ⟨pk (ld k0.a.N t.s.y t.s.g t.s.ws a), pc (ld k0.a.N t.s.y t.s.g t.s.ws a), by rw [el], hb⟩)
  (fun t a => pf_bd _) (fun a ha => ⟨by have := hp a ha; omega, hT a ha⟩) (by omega)
  (fun j F t w9 _ _ hJ _ => slide2J_any hJ _ _)
  (fun _ _ _ _ => trivial) trivial h (fun F' t' w' hJ _ => by
   obtain ⟨_, h1, _⟩ := obX_in hJ
   have hr := (mt_lists h1).2.2.1
   rw [hv] at hr
   exact row_ints hr)
 refine E.mono ?_
 rintro r w' ⟨F', rfl, h1, h2, _⟩
 exact ⟨F', rfl, h1, h2⟩
end
end Go.Proofs.YtnalfnlmaallmaaGreat
