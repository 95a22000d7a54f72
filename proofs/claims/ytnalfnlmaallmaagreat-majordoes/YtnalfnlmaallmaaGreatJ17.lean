/- Joined: Mn5, Mn6, Mn7, Sdf. -/
import Derived.Test.YtnalfnlmaallmaaGreatJ10
import Derived.Test.YtnalfnlmaallmaaGreatJ12
import Derived.Test.YtnalfnlmaallmaaGreatJ08
namespace Go.Proofs.YtnalfnlmaallmaaGreat
set_option maxRecDepth 100000
set_option maxHeartbeats 2000000
open Go.RowKit W Kp Stl
theorem aV_bd {x : Int} (h : aB x = true) : 0 <= aV x /\ aV x < 1152921504606846976 := by
 rw [aV_yes x h]
 unfold aB at h
 simp at h
 exact dn_bd x h.2
section
variable {c : Cc} {k : Ck} {vw ve : Value} {F : Nat -> Prop} {s : Cs} {w : World}
theorem fate_any (h : (cutV c k vw ve).J F s w) (x : Int) :
  Calls Tryz.prog 198 #[.pointer (some ⟨c.pk, 0, none⟩), .int .i64 x] w fun e w' => ∃ v, e = .returned (.tuple #[.int .i64 v, .bool (k.yg x)]) /\ (k.yg x = true -> v = s.f (aV x)) /\ Below w.heap.size w w' := by
 have HJ : Hid ((cutV c k vw ve).J F s w) := h
 have P := at_any x w
 clear h
 cases ha : aB x
 ·rw [ha] at P
  have e1 : k.yg x = false := by unfold Ck.yg; rw [ha]; rfl
  rw [e1]
  go_enter Tryz.func198, Tryz.ntmps198
  go_wp2_with fail
  refine P.mono ?_
  clear P
  rintro e w1 ⟨rfl, hb1⟩
  go_wp2_with fail
  go_ret2
  exact ⟨0, rfl, fun h => by simp at h, hb1⟩
 ·have e1 : k.yg x = k.T.contains (aV x) := by unfold Ck.yg; rw [ha]; rfl
  have hbd := aV_bd ha
  rw [e1]
  rw [ha] at P
  clear ha e1
  generalize aV x = a at P hbd ⊢
  have hky := keyI hbd.1 hbd.2
  obtain ⟨bt, hbt⟩ : ∃ bt, bt = k.T.contains a := ⟨_, rfl⟩
  rw [<- hbt]
  go_enter Tryz.func198, Tryz.ntmps198
  go_wp2_with fail
  refine P.mono ?_
  clear P
  rintro e w1 ⟨rfl, hb1⟩
  have hJ1 := (cutV c k vw ve).below HJ.out hb1
  obtain ⟨c0, c1, _⟩ := cut_cells hJ1
  obtain ⟨⟨D, o1, o2, o3⟩, _⟩ := cut_map hJ1
  have E2 : Hid (Maps.has D (.int .i64 a) = bt) := (o2 a).trans hbt.symm
  have E3 : Hid (bt = true -> D.atKey (.int .i64 a) (.lit (.int .i64 0)) = .lit (.int .i64 (s.f a))) := fun e => o3 a (by rw [hbt] at e; simpa using e)
  clear o2 o3 hbt hJ1 HJ
  go_wp2_with (at_lookup; refine wpList_lookup_own_ok_int _ rfl _ _ 109 rfl 3 3 .i64 lawI Tryz.underlying109 Tryz.underlying3 (zeroI _) c.mq k.T.length D rfl o1 _ _ rfl hky ?_; intro z hat hwc; rw [E2.out]; have E4 : Hid (bt = true -> z = s.f a) := (fun e => by have := hat.symm.trans (E3.out e); simpa using this); clear hat hwc)
  go_ret2
  exact ⟨z, rfl, E4.out, hb1⟩
theorem lost_any (h : (cutV c k vw ve).J F s w) (x : Int) :
  Calls Tryz.prog 142 #[.pointer (some ⟨c.pk, 0, none⟩), .int .i64 x] w fun e w' => e = .returned (.bool (k.ls s x)) /\ Below w.heap.size w w' := by
 have P := fate_any h x
 clear h
 cases hy : k.yg x
 ·have e1 : k.ls s x = false := by unfold Ck.ls; rw [hy]; rfl
  rw [e1]
  rw [hy] at P
  go_enter Tryz.func142, Tryz.ntmps142
  go_wp2_with fail
  refine P.mono ?_
  clear P
  rintro e w1 ⟨v, rfl, _, hb1⟩
  go_wp2_with fail
  go_ret
  exact ⟨rfl, hb1⟩
 ·have e1 : k.ls s x = (s.f (aV x) == -1) := by unfold Ck.ls; rw [hy]; rfl
  rw [e1]
  rw [hy] at P
  generalize s.f (aV x) = a at P ⊢
  go_enter Tryz.func142, Tryz.ntmps142
  go_wp2_with fail
  refine P.mono ?_
  clear P
  rintro e w1 ⟨v, rfl, hv, hb1⟩
  have hv := hv trivial
  subst hv
  go_wp2_with fail
  go_ret
  exact ⟨rfl, hb1⟩
theorem nowM_any (h : (cutV c k vw ve).J F s w) (x : Int) :
  Calls Tryz.prog 143 #[.pointer (some ⟨c.pk, 0, none⟩), .int .i64 x] w fun e w' => e = .returned (.int .i64 (k.nw s x)) /\ Below w.heap.size w w' := by
 have P := fate_any h x
 clear h
 cases hy : k.yg x
 ·have e1 : k.nw s x = x := by unfold Ck.nw; rw [hy]; simp
  rw [e1]
  rw [hy] at P
  go_enter Tryz.func143, Tryz.ntmps143
  go_wp2_with fail
  refine P.mono ?_
  clear P
  rintro e w1 ⟨v, rfl, _, hb1⟩
  go_wp2_with fail
  go_ret
  exact ⟨rfl, hb1⟩
 ·rw [hy] at P
  by_cases hf : s.f (aV x) = -1
  ·have e1 : k.nw s x = x := by unfold Ck.nw; rw [hy, hf]; simp
   rw [e1]
   rw [hf] at P
   go_enter Tryz.func143, Tryz.ntmps143
   go_wp2_with fail
   refine P.mono ?_
   clear P
   rintro e w1 ⟨v, rfl, hv, hb1⟩
   have hv := hv trivial
   subst hv
   go_wp2_with fail
   go_ret
   exact ⟨rfl, hb1⟩
  ·have e1 : k.nw s x = ew 3 (s.f (aV x)) := by unfold Ck.nw; rw [hy, if_pos (by simp [hf])]
   rw [e1]
   generalize s.f (aV x) = a at P hf ⊢
   have hf2 : ¬ (-1 = a) := fun e => hf e.symm
   go_enter Tryz.func143, Tryz.ntmps143
   go_wp2_with fail
   refine P.mono ?_
   clear P
   rintro e w1 ⟨v, rfl, hv, hb1⟩
   have hv := hv trivial
   subst hv
   go_wp2_with fail
   refine (ref_any v w1).mono ?_
   rintro e w2 ⟨rfl, hb2⟩
   go_wp2_with fail
   go_ret
   exact ⟨rfl, hb1.trans (hb2.mono hb1.size)⟩
theorem bring_any (h : (cutV c k vw ve).J F s w) (hI : CI k s) (x : Int) :
  Calls Tryz.prog 127 #[.pointer (some ⟨c.pk, 0, none⟩), .int .i64 x] w fun e w' => e = .returned (.int .i64 (k.br s x).1) /\ (cutV c k vw ve).J F (k.br s x).2 w' /\ Tn F w F w' := by
 have HJ : Hid ((cutV c k vw ve).J F s w) := h
 have P := lost_any h x
 clear h
 cases hl : k.ls s x
 ·have e1 : k.br s x = (k.nw s x, s) := by unfold Ck.br; rw [hl]; rfl
  rw [e1]
  rw [hl] at P
  go_enter Tryz.func127, Tryz.ntmps127
  go_wp2_with fail
  refine P.mono ?_
  clear P
  rintro e w1 ⟨rfl, hb1⟩
  have hJ1 := (cutV c k vw ve).below HJ.out hb1
  have P2 := nowM_any hJ1 x
  clear hJ1
  go_wp2_with fail
  refine P2.mono ?_
  rintro e w2 ⟨rfl, hb2⟩
  have hb := hb1.trans (hb2.mono hb1.size)
  clear P2 hb1 hb2
  go_wp2_with fail
  go_ret
  exact ⟨rfl, (cutV c k vw ve).below HJ.out hb, Tn.of hb⟩
 ·have e1 : k.br s x = (k.nw (k.cp s (aV x)) x, k.cp s (aV x)) := by unfold Ck.br; rw [if_pos hl]
  rw [e1]
  obtain ⟨l1, l2, l3⟩ := Ck.ls_yes hl
  have hbd := aV_bd l1
  have Pa := at_any x
  rw [hl] at P
  rw [l1] at Pa
  have hky := keyI hbd.1 hbd.2
  have E : Hid (k.cp s (aV x) = { s with g := cpG k.N k.O k.y s.g s.ws (aV x), ws := cpW k.N k.O k.y s.g s.ws (aV x), f := upf s.f (aV x) (cpR k.N k.O k.y s.g s.ws (aV x)) }) := rfl
  have n1 := hI.hN'
  have n2 := hI.hO
  have n3 := hI.hg
  have htl := hI.tl
  have hwf : (Lit.int .i64 (cpR k.N k.O k.y s.g s.ws (aV x))).wf = true := by
   unfold cpR
   split
   ·exact WalkArith.wf_i64 ⟨by omega, by omega⟩
   ·decide
  have hv := elI _ hwf
  generalize k.cp s (aV x) = s2 at E ⊢
  clear hI e1 hl l1 l3 hwf
  generalize aV x = a at *
  go_enter Tryz.func127, Tryz.ntmps127
  go_wp2_with fail
  refine P.mono ?_
  clear P
  rintro e w1 ⟨rfl, hb1⟩
  go_wp2_with fail
  refine (Pa w1).mono ?_
  rintro e w2 ⟨rfl, hb2⟩
  have hb := hb1.trans (hb2.mono hb1.size)
  have hJ2 := (cutV c k vw ve).below HJ.out hb
  obtain ⟨c0, c1, _, _, _, c5, _⟩ := cut_cells hJ2
  have hJd := (cutV c k vw ve).below hJ2 (Below.refl _ w2).drew
  obtain ⟨hA, hA2⟩ := cut_arena hJd
  have HA2 : Hid (_ /\ _) := ⟨hb, hA2⟩
  have C := copy_any a w2.drew hA
  clear hb1 hb2 hb Pa hA2 hJd hJ2
  go_wp2_with fail
  go_region_held3 (fun w' => w'.cell? ⟨c.pk, 0, none⟩ = some (.pointer (some ⟨c.pw, 0, none⟩)) /\ w'.cell? ⟨c.pk, 1, none⟩ = some (.map (some c.mq)) /\ w'.cell? ⟨c.pw, 0, none⟩ = some (.pointer (some ⟨c.p, 0, none⟩))) (go_keep)
   (first
    | (go_at_call 193; refine C.mono ?_; clear C; rintro e w3 ⟨rfl, hA3, hs3⟩; obtain ⟨hJ3, hT3⟩ := HA2.out.2 w3 _ _ hA3 hs3; obtain ⟨d0, d1, _, _, _, d5, _⟩ := cut_cells hJ3; obtain ⟨n4, n5⟩ := cut_ne hJ3; obtain ⟨⟨D, o1, o2, o3⟩, hM⟩ := cut_map hJ3; obtain ⟨w4, hrun, hown4, hgrow4⟩ := o1.update (t := 109) (e := 3) lawI Tryz.underlying109 (by unfold maxLen; omega) hky hv; have d6 := hgrow4.cell d0 (by simpa using n4); have d7 := hgrow4.cell d1 (by simpa using n4); have d8 := hgrow4.cell d5 (by simpa using n5); obtain ⟨hJ4, hT4⟩ := hM w4 _ (Mp.put o1 o2 o3 l2 hown4) ((Fr.refl _ w3).grown hgrow4 (fun b e => Or.inl (by cases e; rfl))); have HO : Hid ((cutV c k vw ve).J F s2 w4 /\ Tn F w F w4) := ⟨(by rw [E.out]; exact hJ4), (((Tn.of HA2.out.1).below (Below.refl _ w2).drew).trans hT3).trans hT4⟩; clear hA3 hs3 hJ3 hT3 o1 o2 o3 hM hown4 hgrow4 hJ4 hT4))
  clear d6 d7 d8 d0 d1 d5 hrun c0 c1 c5 E hv hky HA2
  go_wp2_with fail
  refine (nowM_any HO.out.1 x).mono ?_
  rintro e w5 ⟨rfl, hb5⟩
  go_wp2_with fail
  go_ret
  exact ⟨rfl, (cutV c k vw ve).below HO.out.1 hb5, HO.out.2.below hb5⟩
theorem keepField_any (h : (cutV c k vw ve).J F s w) (hI : CI k s) (a : Int) :
  Calls Tryz.prog 194 #[.pointer (some ⟨c.pk, 0, none⟩), .int .i64 a] w fun e w' => e = .returned (.tuple #[]) /\ (cutV c k vw ve).J F (k.kf s a) w' /\ Tn F w F w' := by
 have hJd := (cutV c k vw ve).below h (Below.refl _ w).drew
 obtain ⟨c0, _, _, _, _, c5, _⟩ := cut_cells h
 obtain ⟨hA, _⟩ := cut_arena hJd
 have L := load_any a w.drew hA
 have HI : Hid (CI k s) := hI
 have HJ : Hid ((cutV c k vw ve).J F s w.drew) := hJd
 have E : Hid (k.kf s a = k.st (k.br s (k.ld s a)).2 a (k.br s (k.ld s a)).1) := rfl
 have el : ld k.N k.y s.g s.ws a = k.ld s a := rfl
 rw [el] at L
 generalize k.kf s a = s2 at E ⊢
 generalize k.ld s a = x at E L
 clear h hI hJd hA el
 go_enter Tryz.func194, Tryz.ntmps194
 go_region_held3 (fun w' => w'.cell? ⟨c.pk, 0, none⟩ = some (.pointer (some ⟨c.pw, 0, none⟩)) /\ w'.cell? ⟨c.pw, 0, none⟩ = some (.pointer (some ⟨c.p, 0, none⟩))) (go_keep)
  (first
   | (go_at_call 116; refine L.mono ?_; clear L; rintro e w3 ⟨rfl, hb3⟩; have hJ3 := (cutV c k vw ve).below HJ.out hb3; obtain ⟨d0, _, _, _, _, d5, _⟩ := cut_cells hJ3; have HJ3 : Hid ((cutV c k vw ve).J F s w3 /\ Tn F w F w3) := ⟨hJ3, (Tn.of (Below.refl _ w).drew).below hb3⟩; clear hJ3 HJ)
   | (go_at_call 127; refine (bring_any HJ3.out.1 HI.out x).mono ?_; rintro e w4 ⟨rfl, hJ4, hT4⟩; obtain ⟨d0, _, _, _, _, d5, _⟩ := cut_cells hJ4; obtain ⟨hA4, hA5⟩ := cut_arena hJ4; have HJ4 : Hid (_ /\ _ /\ _) := ⟨HJ3.out.2.trans hT4, hA4, hA5⟩; clear hJ4 hT4 hA4 hA5)
   | (go_at_call 111; refine (store_any a (k.br s x).1 w4 HJ4.out.2.1).mono ?_; rintro e w5 ⟨rfl, hA5, hs5⟩; obtain ⟨hJ5, hT5⟩ := HJ4.out.2.2 w5 _ _ hA5 hs5; obtain ⟨d0, _, _, _, _, d5, _⟩ := cut_cells hJ5; have HJ5 : Hid ((cutV c k vw ve).J F s2 w5 /\ Tn F w F w5) := ⟨(by rw [E.out]; exact hJ5), HJ4.out.1.trans hT5⟩; clear hA5 hs5 hJ5 hT5))
 go_wp2_with fail
 go_end0
 exact ⟨rfl, HJ5.out.1, HJ5.out.2⟩
end
end Go.Proofs.YtnalfnlmaallmaaGreat

namespace Go.Proofs.YtnalfnlmaallmaaGreat
set_option maxRecDepth 100000
set_option maxHeartbeats 2000000
open Go.RowKit W Kp Stl
section
variable {c : Cc} {k : Ck} {F : Nat -> Prop} {s : Cs} {w : World}
theorem lk_12 {a : Int} (h : pk (k.ld s a) = 1 \/ pk (k.ld s a) = 2) : k.lk s a = k.kfs s a (pf (k.ld s a)).toNat := by unfold Ck.lk; rw [if_pos h]
theorem lk_3 {a : Int} (h : pk (k.ld s a) = 3) : k.lk s a = k.kf { s with wk := s.wk ++ [a] } (a + 2) := by unfold Ck.lk; rw [if_neg (by omega), if_pos h]
theorem lk_4 {a : Int} (h : pk (k.ld s a) = 4) : k.lk s a = { s with ep := s.ep ++ [a] } := by unfold Ck.lk; rw [if_neg (by omega), if_neg (by omega), if_pos h]
theorem lk_no {a : Int} (h1 : pk (k.ld s a) ≠ 1) (h2 : pk (k.ld s a) ≠ 2) (h3 : pk (k.ld s a) ≠ 3) (h4 : pk (k.ld s a) ≠ 4) : k.lk s a = s := by unfold Ck.lk; rw [if_neg (by omega), if_neg h3, if_neg h4]
theorem look_12 (h : (cutO c k).J F s w) (hI : CI k s) (a : Int) (a0 : (k.N : Int) <= a) (a1 : a <= 2000) (hk : pk (k.ld s a) = 1 \/ pk (k.ld s a) = 2) :
  Calls Tryz.prog 130 #[.pointer (some ⟨c.pk, 0, none⟩), .int .i64 a] w fun e w' => ∃ F', e = .returned (.int .i64 (1 + pf (k.ld s a))) /\ (cutO c k).J F' (k.lk s a) w' /\ Tn F w F' w' := by
 rw [lk_12 hk]
 obtain ⟨vw, ve, h⟩ := h
 obtain ⟨c0, _, _, _, _, c5, _⟩ := cut_cells h
 obtain ⟨hA, _⟩ := cut_arena h
 have L := thing_any a w hA
 have el : ld k.N k.y s.g s.ws a = k.ld s a := rfl
 rw [el] at L
 have hp := pf_bd (k.ld s a)
 have HI : Hid (CI k s) := hI
 have HJ : Hid ((cutV c k vw ve).J F s w) := h
 clear hA hI h el
 generalize pf (k.ld s a) = n at L hp ⊢
 obtain ⟨m, rfl⟩ : ∃ m : Nat, n = m := ⟨n.toNat, by omega⟩
 rw [Int.toNat_natCast]
 have hm : m <= 12 := by omega
 generalize pc (k.ld s a) = q at L
 have hN0 : (0 : Int) <= k.N := by omega
 rcases hk with hk | hk
 all_goals
  rw [hk] at L
  clear hk
  go_enter Tryz.func130, Tryz.ntmps130
  go_wp2_with fail
  refine L.mono ?_
  clear L
  rintro e w1 ⟨rfl, hb1⟩
  have hJ1 := (cutV c k vw ve).below HJ.out hb1
  have hT1 : Tn F w F w1 := Tn.of hb1
  clear HJ hb1 c0 c5
  go_wp2_with fail
  go_loopw [27] (fun iv wr => ∃ (j : Nat), j <= m /\ iv = .int .i64 j /\ (cutV c k vw ve).J F (k.kfs s a j) wr /\ Tn F w F wr) (fun iv _ => m - (intOf iv).toNat)
  case atStart => exact ⟨0, Nat.zero_le _, rfl, hJ1, hT1⟩
  case round =>
   clear hJ1 hT1
   obtain ⟨j, hj, rfl, hJ, hT⟩ := hrel
   by_cases hlt : j < m
   ·have HJ : Hid ((cutV c k vw ve).J F (k.kfs s a j) wr /\ Tn F w F wr) := ⟨hJ, hT⟩
    clear hJ hT
    go_wp2_with fail
    refine (keepField_any HJ.out.1 (HI.out.kfs a0 j).1 (a + 1 + j)).mono ?_
    rintro e w2 ⟨rfl, hJ2, hT2⟩
    have HJ2 : Hid ((cutV c k vw ve).J F (k.kfs s a (j + 1)) w2 /\ Tn F w F w2) := ⟨hJ2, HJ.out.2.trans hT2⟩
    clear hJ2 hT2 HJ
    go_wp2_with fail
    go_roundw
    case rel => exact ⟨j + 1, by omega, by go_num, HJ2.out.1, HJ2.out.2⟩
    case measure => simp [intOf]; omega
   ·obtain rfl : j = m := by omega
    go_wp2_with fail
    go_ret
    exact ⟨F, rfl, ⟨vw, ve, hJ⟩, hT⟩
theorem look_no (h : (cutO c k).J F s w) (a : Int) (h1 : pk (k.ld s a) ≠ 1) (h2 : pk (k.ld s a) ≠ 2) (h3 : pk (k.ld s a) ≠ 3) (h4 : pk (k.ld s a) ≠ 4) :
  Calls Tryz.prog 130 #[.pointer (some ⟨c.pk, 0, none⟩), .int .i64 a] w fun e w' => ∃ F', e = .returned (.int .i64 (1 + pf (k.ld s a))) /\ (cutO c k).J F' (k.lk s a) w' /\ Tn F w F' w' := by
 rw [lk_no h1 h2 h3 h4]
 obtain ⟨vw, ve, h⟩ := h
 obtain ⟨c0, _, _, _, _, c5, _⟩ := cut_cells h
 obtain ⟨hA, _⟩ := cut_arena h
 have L := thing_any a w hA
 have el : ld k.N k.y s.g s.ws a = k.ld s a := rfl
 rw [el] at L
 have hp := pf_bd (k.ld s a)
 have HJ : Hid ((cutV c k vw ve).J F s w) := h
 clear hA h el
 generalize pf (k.ld s a) = n at L hp ⊢
 generalize pc (k.ld s a) = q at L
 generalize pk (k.ld s a) = kd at L h1 h2 h3 h4
 have e1 : (kd == 1) = false := by simpa using h1
 have e2 : (kd == 2) = false := by simpa using h2
 have e3 : (kd == 3) = false := by simpa using h3
 have e4 : (kd == 4) = false := by simpa using h4
 go_enter Tryz.func130, Tryz.ntmps130
 go_wp2_with fail
 refine L.mono ?_
 clear L
 rintro e w1 ⟨rfl, hb1⟩
 go_wp2_with fail
 go_ret
 exact ⟨F, rfl, ⟨vw, ve, (cutV c k vw ve).below HJ.out hb1⟩, Tn.of hb1⟩
theorem look_4 (h : (cutO c k).J F s w) (a : Int) (hel : s.ep.length <= 10000) (h4 : pk (k.ld s a) = 4) :
  Calls Tryz.prog 130 #[.pointer (some ⟨c.pk, 0, none⟩), .int .i64 a] w fun e w' => ∃ F', e = .returned (.int .i64 (1 + pf (k.ld s a))) /\ (cutO c k).J F' (k.lk s a) w' /\ Tn F w F' w' := by
 rw [lk_4 h4]
 obtain ⟨i0, hi, hz0, hz1, hz2⟩ := info_parts infoInt
 obtain ⟨vw, ve, h⟩ := h
 obtain ⟨c0, _, _, _, _, c5, _⟩ := cut_cells h
 obtain ⟨hA, _⟩ := cut_arena h
 have L := thing_any a w hA
 have el : ld k.N k.y s.g s.ws a = k.ld s a := rfl
 rw [el] at L
 have hp := pf_bd (k.ld s a)
 have HJ : Hid ((cutV c k vw ve).J F s w) := h
 clear hA h el
 rw [h4] at L
 generalize pf (k.ld s a) = n at L hp ⊢
 generalize pc (k.ld s a) = q at L
 clear h4
 go_enter Tryz.func130, Tryz.ntmps130
 go_wp2_with fail
 refine L.mono ?_
 clear L
 rintro e w1 ⟨rfl, hb1⟩
 have hJ1 := (cutV c k vw ve).below HJ.out hb1
 obtain ⟨d0, _, _, d3, d4, d5, _, _, _, dz, _, er, _, lk, _⟩ := cut_cells hJ1
 obtain ⟨rne, _⟩ := cut_rne hJ1 (Or.inr d4)
 obtain ⟨ad, cap, rfl⟩ := row_slice er
 have z4 := dz 4
 have HJ1 : Hid ((cutV c k vw (.slice ad s.ep.length cap)).J F s w1 /\ Tn F w F w1) := ⟨hJ1, Tn.of hb1⟩
 clear hJ1 c0 c5 hb1 HJ dz
 go_wp2_with (at_builtin; refine wpList_append_own_at _ rfl _ _ 81 rfl 0 3 i0 (.int .i64 0) 1 8 Tryz.underlying81 hi hz0 hz1 hz2 rfl (by decide) (.slice ad s.ep.length cap) s.ep.length (s.ep.map (Value.int .i64)) rfl (row_alloc er _) ⟨w1.heap.size, 0, none⟩ 1 1 [.int .i64 a] rfl rfl ?_ ?_ ?_ ?_ ?_ ?_; (intro j u hj; match j, hj with | 0, hj => (simp at hj; subst hj; simp [Addr.add])); (intro u hu; simp at hu; subst hu; rfl); (unfold maxLen; omega); (first | omega | simp); (first | omega | (simp; done) | (simp; omega)); intro v' w4 hown4 hgrow4 _ hloc4; obtain ⟨b4, cap4, ev4⟩ := row_shape hown4 (Nat.succ_pos _); subst ev4; have kb := (hgrow4.block c.pk (by simp; omega) rne).trans (Below.heap_alloc _ _ _ lk); have g4 := (World.cell?_of_block (a := ⟨c.pk, 4, none⟩) kb).trans d4; have f4 := (World.frozen?_of_block (a := ⟨c.pk, 4, none⟩) kb).trans z4)
 go_ret
 obtain ⟨F', hJ', hT'⟩ := cut_ephems HJ1.out.1 (((Fr.refl _ w1).alloc _).grown hgrow4 (fun b e => Or.inl e.symm)) (v1 := .slice (some ⟨b4, 0, none⟩) (s.ep.length + 1) cap4) (l := s.ep ++ [a]) (by simpa using hown4) (fun b e => by
  have hbl : some b4 = (Value.slice ad s.ep.length cap).ownBlock \/ b4 = w1.heap.size + 1 := hloc4.imp id (fun e => by simpa [Value.ownBlock] using e)
  simp [Value.ownBlock] at e
  subst e
  exact hbl.imp id (fun e => by omega))
 exact ⟨F', rfl, ⟨_, _, hJ'⟩, HJ1.out.2.trans hT'⟩
theorem look_3 (h : (cutO c k).J F s w) (hI : CI k s) (a : Int) (a0 : (k.N : Int) <= a) (a1 : a <= 2000) (hel : s.wk.length <= 10000) (h4 : pk (k.ld s a) = 3) :
  Calls Tryz.prog 130 #[.pointer (some ⟨c.pk, 0, none⟩), .int .i64 a] w fun e w' => ∃ F', e = .returned (.int .i64 (1 + pf (k.ld s a))) /\ (cutO c k).J F' (k.lk s a) w' /\ Tn F w F' w' := by
 rw [lk_3 h4]
 obtain ⟨i0, hi, hz0, hz1, hz2⟩ := info_parts infoInt
 obtain ⟨vw, ve, h⟩ := h
 obtain ⟨c0, _, _, _, _, c5, _⟩ := cut_cells h
 obtain ⟨hA, _⟩ := cut_arena h
 have L := thing_any a w hA
 have el : ld k.N k.y s.g s.ws a = k.ld s a := rfl
 rw [el] at L
 have hp := pf_bd (k.ld s a)
 have HJ : Hid ((cutV c k vw ve).J F s w) := h
 have HI : Hid (CI k { s with wk := s.wk ++ [a] }) := hI.addw a0 a1
 clear hA h el hI
 rw [h4] at L
 generalize pf (k.ld s a) = n at L hp ⊢
 generalize pc (k.ld s a) = q at L
 clear h4
 have hN0 : (0 : Int) <= k.N := by omega
 go_enter Tryz.func130, Tryz.ntmps130
 go_wp2_with fail
 refine L.mono ?_
 clear L
 rintro e w1 ⟨rfl, hb1⟩
 have hJ1 := (cutV c k vw ve).below HJ.out hb1
 obtain ⟨d0, _, _, d3, d4, d5, _, _, _, dz, er, _, _, lk, _⟩ := cut_cells hJ1
 obtain ⟨rne, _⟩ := cut_rne hJ1 (Or.inl d3)
 obtain ⟨ad, cap, rfl⟩ := row_slice er
 have z4 := dz 3
 have HJ1 : Hid ((cutV c k (.slice ad s.wk.length cap) ve).J F s w1 /\ Tn F w F w1) := ⟨hJ1, Tn.of hb1⟩
 clear hJ1 c0 c5 hb1 HJ dz d4
 go_wp2_with (at_builtin; refine wpList_append_own_at _ rfl _ _ 81 rfl 0 3 i0 (.int .i64 0) 1 8 Tryz.underlying81 hi hz0 hz1 hz2 rfl (by decide) (.slice ad s.wk.length cap) s.wk.length (s.wk.map (Value.int .i64)) rfl (row_alloc er _) ⟨w1.heap.size, 0, none⟩ 1 1 [.int .i64 a] rfl rfl ?_ ?_ ?_ ?_ ?_ ?_; (intro j u hj; match j, hj with | 0, hj => (simp at hj; subst hj; simp [Addr.add])); (intro u hu; simp at hu; subst hu; rfl); (unfold maxLen; omega); (first | omega | simp); (first | omega | (simp; done) | (simp; omega)); intro v' w4 hown4 hgrow4 _ hloc4; obtain ⟨b4, cap4, ev4⟩ := row_shape hown4 (Nat.succ_pos _); subst ev4; have kb := (hgrow4.block c.pk (by simp; omega) rne).trans (Below.heap_alloc _ _ _ lk); have g4 := (World.cell?_of_block (a := ⟨c.pk, 3, none⟩) kb).trans d3; have f4 := (World.frozen?_of_block (a := ⟨c.pk, 3, none⟩) kb).trans z4)
 obtain ⟨F', hJ', hT'⟩ := cut_weaks HJ1.out.1 (((Fr.refl _ w1).alloc _).grown hgrow4 (fun b e => Or.inl e.symm)) (v1 := .slice (some ⟨b4, 0, none⟩) (s.wk.length + 1) cap4) (l := s.wk ++ [a]) (by simpa using hown4) (fun b e => by
  have hbl : some b4 = (Value.slice ad s.wk.length cap).ownBlock \/ b4 = w1.heap.size + 1 := hloc4.imp id (fun e => by simpa [Value.ownBlock] using e)
  simp [Value.ownBlock] at e
  subst e
  exact hbl.imp id (fun e => by omega))
 have HJ' : Hid (_ /\ _) := ⟨hJ', HJ1.out.2.trans hT'⟩
 refine (keepField_any HJ'.out.1 HI.out (a + 2)).mono ?_
 clear hJ' hT' g4 f4 kb hown4 hgrow4 hloc4 d0 d3 d5 er
 rintro e w5 ⟨rfl, hJ5, hT5⟩
 have HJ5 : Hid (_ /\ _) := ⟨hJ5, HJ'.out.2.trans hT5⟩
 clear hJ5 hT5
 go_wp2_with fail
 go_ret
 exact ⟨F', rfl, ⟨_, _, HJ5.out.1⟩, HJ5.out.2⟩
theorem look_any (h : (cutO c k).J F s w) (hI : CI k s) (a : Int) (a0 : (k.N : Int) <= a) (a1 : a <= 2000) (hwl : s.wk.length <= 10000) (hel : s.ep.length <= 10000) :
  Calls Tryz.prog 130 #[.pointer (some ⟨c.pk, 0, none⟩), .int .i64 a] w fun e w' => ∃ F', e = .returned (.int .i64 (1 + pf (k.ld s a))) /\ (cutO c k).J F' (k.lk s a) w' /\ Tn F w F' w' := by
 by_cases h1 : pk (k.ld s a) = 1
 ·exact look_12 h hI a a0 a1 (Or.inl h1)
 by_cases h2 : pk (k.ld s a) = 2
 ·exact look_12 h hI a a0 a1 (Or.inr h2)
 by_cases h3 : pk (k.ld s a) = 3
 ·exact look_3 h hI a a0 a1 hwl h3
 by_cases h4 : pk (k.ld s a) = 4
 ·exact look_4 h a hel h4
 exact look_no h a h1 h2 h3 h4
def nxOf (w : World) (p : Nat) : Int := match w.cell? ⟨p, 2, none⟩ with
 | some (.int _ v) => v
 | _ => 0
theorem nxOf_eq {p : Nat} {v : Int} (h : w.cell? ⟨p, 2, none⟩ = some (.int .i64 v)) : nxOf w p = v := by unfold nxOf; rw [h]
theorem brought_any (h : (cutO c k).J F s w) (hI : CI k s) (hB : CB k s) :
  Calls Tryz.prog 131 #[.pointer (some ⟨c.pk, 0, none⟩)] w fun e w' => ∃ F', e = .returned (.tuple #[]) /\ (cutO c k).J F' (k.lb (k.O + 1) s) w' /\ Tn F w F' w' := by
 have HI : Hid (CI k s /\ CB k s) := ⟨hI, hB⟩
 have n0 := hI.hO
 have n1 := hI.hN'
 have n2 := hI.nx0
 clear hI hB
 go_enter Tryz.func131, Tryz.ntmps131
 go_wp2_with fail
 go_loopw [] (fun wr => ∃ (n : Nat) (F1 : Nat -> Prop) (s1 : Cs), (cutO c k).J F1 s1 wr /\ Hid (CI k s1 /\ CB k s1) /\ Tn F w F1 wr /\ Hid (k.lb n s1 = k.lb (k.O + 1) s) /\ (k.N : Int) + k.O - s1.nx < n) (fun wr => (2000 - nxOf wr c.pk).toNat)
 case atStart => exact ⟨k.O + 1, F, s, h, HI, Tn.refl _ _, rfl, by omega⟩
 case round =>
  obtain ⟨n, F1, s1, ⟨vw, ve, hJ⟩, HI1, hT, HE, hn⟩ := hrel
  obtain ⟨c0, _, c2, _, _, c5, _, _, _, cz, _⟩ := cut_cells hJ
  have hnx := nxOf_eq c2
  have z2 := cz 2
  obtain ⟨hA, _⟩ := cut_arena ((cutV c k vw ve).below hJ (Below.refl _ wr).drew)
  have L := old_any s1.nx wr.drew hA
  have HJ : Hid ((cutV c k vw ve).J F1 s1 wr /\ Tn F w F1 wr) := ⟨hJ, hT⟩
  clear hJ hT hA cz
  go_wp2_with fail
  go_region_held3 (fun w' => w'.cell? ⟨c.pk, 0, none⟩ = some (.pointer (some ⟨c.pw, 0, none⟩)) /\ w'.cell? ⟨c.pk, 2, none⟩ = some (.int .i64 s1.nx) /\ w'.cell? ⟨c.pw, 0, none⟩ = some (.pointer (some ⟨c.p, 0, none⟩))) (go_keep)
   (first
    | (go_at_call 114; refine L.mono ?_; clear L; rintro e w3 ⟨rfl, hb3⟩; have hJ3 := (cutV c k vw ve).below ((cutV c k vw ve).below HJ.out.1 (Below.refl _ wr).drew) hb3; obtain ⟨d0, _, d2, _, _, d5, _, _, _, dz, _⟩ := cut_cells hJ3; have y2 := dz 2; have HJ3 : Hid ((cutO c k).J F1 s1 w3 /\ Tn F w F1 w3) := ⟨⟨vw, ve, hJ3⟩, (HJ.out.2.below (Below.refl _ wr).drew).below hb3⟩; clear hJ3 HJ dz c0 c2 c5 z2))
  cases hb : hB k.N s1.g s1.nx
  ·go_wp2_with fail
   go_end0
   have e : k.lb n s1 = s1 := by
    cases n with
    | zero => rfl
    | succ n => unfold Ck.lb; rw [hb]; rfl
   rw [<- HE.out, e]
   exact ⟨F1, rfl, HJ3.out.1, HJ3.out.2⟩
  ·have b1 := hB_yes hb
   have b2 := HI1.out.1.hg
   have b3 := HI1.out.1.nx0
   have b4 := HI1.out.2.wk
   have b5 := HI1.out.2.ep
   obtain ⟨n, rfl⟩ : ∃ m, n = m + 1 := ⟨n - 1, by omega⟩
   have hp := pf_bd (k.ld s1 s1.nx)
   have HE2 : Hid (k.lb n { k.lk s1 s1.nx with nx := s1.nx + (1 + pf (k.ld s1 s1.nx)) } = k.lb (k.O + 1) s) := by
    have := HE.out
    unfold Ck.lb at this
    rw [if_pos hb] at this
    exact this
   have HI2 : Hid (CI k { k.lk s1 s1.nx with nx := s1.nx + (1 + pf (k.ld s1 s1.nx)) } /\ CB k { k.lk s1 s1.nx with nx := s1.nx + (1 + pf (k.ld s1 s1.nx)) }) := ⟨(HI1.out.1.lb1 hb).1, CB.lb1 HI1.out.1 hb HI1.out.2⟩
   have HL := (HI1.out.1.lk (a := s1.nx) b3 (by omega)).2.nx
   have L := look_any ((cutO c k).below HJ3.out.1 (Below.refl _ w3).drew) HI1.out.1 s1.nx b3 (by omega) (by omega) (by omega)
   generalize pf (k.ld s1 s1.nx) = m at *
   generalize k.lk s1 s1.nx = s2 at *
   clear hb b4 b5 HE
   have hwr : IntKind.i64.wrap (s1.nx + (1 + m)) = s1.nx + (1 + m) := by rw [IntKind.wrap_i64]; omega
   go_wp2_with fail
   go_region_with (go_at_call 130; refine L.mono ?_; rintro e w4 ⟨F2, rfl, ⟨vw2, ve2, hJ4⟩, hT4⟩; obtain ⟨x0, _, x2, _, _, x5, _, _, _, xz, _⟩ := cut_cells hJ4; rw [HL] at x2; have v2 := xz 2; have HJ4 : Hid ((cutV c k vw2 ve2).J F2 s2 w4 /\ Tn F w F2 w4) := ⟨hJ4, (HJ3.out.2.below (Below.refl _ w3).drew).trans hT4⟩; clear hJ4 hT4 xz)
   all_goals
    obtain ⟨hJ5, hT5⟩ := cut_next HJ4.out.1 (s1.nx + (1 + m))
    obtain ⟨_, _, t2, _⟩ := cut_cells hJ5
    have hnx2 := nxOf_eq t2
    have HJ5 : Hid (_ /\ _) := ⟨hJ5, HJ4.out.2.trans hT5⟩
    clear hJ5 hT5 HJ4 x0 x2 x5 v2 L d0 d2 d5 y2 HJ3
    go_wp2_with fail
    go_roundw
    case rel => exact ⟨n, F2, _, ⟨_, _, HJ5.out.1⟩, HI2, HJ5.out.2, HE2, by show (k.N : Int) + k.O - (s1.nx + (1 + m)) < n; omega⟩
    case measure =>
     rw [hnx2, hnx]
     show (2000 - (s1.nx + (1 + m))).toNat < _
     omega
end
end Go.Proofs.YtnalfnlmaallmaaGreat

namespace Go.Proofs.YtnalfnlmaallmaaGreat
set_option maxRecDepth 100000
set_option maxHeartbeats 2000000
open Go.RowKit W Kp Stl
section
variable {c : Cc} {k : Ck} {F : Nat -> Prop} {s : Cs} {w : World}
theorem keepValues_any (h : (cutO c k).J F s w) (hI : CI k s) (hB : CB k s) :
  Calls Tryz.prog 132 #[.pointer (some ⟨c.pk, 0, none⟩)] w fun e w' => ∃ F', e = .returned (.bool (k.kv s).1) /\ (cutO c k).J F' (k.kv s).2 w' /\ Tn F w F' w' := by
 obtain ⟨i0, hi, hz0, hz1, hz2⟩ := info_parts infoInt
 obtain ⟨vw, ve, h⟩ := h
 obtain ⟨c0, _, _, _, c4, c5, _, _, _, cz, _, er, _, lk, _⟩ := cut_cells h
 obtain ⟨rne, _⟩ := cut_rne h (Or.inr c4)
 obtain ⟨ad, cap, rfl⟩ := row_slice er
 have HI : Hid (CI k s) := hI
 have HJ : Hid ((cutV c k vw (.slice ad s.ep.length cap)).J F s w) := h
 have hel := hB.ep
 have hep := hI.ep0
 have HP : Hid (∀ a ∈ s.ep, (k.N : Int) <= a /\ a <= 2000) := hep
 have EK : Hid (k.kv s = (decide ((k.kvf s s.ep).1.length < s.ep.length), { (k.kvf s s.ep).2 with ep := (k.kvf s s.ep).1 })) := rfl
 have hN0 : (0 : Int) <= k.N := by omega
 clear hI hB hep
 go_enter Tryz.func132, Tryz.ntmps132
 go_wp2_with fail
 go_loopw [3, 12] (fun vr iv wr => ∃ (j : Nat) (R : List Int) (s1 : Cs) (ar : Option Addr) (cr : Nat) (F1 : Nat -> Prop), j <= s.ep.length /\ iv = .int .i64 j /\ Hid (k.kvf s (s.ep.take j) = (R, s1)) /\ vr = .slice ar R.length cr /\ wr.ownsRow w.heap.size 3 1 (.slice ar R.length cr) R.length (R.map (Value.int .i64)) /\ (cutV c k vw (.slice ad s.ep.length cap)).J F1 s1 wr /\ Tn F w F1 wr /\ Hid (∀ b, some b = (Value.slice ar R.length cr).ownBlock -> ¬ F1 b) /\ Hid (CI k s1 /\ Cq k s s1)) (fun _ iv _ => s.ep.length - (intOf iv).toNat)
 case atStart => exact ⟨0, [], s, none, 0, F, Nat.zero_le _, rfl, rfl, rfl, World.ownsRow_nil _ _ _ _, h, Tn.refl _ _, fun b e => by simp [Value.ownBlock] at e, ⟨HI.out, Cq.refl _ _⟩⟩
 case round =>
  obtain ⟨j, R, s1, ar, cr, F1, hj, rfl, HE, rfl, hR, hJ, hT, HR, HI1⟩ := hrel
  obtain ⟨d0, _, _, _, d4, d5, _, _, _, dz, _, er1, _, lk1, _⟩ := cut_cells hJ
  have z4 := dz 4
  have eep := HI1.out.2.ep
  rw [eep] at er1
  have hRl : R.length <= 10000 := by
   have h1 := (HI.out.kvf (s.ep.take j) (fun a ha => (HP.out a (List.mem_of_mem_take ha)).1)).2.2.1
   rw [HE.out] at h1
   simp at h1
   omega
  by_cases hlt : j < s.ep.length
  ·obtain ⟨b0, o0, e0, hb0, hc⟩ := row_ints er1 (by omega)
   have x1 := hc j hlt
   subst e0
   have hin : s.ep.getD j 0 ∈ s.ep := by rw [List.getD_eq_getElem?_getD, List.getElem?_eq_getElem hlt]; exact List.getElem_mem hlt
   have hbd := HP.out _ hin
   have HS : Hid (k.kvf s (s.ep.take (j + 1)) = k.kv1 (R, s1) (s.ep.getD j 0)) := by
    show _ = _
    rw [take_snoc s.ep j hlt 0]
    unfold Ck.kvf
    rw [List.foldl_append]
    have := HE.out
    unfold Ck.kvf at this
    rw [this]
    rfl
   generalize s.ep.getD j 0 = a at x1 hbd HS
   obtain ⟨hA, _⟩ := cut_arena hJ
   have L := load_any (a + 1) wr hA
   have el : ld k.N k.y s1.g s1.ws (a + 1) = k.ld s1 (a + 1) := rfl
   rw [el] at L
   have HJ1 : Hid ((cutV c k vw (.slice (some ⟨b0, o0, none⟩) s.ep.length cap)).J F1 s1 wr /\ Tn F w F1 wr) := ⟨hJ, hT⟩
   have hsz := hT.fr.size
   have HRl : Hid (∀ b, some b = (Value.slice ar R.length cr).ownBlock -> b < wr.heap.size) := fun b e => (row_lt hR b e).2
   clear hc hin hJ hT hA el dz
   cases hls : k.ls s1 (k.ld s1 (a + 1))
   ·have HS2 : Hid (k.kvf s (s.ep.take (j + 1)) = (R, k.kf (k.kf s1 (a + 1)) (a + 2))) := by
     show _ = _
     rw [HS.out]
     unfold Ck.kv1
     rw [hls]
     rfl
    generalize k.ld s1 (a + 1) = x at L hls
    go_wp2_with fail
    refine L.mono ?_
    clear L
    rintro e w1 ⟨rfl, hb1⟩
    have P := lost_any ((cutV c k vw (.slice (some ⟨b0, o0, none⟩) s.ep.length cap)).below HJ1.out.1 hb1) x
    rw [hls] at P
    clear x1 d0 d5 d4 z4 er1
    go_wp2_with fail
    refine P.mono ?_
    clear P
    rintro e w2 ⟨rfl, hb2⟩
    have hb := hb1.trans (hb2.mono hb1.size)
    clear hb1 hb2
    go_wp2_with fail
    refine (keepField_any ((cutV c k vw (.slice (some ⟨b0, o0, none⟩) s.ep.length cap)).below HJ1.out.1 hb) HI1.out.1 (a + 1)).mono ?_
    rintro e w3 ⟨rfl, hJ3, hT3⟩
    obtain ⟨i1, i2⟩ := HI1.out.1.kf (a := a + 1) (by omega)
    have HJ3 : Hid (_ /\ _ /\ _ /\ _) := ⟨hJ3, (Tn.of hb).trans hT3, i1, i2⟩
    clear hJ3 hT3 i1 i2 hb
    go_wp2_with fail
    refine (keepField_any HJ3.out.1 HJ3.out.2.2.1 (a + 2)).mono ?_
    rintro e w4 ⟨rfl, hJ4, hT4⟩
    obtain ⟨i1, i2⟩ := HJ3.out.2.2.1.kf (a := a + 2) (by omega)
    have hT5 := HJ3.out.2.1.trans hT4
    have HJ4 : Hid (_ /\ _ /\ _ /\ _) := ⟨hJ4, HJ1.out.2.trans hT5, i1, (HI1.out.2.trans HJ3.out.2.2.2).trans i2⟩
    have hR4 := row_fr hR hT5.fr (fun b e => HR.out b e)
    clear hJ4 hT4 i1 i2 hT5 hR HJ3
    go_wp2_with fail
    go_roundw
    case rel => exact ⟨j + 1, R, _, ar, cr, F1, by omega, by go_num, HS2, rfl, hR4, HJ4.out.1, HJ4.out.2.1, HR, ⟨HJ4.out.2.2.1, HJ4.out.2.2.2⟩⟩
    case measure => simp [intOf]; omega
   ·have HS2 : Hid (k.kvf s (s.ep.take (j + 1)) = (R ++ [a], s1)) := by
     show _ = _
     rw [HS.out]
     unfold Ck.kv1
     rw [if_pos hls]
    generalize k.ld s1 (a + 1) = x at L hls
    go_wp2_with fail
    refine L.mono ?_
    clear L
    rintro e w1 ⟨rfl, hb1⟩
    have P := lost_any ((cutV c k vw (.slice (some ⟨b0, o0, none⟩) s.ep.length cap)).below HJ1.out.1 hb1) x
    rw [hls] at P
    clear x1 d0 d5 d4 z4 er1
    go_wp2_with fail
    refine P.mono ?_
    clear P
    rintro e w2 ⟨rfl, hb2⟩
    have hb := hb1.trans (hb2.mono hb1.size)
    have hR2 := row_keep hR (fun b e => hb.block b (HRl.out b e))
    have hs2 := hb.size
    clear hb1 hb2
    go_wp2_with (at_builtin; refine wpList_append_own_at _ rfl _ _ 81 rfl w.heap.size 3 i0 (.int .i64 0) 1 8 Tryz.underlying81 hi hz0 hz1 hz2 rfl (by decide) (.slice ar R.length cr) R.length (R.map (Value.int .i64)) rfl (row_alloc hR2 _) ⟨w2.heap.size, 0, none⟩ 1 1 [.int .i64 a] rfl rfl ?_ ?_ ?_ ?_ ?_ ?_; (intro j u hj; match j, hj with | 0, hj => (simp at hj; subst hj; simp [Addr.add])); (intro u hu; simp at hu; subst hu; rfl); (unfold maxLen; omega); omega; (simp; omega); intro v' w4 hown4 hgrow4 _ hloc4; obtain ⟨b4, cap4, ev4⟩ := row_shape hown4 (Nat.succ_pos _); subst ev4)
    have hR4 : w4.ownsRow w.heap.size 3 1 (.slice (some ⟨b4, 0, none⟩) (R ++ [a]).length cap4) (R ++ [a]).length ((R ++ [a]).map (Value.int .i64)) := by simpa using hown4
    have hJ2 := (cutV c k vw (.slice (some ⟨b0, o0, none⟩) s.ep.length cap)).below HJ1.out.1 hb
    have hJ4 := grow_ob (cutV c k vw (.slice (some ⟨b0, o0, none⟩) s.ep.length cap)) hJ2 hgrow4 (fun b e => HR.out b e)
    have hT4 : Tn F w F1 w4 := ⟨((HJ1.out.2.below hb).fr.alloc _).grown hgrow4 (fun b e => Or.inr (row_lt hR2 b e.symm).1), HJ1.out.2.sub⟩
    have HR4 : Hid (∀ b, some b = (Value.slice (some ⟨b4, 0, none⟩) (R ++ [a]).length cap4).ownBlock -> ¬ F1 b) := fun b e hF => by
     have hbl : some b4 = (Value.slice ar R.length cr).ownBlock \/ b4 = w2.heap.size + 1 := hloc4.imp id (fun e => by simpa [Value.ownBlock] using e)
     simp [Value.ownBlock] at e
     subst e
     rcases hbl with e | e
     ·exact HR.out _ e hF
     ·have := (cutV c k vw (.slice (some ⟨b0, o0, none⟩) s.ep.length cap)).lt hJ2 _ hF
      omega
    clear hJ2 hown4 hgrow4 hloc4 hR2 hR hb
    go_wp2_with fail
    go_roundw
    case rel => exact ⟨j + 1, R ++ [a], s1, some ⟨b4, 0, none⟩, cap4, F1, by omega, by go_num, HS2, by simp, hR4, hJ4, hT4, HR4, HI1⟩
    case measure => simp [intOf]; omega
  ·obtain rfl : j = s.ep.length := by omega
   rw [List.take_length] at HE
   obtain ⟨hJ5, hf5⟩ := cut_ephems0 hJ (v1 := .slice ar R.length cr) (l := R) (Fr.refl _ wr) (row_base hR (fun _ _ => Nat.zero_le _)) (fun b e => Or.inr (HR.out b e))
   have HJ5 : Hid (_ /\ _) := ⟨hJ5, hT.fr.trans hf5 hT.sub⟩
   have HRs : Hid (∀ b, some b = (Value.slice ar R.length cr).ownBlock -> w.heap.size <= b) := fun b e => (row_lt hR b e).1
   have HTs : Hid (∀ b, F1 b -> F b \/ w.heap.size <= b) := hT.sub
   have E2 : Hid ((k.kv s).1 = decide (R.length < s.ep.length) /\ (k.kv s).2 = { s1 with ep := R }) := by
    have h1 := EK.out
    rw [HE.out] at h1
    rw [h1]
    exact ⟨rfl, rfl⟩
   clear hJ5 hf5 hJ hT hR er1 HE EK dz
   by_cases hll : R.length < s.ep.length
   ·go_wp2_with fail
    go_ret
    rw [E2.out.1, E2.out.2]
    exact ⟨_, by simp [hll], ⟨_, _, HJ5.out.1⟩, ⟨HJ5.out.2, fun b hb => hb.elim (HTs.out b) (fun e => Or.inr (HRs.out b e))⟩⟩
   ·go_wp2_with fail
    go_ret
    rw [E2.out.1, E2.out.2]
    exact ⟨_, by simp [hll], ⟨_, _, HJ5.out.1⟩, ⟨HJ5.out.2, fun b hb => hb.elim (HTs.out b) (fun e => Or.inr (HRs.out b e))⟩⟩
end
end Go.Proofs.YtnalfnlmaallmaaGreat

namespace Go.Proofs.YtnalfnlmaallmaaGreat
open Go.RowKit W Kp Stl
theorem row_set {w : World} {base size n g cap : Nat} {e : TypeId} {xs : List Value} (h : w.ownsRow base e size (.slice (some ⟨g, 0, none⟩) n cap) n xs) (i : Nat) (u : Value) : (w.setCell ⟨g, i, none⟩ u).ownsRow base e size (.slice (some ⟨g, 0, none⟩) n cap) n (xs.set i u) := by
 refine ⟨by rw [List.length_set]; exact h.1, ?_⟩
 rcases h.2 with ⟨hv, _⟩ | ⟨g', cap', cur, hv, hb, hg, h1, h2, h3, h4⟩
 ·simp at hv
 ·simp at hv
  obtain ⟨rfl, rfl⟩ := hv
  refine Or.inr ⟨g, cap, cur.setIfInBounds i u, rfl, hb, ?_, h1, h2, by rw [Array.size_setIfInBounds]; exact h3, ?_⟩
  ·simp only [World.setCell, Array.getElem?_modify, if_true, hg, Option.map_some]
   rfl
  ·rw [Array.toList_setIfInBounds, List.take_set, h4]
theorem ev_set : ∀ (l : List En) (i : Nat) (g z : Int), ev (l.set i (g, z)) = ((ev l).set (i * 2) (.int .i64 g)).set (i * 2 + 1) (.int .i64 z)
 | [], _, _, _ => rfl
 | e :: l, 0, g, z => by simp [ev]
 | e :: l, i + 1, g, z => by
  have ih := ev_set l i g z
  have e1 : ev (e :: l) = .int .i64 e.1 :: .int .i64 e.2 :: ev l := by simp [ev]
  have e2 : ev ((e :: l).set (i + 1) (g, z)) = .int .i64 e.1 :: .int .i64 e.2 :: ev (l.set i (g, z)) := by simp [ev]
  rw [e1, e2, ih, show (i + 1) * 2 = i * 2 + 1 + 1 by omega]
  simp
theorem sets_mk {α : Type} (o : Ob α) (p : Nat) (vr : Value) : SdSets (mkSd o p vr) where
  setv := by
    rintro F s w ⟨F0, ad, cap, h1, h2, h3, h4, h5, h6, h7, h8⟩ w1 q a1 c1 hb hown
    have h5 : F p := h5
    have lp := lt_of_some h2
    have kk : ∀ k, k ≠ p -> (w1.setCell ⟨p, 1, none⟩ (.slice a1 q.length c1)).heap[k]? = w1.heap[k]? := fun k hk => Below.heap_setCell _ _ _ _ hk
    have hs : (w1.setCell ⟨p, 1, none⟩ (.slice a1 q.length c1)).heap.size = w1.heap.size := by simp [World.setCell]
    have hbs := hb.size
    refine ⟨F0, a1, c1, o.keep (o.below h1 hb) (by show w1.heap.size <= (w1.setCell ⟨p, 1, none⟩ (.slice a1 q.length c1)).heap.size; rw [hs]; exact Nat.le_refl _) (fun k h => kk k (fun e => h6 (by rw [<- e]; exact h))), ?_, row_base (row_keep hown (fun k e => kk k (by have := (row_lt hown k e).1; omega))) (fun _ _ => Nat.zero_le _), fun k h => Or.inl (h4 k h), Or.inl h5, h6, fun k e => ?_, fun k h => ?_⟩
    · have h2' := (hb.block p lp).trans h2
      show (w1.setCell ⟨p, 1, none⟩ (.slice a1 q.length c1)).heap[p]? = _
      simp only [World.setCell, Array.getElem?_modify, if_true, h2', Option.map_some]
      simp
      rfl
    · exact ⟨Or.inr e, fun h => by have h9 := h8 k (h4 k h); have := (row_lt hown k e).1; omega⟩
    · show k < (w1.setCell ⟨p, 1, none⟩ (.slice a1 q.length c1)).heap.size
      rw [hs]
      rcases h with h | h
      · have := h8 k h; omega
      · exact (row_lt hown k h).2
  seti := by
    rintro F s w ⟨F0, ad', cap', h1, h2, h3, h4, h5, h6, h7, h8⟩ ad cap hp i hi g z
    have hp : w.heap[p]? = some (.cells #[vr, .slice ad s.2.length cap] 153 (0, 0)) := hp
    have hi : i < s.2.length := hi
    have he := h2.symm.trans hp
    simp at he
    obtain ⟨rfl, rfl⟩ := he
    obtain ⟨b, rfl⟩ : ∃ b, ad' = some ⟨b, 0, none⟩ := by
      rcases h3.2 with ⟨_, h0⟩ | ⟨g', cap'', cur, hv, _⟩
      · omega
      · simp at hv
        exact ⟨g', hv.1⟩
    obtain ⟨cur, hcur⟩ := row_type h3 b rfl
    have hbp : b ≠ p := fun e => by rw [e, h2] at hcur; simp at hcur
    have kk : ∀ (u v : Value) k, k ≠ b -> ((w.setCell ⟨b, 0 + i * 2, none⟩ u).setCell ⟨b, 0 + i * 2 + 1, none⟩ v).heap[k]? = w.heap[k]? := fun u v k hk => (Below.heap_setCell _ _ _ _ hk).trans (Below.heap_setCell _ _ _ _ hk)
    have hs : ∀ (u v : Value), ((w.setCell ⟨b, 0 + i * 2, none⟩ u).setCell ⟨b, 0 + i * 2 + 1, none⟩ v).heap.size = w.heap.size := fun u v => by simp [World.setCell]
    refine ⟨b, 0, rfl, (h7 b rfl).1, hbp, by simp [World.frozen?, hcur], by simp [World.frozen?, hcur], F0, some ⟨b, 0, none⟩, cap', o.keep h1 (by rw [hs]; exact Nat.le_refl _) (fun k h => kk _ _ k (fun e => (h7 b rfl).2 (by rw [<- e]; exact h))), ?_, ?_, h4, h5, h6, ?_, ?_⟩
    · show ((w.setCell ⟨b, 0 + i * 2, none⟩ (.int .i64 g)).setCell ⟨b, 0 + i * 2 + 1, none⟩ (.int .i64 z)).heap[p]? = some (.cells #[vr, .slice (some ⟨b, 0, none⟩) (s.2.set i (g, z)).length cap'] 153 (0, 0))
      rw [List.length_set]
      exact (kk _ _ p (Ne.symm hbp)).trans h2
    · show ((w.setCell ⟨b, 0 + i * 2, none⟩ (.int .i64 g)).setCell ⟨b, 0 + i * 2 + 1, none⟩ (.int .i64 z)).ownsRow 0 106 2 (.slice (some ⟨b, 0, none⟩) (s.2.set i (g, z)).length cap') (s.2.set i (g, z)).length (ev (s.2.set i (g, z)))
      rw [List.length_set, ev_set, Nat.zero_add]
      exact row_set (row_set h3 (i * 2) _) (i * 2 + 1) _
    · intro k e
      have e : some k = (Value.slice (some ⟨b, 0, none⟩) (s.2.set i (g, z)).length cap').ownBlock := e
      exact h7 k e
    · intro k h
      rw [hs]
      exact h8 k h
end Go.Proofs.YtnalfnlmaallmaaGreat
