/- Joined: Mj6, Mj7, Mj8, Mj9, Mj10. -/
import Derived.Test.YtalgochmjddodaaGreatJ19
import Derived.Deep.LoopGhost
import Derived.Test.YtalgochmjddodaaGreatJ12
namespace Go.Proofs.YtalgochmjddodaaGreat
set_option maxRecDepth 100000
set_option maxHeartbeats 2000000
open Go.RowKit W Kp Stl
section
variable {c : Jc} {k : Jk} {F : Nat -> Prop} {s : Js} {w : World}
theorem lookJ_12 (h : (mjO c k).J F s w) (hI : JI k s) (a : Int) (a0 : 0 <= a) (a1 : a <= 2000) (hk : pk (k.ld a) = 1 \/ pk (k.ld a) = 2) :
  Calls Tryz.prog 216 #[.pointer (some ⟨c.pk, 0, none⟩), .int .i64 a] w fun e w' => ∃ F', e = .returned (.tuple #[]) /\ (mjO c k).J F' (k.lk s a) w' /\ Tn F w F' w' := by
 have e0 : k.lk s a = k.mas s a (pf (k.ld a)).toNat := by unfold Jk.lk; rw [if_pos hk]
 rw [e0]
 have HJ : Hid ((mjO c k).J F s w) := h
 obtain ⟨vt, ve, h⟩ := h
 obtain ⟨hA, c0, _⟩ := mj_wood h
 obtain ⟨d0, _⟩ := mj_cells h
 have L := thing_any a w hA
 have el : ld k.a.N k.s.y k.s.g k.s.ws a = k.ld a := rfl
 rw [el] at L
 have hp := pf_bd (k.ld a)
 obtain ⟨n, hn⟩ : ∃ n : Nat, pf (k.ld a) = n := ⟨(pf (k.ld a)).toNat, by omega⟩
 rw [hn] at L hp ⊢
 have en : (n : Int).toNat = n := Int.toNat_natCast n
 rw [en]
 have HI : Hid (JI k s) := hI
 clear h hA hI el hn e0 en
 generalize pc (k.ld a) = q at L
 have key : ∀ kd : Int, (kd = 1 \/ kd = 2) -> pk (k.ld a) = kd -> Calls Tryz.prog 216 #[.pointer (some ⟨c.pk, 0, none⟩), .int .i64 a] w fun e w' => ∃ F', e = .returned (.tuple #[]) /\ (mjO c k).J F' (k.mas s a n) w' /\ Tn F w F' w' := by
  intro kd hkd ekd
  rw [ekd] at L
  clear ekd hk
  rcases hkd with rfl | rfl
  all_goals
   go_enter Tryz.func216, Tryz.ntmps216
   go_wp2_with fail
   refine L.mono ?_
   clear L
   rintro e w1 ⟨rfl, hb1⟩
   have HJ1 : Hid ((mjO c k).J F (k.mas s a 0) w1 /\ Tn F w F w1) := ⟨(mjO c k).below HJ.out hb1, Tn.of hb1⟩
   clear hb1 c0 d0
   go_wp2_with fail
   go_loopw [26] (fun iv wr => ∃ (i : Nat) (F' : Nat -> Prop), i <= n /\ iv = .int .i64 i /\ Hid ((mjO c k).J F' (k.mas s a i) wr /\ Tn F w F' wr)) (fun iv _ => n - (intOf iv).toNat)
   case atStart => exact ⟨0, F, Nat.zero_le _, rfl, HJ1⟩
   case round =>
    clear HJ1
    obtain ⟨i, F', hi, rfl, HJ2⟩ := hrel
    by_cases hlt : i < n
    ·have i0 : (0 : Int) <= (i : Int) := by omega
     have i1 : (i : Int) < (n : Int) := by omega
     obtain ⟨vt, ve, h2⟩ := HJ2.out.1
     obtain ⟨hA, c0, _⟩ := mj_wood h2
     obtain ⟨d0, _⟩ := mj_cells h2
     have P := load_any (a + 1 + i) wr hA
     have ex : ld k.a.N k.s.y k.s.g k.s.ws (a + 1 + i) = k.ld (a + 1 + i) := rfl
     rw [ex] at P
     have HS : Hid (k.mas s a (i + 1) = k.ma (k.mas s a i) (k.ld (a + 1 + i))) := rfl
     have hI2 := (HI.out.mas a i).1
     generalize k.ld (a + 1 + i) = x at P HS
     clear hA h2 ex
     go_wp2_with fail
     refine P.mono ?_
     clear P
     rintro e w3 ⟨rfl, hb3⟩
     have PM := markJ_any ((mjO c k).below HJ2.out.1 hb3) hI2 x
     rw [<- HS.out] at PM
     have HT : Hid (Tn F w F' w3) := HJ2.out.2.below hb3
     clear hb3 HJ2 HS hI2 c0 d0
     go_wp2_with fail
     refine PM.mono ?_
     clear PM
     rintro e w4 ⟨F4, rfl, j4, t4⟩
     have HJ4 : Hid ((mjO c k).J F4 (k.mas s a (i + 1)) w4 /\ Tn F w F4 w4) := ⟨j4, HT.out.trans t4⟩
     clear j4 t4 HT
     go_wp2_with fail
     go_roundw
     case rel => exact ⟨i + 1, F4, by omega, by go_num, HJ4⟩
     case measure => simp [intOf]; omega
    ·obtain rfl : i = n := by omega
     go_wp2_with fail
     go_end0
     exact ⟨F', rfl, HJ2.out.1, HJ2.out.2⟩
 exact key _ hk rfl
theorem lookJ_3 (h : (mjO c k).J F s w) (hI : JI k s) (a : Int) (a0 : 0 <= a) (a1 : a <= 2000) (hk : pk (k.ld a) = 3) :
  Calls Tryz.prog 216 #[.pointer (some ⟨c.pk, 0, none⟩), .int .i64 a] w fun e w' => ∃ F', e = .returned (.tuple #[]) /\ (mjO c k).J F' (k.lk s a) w' /\ Tn F w F' w' := by
 have e0 : k.lk s a = k.ma s (k.ld (a + 2)) := by unfold Jk.lk; rw [if_neg (by omega), if_pos hk]
 rw [e0]
 obtain ⟨x, hx⟩ : ∃ x, k.ld (a + 2) = x := ⟨_, rfl⟩
 rw [hx]
 have HX : Hid (k.ld (a + 2) = x) := hx
 clear hx
 have HJ : Hid ((mjO c k).J F s w) := h
 obtain ⟨vt, ve, h⟩ := h
 obtain ⟨hA, c0, _⟩ := mj_wood h
 obtain ⟨d0, _⟩ := mj_cells h
 have L := thing_any a w hA
 have el : ld k.a.N k.s.y k.s.g k.s.ws a = k.ld a := rfl
 rw [el, hk] at L
 generalize pf (k.ld a) = n at L
 generalize pc (k.ld a) = q at L
 clear h hA el hk e0
 go_enter Tryz.func216, Tryz.ntmps216
 go_wp2_with fail
 refine L.mono ?_
 clear L
 rintro e w1 ⟨rfl, hb1⟩
 have J1 := (mjO c k).below HJ.out hb1
 have HJ1 : Hid ((mjO c k).J F s w1 /\ Tn F w F w1) := ⟨J1, Tn.of hb1⟩
 obtain ⟨vt, ve, h2⟩ := J1
 obtain ⟨hA, c0, _⟩ := mj_wood h2
 obtain ⟨d0, _⟩ := mj_cells h2
 have P := load_any (a + 2) w1 hA
 have ex : ld k.a.N k.s.y k.s.g k.s.ws (a + 2) = k.ld (a + 2) := rfl
 rw [ex, HX.out] at P
 clear hb1 h2 hA ex
 go_wp2_with fail
 refine P.mono ?_
 clear P
 rintro e w3 ⟨rfl, hb3⟩
 have PM := markJ_any ((mjO c k).below HJ1.out.1 hb3) hI x
 have HT : Hid (Tn F w F w3) := HJ1.out.2.below hb3
 clear hb3 HJ1 c0 d0 HJ
 go_wp2_with fail
 refine PM.mono ?_
 clear PM
 rintro e w4 ⟨F4, rfl, j4, t4⟩
 have HJ4 : Hid ((mjO c k).J F4 (k.ma s x) w4 /\ Tn F w F4 w4) := ⟨j4, HT.out.trans t4⟩
 clear j4 t4 HT
 go_wp2_with fail
 go_end0
 exact ⟨F4, rfl, HJ4.out.1, HJ4.out.2⟩
theorem lookJ_4 (h : (mjO c k).J F s w) (a : Int) (hel : s.ep.length <= 10000) (hk : pk (k.ld a) = 4) :
  Calls Tryz.prog 216 #[.pointer (some ⟨c.pk, 0, none⟩), .int .i64 a] w fun e w' => ∃ F', e = .returned (.tuple #[]) /\ (mjO c k).J F' (k.lk s a) w' /\ Tn F w F' w' := by
 have e0 : k.lk s a = { s with ep := s.ep ++ [a] } := by unfold Jk.lk; rw [if_neg (by omega), if_neg (by omega), if_pos hk]
 rw [e0]
 obtain ⟨i0, hi, hz0, hz1, hz2⟩ := info_parts infoInt
 have HJ : Hid ((mjO c k).J F s w) := h
 obtain ⟨vt, ve, h⟩ := h
 obtain ⟨hA, c0, _⟩ := mj_wood h
 obtain ⟨d0, _⟩ := mj_cells h
 have L := thing_any a w hA
 have el : ld k.a.N k.s.y k.s.g k.s.ws a = k.ld a := rfl
 rw [el, hk] at L
 generalize pf (k.ld a) = n at L
 generalize pc (k.ld a) = q at L
 clear h hA el hk e0
 go_enter Tryz.func216, Tryz.ntmps216
 go_wp2_with fail
 refine L.mono ?_
 clear L
 rintro e w1 ⟨rfl, hb1⟩
 obtain ⟨vt, ve, J1⟩ := (mjO c k).below HJ.out hb1
 obtain ⟨_, _, _, _, _, _, d6, dz, lk⟩ := mj_cells J1
 obtain ⟨_, er, _, rne, _⟩ := mj_rows J1
 obtain ⟨ad, cap, evt⟩ := row_slice er
 subst evt
 have z6 := dz 6
 have HJ1 : Hid ((mjV c k vt (.slice ad s.ep.length cap)).J F s w1 /\ Tn F w F w1) := ⟨J1, Tn.of hb1⟩
 clear J1 hb1 c0 d0 HJ dz
 go_wp2_with (at_builtin; refine wpList_append_own_at _ rfl _ _ 105 rfl 0 3 i0 (.int .i64 0) 1 8 Tryz.underlying105 hi hz0 hz1 hz2 rfl (by decide) (.slice ad s.ep.length cap) s.ep.length (s.ep.map (Value.int .i64)) rfl (row_alloc er _) ⟨w1.heap.size, 0, none⟩ 1 1 [.int .i64 a] rfl rfl ?_ ?_ ?_ ?_ ?_ ?_; (intro j u hj; match j, hj with | 0, hj => (simp at hj; subst hj; simp [Addr.add])); (intro u hu; simp at hu; subst hu; rfl); (unfold maxLen; omega); (first | omega | simp); (first | omega | (simp; done) | (simp; omega)); intro v' w4 hown4 hgrow4 _ hloc4; obtain ⟨b4, cap4, ev4⟩ := row_shape hown4 (Nat.succ_pos _); subst ev4; have kb := (hgrow4.block c.pk (by simp; omega) rne).trans (Below.heap_alloc _ _ _ lk); have g4 := (World.cell?_of_block (a := ⟨c.pk, 6, none⟩) kb).trans d6; have f4 := (World.frozen?_of_block (a := ⟨c.pk, 6, none⟩) kb).trans z6)
 go_end0
 obtain ⟨F', hJ', hT'⟩ := mj_ephems HJ1.out.1 (((Fr.refl _ w1).alloc _).grown hgrow4 (fun b e => Or.inl e.symm)) (v1 := .slice (some ⟨b4, 0, none⟩) (s.ep.length + 1) cap4) (l := s.ep ++ [a]) (by simpa using hown4) (fun b e => by
  have hbl : some b4 = (Value.slice ad s.ep.length cap).ownBlock \/ b4 = w1.heap.size + 1 := hloc4.imp id (fun e => by simpa [Value.ownBlock] using e)
  simp [Value.ownBlock] at e
  subst e
  exact hbl.imp id (fun e => by omega))
 exact ⟨F', rfl, ⟨_, _, hJ'⟩, HJ1.out.2.trans hT'⟩
theorem lookJ_no (h : (mjO c k).J F s w) (a : Int) (k1 : pk (k.ld a) ≠ 1) (k2 : pk (k.ld a) ≠ 2) (k3 : pk (k.ld a) ≠ 3) (k4 : pk (k.ld a) ≠ 4) :
  Calls Tryz.prog 216 #[.pointer (some ⟨c.pk, 0, none⟩), .int .i64 a] w fun e w' => ∃ F', e = .returned (.tuple #[]) /\ (mjO c k).J F' (k.lk s a) w' /\ Tn F w F' w' := by
 have e0 : k.lk s a = s := by unfold Jk.lk; rw [if_neg (by omega), if_neg k3, if_neg k4]
 rw [e0]
 have HJ : Hid ((mjO c k).J F s w) := h
 obtain ⟨vt, ve, h⟩ := h
 obtain ⟨hA, c0, _⟩ := mj_wood h
 obtain ⟨d0, _⟩ := mj_cells h
 have L := thing_any a w hA
 have el : ld k.a.N k.s.y k.s.g k.s.ws a = k.ld a := rfl
 rw [el] at L
 generalize pk (k.ld a) = kd at *
 generalize pf (k.ld a) = n at L
 generalize pc (k.ld a) = q at L
 have b1 : (kd == 1) = false := by simpa using k1
 have b2 : (kd == 2) = false := by simpa using k2
 have b3 : (kd == 3) = false := by simpa using k3
 have b4 : (kd == 4) = false := by simpa using k4
 clear h hA el e0
 go_enter Tryz.func216, Tryz.ntmps216
 go_wp2_with fail
 refine L.mono ?_
 clear L
 rintro e w1 ⟨rfl, hb1⟩
 have HJ1 : Hid ((mjO c k).J F s w1 /\ Tn F w F w1) := ⟨(mjO c k).below HJ.out hb1, Tn.of hb1⟩
 clear hb1 HJ
 go_wp2_with fail
 go_end0
 exact ⟨F, rfl, HJ1.out.1, HJ1.out.2⟩
theorem lookJ_any (h : (mjO c k).J F s w) (hI : JI k s) (a : Int) (a0 : 0 <= a) (a1 : a <= 2000) (hel : s.ep.length <= 10000) :
  Calls Tryz.prog 216 #[.pointer (some ⟨c.pk, 0, none⟩), .int .i64 a] w fun e w' => ∃ F', e = .returned (.tuple #[]) /\ (mjO c k).J F' (k.lk s a) w' /\ Tn F w F' w' := by
 by_cases k1 : pk (k.ld a) = 1 \/ pk (k.ld a) = 2
 ·exact lookJ_12 h hI a a0 a1 k1
 by_cases k3 : pk (k.ld a) = 3
 ·exact lookJ_3 h hI a a0 a1 k3
 by_cases k4 : pk (k.ld a) = 4
 ·exact lookJ_4 h a hel k4
 exact lookJ_no h a (fun e => k1 (Or.inl e)) (fun e => k1 (Or.inr e)) k3 k4
end
end Go.Proofs.YtalgochmjddodaaGreat

namespace Go.Proofs.YtalgochmjddodaaGreat
set_option maxRecDepth 100000
set_option maxHeartbeats 4000000
open Go.RowKit W Kp Stl
theorem row_front {w : World} {base g n cap : Nat} {e : TypeId} {xs : List Value} (h : w.ownsRow base e 1 (.slice (some ⟨g, 0, none⟩) n cap) n xs) (m : Nat) (hm : m <= n) : w.ownsRow base e 1 (.slice (some ⟨g, 0, none⟩) m cap) m (xs.take m) := by
 obtain ⟨h1, h2⟩ := h
 rcases h2 with ⟨hv, _⟩ | ⟨g', cap', cur, hv, hb, hh, h3, h4, h5, h6⟩
 ·simp at hv
 ·simp at hv
  obtain ⟨rfl, rfl⟩ := hv
  refine ⟨by rw [List.length_take]; omega, Or.inr ⟨g, cap, cur, rfl, hb, hh, by omega, h4, h5, ?_⟩⟩
  rw [<- h6, List.take_take]
  congr 1
  omega
theorem row_caps {w : World} {base g n cap : Nat} {e : TypeId} {xs : List Value} (h : w.ownsRow base e 1 (.slice (some ⟨g, 0, none⟩) n cap) n xs) : n <= cap /\ cap <= maxLen := by
 rcases h.2 with ⟨hv, _⟩ | ⟨g', cap', cur, hv, hb, hh, h3, h4, h5, h6⟩
 ·simp at hv
 ·simp at hv
  obtain ⟨rfl, rfl⟩ := hv
  exact ⟨h3, h4⟩
section
variable {c : Jc} {k : Jk} {F : Nat -> Prop} {s : Js} {w : World}
theorem lamJ_any (h : (mjO c k).J F s w) (hI : JI k s) :
  Calls Tryz.prog 153 #[.pointer (some ⟨c.pk, 0, none⟩)] w fun e w' => ∃ F', e = .returned (.tuple #[]) /\ (mjO c k).J F' (k.lm (k.lost s + s.td.length + 1) s) w' /\ Tn F w F' w' := by
 have HJ : Hid ((mjO c k).J F s w /\ JI k s) := ⟨h, hI⟩
 obtain ⟨s9, E9⟩ : ∃ s9, k.lm (k.lost s + s.td.length + 1) s = s9 := ⟨_, rfl⟩
 rw [E9]
 have H9 : Hid (k.lm (k.lost s + s.td.length + 1) s = s9) := E9
 obtain ⟨vt, ve, h⟩ := h
 obtain ⟨_, _, _, _, _, d5, _⟩ := mj_cells h
 obtain ⟨tr, _⟩ := mj_rows h
 obtain ⟨ad, cap, evt⟩ := row_slice tr
 subst evt
 clear h hI E9 tr
 go_enter Tryz.func153, Tryz.ntmps153
 go_wp2_with fail
 go_loopg [2] (k.lost s + s.td.length) (fun m nv wr => ∃ (s1 : Js) (F1 : Nat -> Prop), nv = .int .i64 s1.td.length /\ Hid ((mjO c k).J F1 s1 wr /\ JI k s1 /\ Tn F w F1 wr) /\ Hid (k.lost s1 + s1.td.length <= m /\ k.lm (m + 1) s1 = s9))
 case atStart => exact ⟨s, F, rfl, ⟨HJ.out.1, HJ.out.2, Tn.refl _ _⟩, ⟨Nat.le_refl _, H9.out⟩⟩
 case round =>
  clear HJ d5
  obtain ⟨s1, F1, rfl, HJ1, HM⟩ := hrel
  by_cases hlt : 0 < s1.td.length
  ·obtain ⟨vt, ve, h1⟩ := HJ1.out.1
   obtain ⟨_, _, _, _, _, d5, _, dz, lk⟩ := mj_cells h1
   obtain ⟨tr, _, rne, _⟩ := mj_rows h1
   obtain ⟨b, cap, evt⟩ := row_shape tr hlt
   subst evt
   have hcp := row_caps tr
   have hmx : maxLen <= 9223372036854775807 := by unfold maxLen; omega
   have tc : wr.cell? ⟨b, s1.td.length - 1, none⟩ = some (.int .i64 (s1.td.getD (s1.td.length - 1) 0)) := by
    obtain ⟨b', o', e, _, hc⟩ := row_ints tr hlt
    cases e
    have := hc (s1.td.length - 1) (by omega)
    rwa [Nat.zero_add] at this
   have z5 := dz 5
   have hm : s1.td.getD (s1.td.length - 1) 0 ∈ s1.td := by
    rw [List.getD_eq_getElem?_getD, List.getElem?_eq_getElem (by omega)]
    exact List.getElem_mem _
   have hps := HJ1.out.2.1.ps _ (HJ1.out.2.1.td _ hm)
   have hsm := HJ1.out.2.1.sum
   have htl := HJ1.out.2.1.tl
   obtain ⟨F2, J2, T2⟩ := mj_todo h1 (Fr.refl _ wr) (v1 := .slice (some ⟨b, 0, none⟩) (s1.td.length - 1) cap) (l := s1.td.take (s1.td.length - 1)) (by
    have := row_front tr (s1.td.length - 1) (by omega)
    rw [List.map_take, show (s1.td.take (s1.td.length - 1)).length = s1.td.length - 1 by rw [List.length_take]; omega]
    exact this) (fun b e => Or.inl e)
   have hI2 : JI k { s1 with td := s1.td.take (s1.td.length - 1) } := ⟨HJ1.out.2.1.nd, HJ1.out.2.1.ps, fun x hx => HJ1.out.2.1.td x (List.mem_of_mem_take hx), HJ1.out.2.1.ep, HJ1.out.2.1.tl, by
    show k.lost s1 + (s1.td.take (s1.td.length - 1)).length + s1.ep.length <= _
    rw [List.length_take]
    omega⟩
   have PL := lookJ_any ⟨_, _, J2⟩ hI2 (s1.td.getD (s1.td.length - 1) 0) hps.1 hps.2 (by show s1.ep.length <= 10000; omega)
   have HL1 : Hid (k.lk { s1 with td := s1.td.take (s1.td.length - 1) } (s1.td.getD (s1.td.length - 1) 0) = k.l1 s1) := rfl
   rw [HL1.out] at PL
   have HI3 : Hid (JI k (k.l1 s1) /\ k.lost (k.l1 s1) + (k.l1 s1).td.length + 1 = k.lost s1 + s1.td.length) := HJ1.out.2.1.l1 hlt
   have HL : Hid (k.lm (gk + 1) s1 = k.lm gk (k.l1 s1)) := by
    show _ = _
    rw [Jk.lm, if_pos hlt]
   have HT1 : Hid (Tn F w F2 (wr.setCell ⟨c.pk, 5, none⟩ (.slice (some ⟨b, 0, none⟩) (s1.td.length - 1) cap))) := HJ1.out.2.2.trans T2
   obtain ⟨n, hn⟩ : ∃ n, s1.td.length = n + 1 := ⟨s1.td.length - 1, by omega⟩
   rw [hn] at d5 hcp ⊢
   rw [hn, Nat.add_sub_cancel] at tc PL HT1
   generalize s1.td.getD n 0 = x at *
   generalize k.l1 s1 = s3 at *
   have hnb : n <= 4000 := by omega
   have w1 : IntKind.i64.wrap (((n + 1 : Nat) : Int) - 1) = (n : Int) := by rw [IntKind.wrap_i64]; omega
   clear h1 J2 T2 hI2 tr hm hsm dz HJ1
   go_wp2_with fail
   refine PL.mono ?_
   clear PL
   rintro e w4 ⟨F4, rfl, j4, t4⟩
   have HJ4 : Hid ((mjO c k).J F4 s3 w4 /\ JI k s3 /\ Tn F w F4 w4) := ⟨j4, HI3.out.1, HT1.out.trans t4⟩
   obtain ⟨vt4, ve4, h4⟩ := j4
   obtain ⟨_, _, _, _, _, e5, _⟩ := mj_cells h4
   obtain ⟨tr4, _⟩ := mj_rows h4
   obtain ⟨ad4, cap4, ev4⟩ := row_slice tr4
   subst ev4
   have hg : 1 <= gk := by have := HM.out.1; omega
   have HR : Hid (k.lost s3 + s3.td.length <= gk - 1 /\ k.lm (gk - 1 + 1) s3 = s9) := ⟨by have := HM.out.1; have := HI3.out.2; omega, by rw [Nat.sub_add_cancel hg, <- HL.out]; exact HM.out.2⟩
   clear h4 tr4 t4 HT1 d5 tc z5 HM HL HI3
   go_wp2_with fail
   go_roundg (gk - 1)
   case measure => omega
   case rel => exact ⟨s3, F4, rfl, HJ4, HR⟩
  ·have e0 : s1.td = [] := by
    cases ht : s1.td with
    | nil => rfl
    | cons x l => rw [ht] at hlt; simp at hlt
   have e9 : s9 = s1 := by
    rw [<- HM.out.2]
    unfold Jk.lm
    rw [if_neg hlt]
   subst e9
   rw [e0]
   go_wp2_with fail
   go_end0
   exact ⟨F1, rfl, HJ1.out.1, HJ1.out.2.2⟩
end
end Go.Proofs.YtalgochmjddodaaGreat

namespace Go.Proofs.YtalgochmjddodaaGreat
set_option maxRecDepth 100000
set_option maxHeartbeats 2000000
open Go.RowKit W Kp Stl
section
variable {c : Jc} {k : Jk} {F : Nat -> Prop} {s : Js} {w : World}
theorem keepValuesJ_any (h : (mjO c k).J F s w) (hI : JI k s) :
  Calls Tryz.prog 154 #[.pointer (some ⟨c.pk, 0, none⟩)] w fun e w' => ∃ F', e = .returned (.bool (k.kv s).1) /\ (mjO c k).J F' (k.kv s).2 w' /\ Tn F w F' w' := by
 obtain ⟨i0, hi, hz0, hz1, hz2⟩ := info_parts infoInt
 obtain ⟨vt, ve, h⟩ := h
 obtain ⟨_, _, _, _, _, _, c6, _⟩ := mj_cells h
 obtain ⟨_, er, _⟩ := mj_rows h
 obtain ⟨ad, cap, evt⟩ := row_slice er
 subst evt
 have HI : Hid (JI k s) := hI
 have HJ : Hid ((mjE c k (.slice ad s.ep.length cap)).J F s w) := ⟨vt, h⟩
 have hel : s.ep.length <= 4000 := by have := hI.sum; have := hI.tl; omega
 have HP : Hid (∀ a ∈ s.ep, 0 <= a /\ a <= 2000) := fun a ha => hI.ps a (hI.ep a ha)
 have EK : Hid (k.kv s = (decide ((k.kvf s s.ep).1.length < s.ep.length), { (k.kvf s s.ep).2 with ep := (k.kvf s s.ep).1 })) := rfl
 clear hI h er
 go_enter Tryz.func154, Tryz.ntmps154
 go_wp2_with fail
 go_loopw [3, 12] (fun vr iv wr => ∃ (j : Nat) (R : List Int) (s1 : Js) (ar : Option Addr) (cr : Nat) (F1 : Nat -> Prop), j <= s.ep.length /\ iv = .int .i64 j /\ Hid (k.kvf s (s.ep.take j) = (R, s1)) /\ vr = .slice ar R.length cr /\ wr.ownsRow w.heap.size 3 1 (.slice ar R.length cr) R.length (R.map (Value.int .i64)) /\ (mjE c k (.slice ad s.ep.length cap)).J F1 s1 wr /\ Tn F w F1 wr /\ Hid (∀ b, some b = (Value.slice ar R.length cr).ownBlock -> ¬ F1 b) /\ Hid (JI k s1 /\ s1.ep = s.ep)) (fun _ iv _ => s.ep.length - (intOf iv).toNat)
 case atStart => exact ⟨0, [], s, none, 0, F, Nat.zero_le _, rfl, rfl, rfl, World.ownsRow_nil _ _ _ _, HJ.out, Tn.refl _ _, fun b e => by simp [Value.ownBlock] at e, ⟨HI.out, rfl⟩⟩
 case round =>
  obtain ⟨j, R, s1, ar, cr, F1, hj, rfl, HE, rfl, hR, hJ, hT, HR, HI1⟩ := hrel
  clear HJ c6
  have hRl : R.length <= 10000 := by
   have h1 := (JI.kvl (s.ep.take j) (t := ([], s)) HI.out (fun a ha => HI.out.ep a (List.mem_of_mem_take ha)) (fun b hb => by cases hb)).2.1
   have e9 := HE.out
   unfold Jk.kvf at e9
   rw [e9] at h1
   simp at h1
   omega
  by_cases hlt : j < s.ep.length
  ·obtain ⟨vt1, hJv⟩ := hJ
   obtain ⟨_, er1, _⟩ := mj_rows hJv
   rw [HI1.out.2] at er1
   obtain ⟨b0, o0, e0, hb0, hc⟩ := row_ints er1 (by omega)
   have x1 := hc j hlt
   subst e0
   have hin : s.ep.getD j 0 ∈ s.ep := by rw [List.getD_eq_getElem?_getD, List.getElem?_eq_getElem hlt]; exact List.getElem_mem hlt
   have hbd := HP.out _ hin
   have HS : Hid (k.kvf s (s.ep.take (j + 1)) = k.kv1 (R, s1) (s.ep.getD j 0)) := by
    show _ = _
    rw [take_snoc s.ep j hlt 0]
    unfold Jk.kvf
    rw [List.foldl_append]
    have := HE.out
    unfold Jk.kvf at this
    rw [this]
    rfl
   generalize s.ep.getD j 0 = a at x1 hbd HS
   obtain ⟨d0, _⟩ := mj_cells hJv
   obtain ⟨hA, d5, _⟩ := mj_wood hJv
   have L := load_any (a + 1) wr hA
   have el : ld k.a.N k.s.y k.s.g k.s.ws (a + 1) = k.ld (a + 1) := rfl
   rw [el] at L
   have HJ1 : Hid ((mjE c k (.slice (some ⟨b0, o0, none⟩) s.ep.length cap)).J F1 s1 wr /\ Tn F w F1 wr) := ⟨⟨vt1, hJv⟩, hT⟩
   have hsz := hT.fr.size
   have HRl : Hid (∀ b, some b = (Value.slice ar R.length cr).ownBlock -> b < wr.heap.size) := fun b e => (row_lt hR b e).2
   have j0 : (0 : Int) <= (j : Int) := by omega
   have j1 : (j : Int) < (s.ep.length : Int) := by omega
   clear hc hin hJv hT hA el er1
   cases hls : k.jl s1 (k.ld (a + 1))
   ·have HS2 : Hid (k.kvf s (s.ep.take (j + 1)) = (R, k.ma s1 (k.ld (a + 2)))) := by
     show _ = _
     rw [HS.out]
     unfold Jk.kv1
     rw [hls]
     rfl
    generalize k.ld (a + 1) = x at L hls
    go_wp2_with fail
    refine L.mono ?_
    clear L
    rintro e w1 ⟨rfl, hb1⟩
    obtain ⟨vt2, hJ2⟩ := (mjE c k (.slice (some ⟨b0, o0, none⟩) s.ep.length cap)).below HJ1.out.1 hb1
    have P := isLostJ_any hJ2 x
    rw [hls] at P
    clear x1 d0 d5 hJ2
    go_wp2_with fail
    refine P.mono ?_
    clear P
    rintro e w2 ⟨rfl, hb2⟩
    have hb := hb1.trans (hb2.mono hb1.size)
    obtain ⟨vt3, hJ3⟩ := (mjE c k (.slice (some ⟨b0, o0, none⟩) s.ep.length cap)).below HJ1.out.1 hb
    obtain ⟨d0, _⟩ := mj_cells hJ3
    obtain ⟨hA, d5, _⟩ := mj_wood hJ3
    have L2 := load_any (a + 2) w2 hA
    have el : ld k.a.N k.s.y k.s.g k.s.ws (a + 2) = k.ld (a + 2) := rfl
    rw [el] at L2
    have HX : Hid (k.ld (a + 2) = k.ld (a + 2)) := rfl
    generalize k.ld (a + 2) = y at L2 HS2
    have HJ3 : Hid ((mjE c k (.slice (some ⟨b0, o0, none⟩) s.ep.length cap)).J F1 s1 w2 /\ Below wr.heap.size wr w2) := ⟨⟨vt3, hJ3⟩, hb⟩
    clear hb1 hb2 hJ3 hA el hb HX
    go_wp2_with fail
    refine L2.mono ?_
    clear L2
    rintro e w3 ⟨rfl, hb3⟩
    have PM := markE_any ((mjE c k (.slice (some ⟨b0, o0, none⟩) s.ep.length cap)).below HJ3.out.1 hb3) HI1.out.1 y
    have HT3 : Hid (Tn F1 wr F1 w3) := (Tn.of HJ3.out.2).below hb3
    clear hb3 d0 d5 HJ3
    go_wp2_with fail
    refine PM.mono ?_
    clear PM
    rintro e w4 ⟨F4, rfl, hJ4, hT4⟩
    have hT5 := HT3.out.trans hT4
    have hI4 := HI1.out.1.ma y
    have HJ4 : Hid (Tn F w F4 w4 /\ JI k (k.ma s1 y) /\ (k.ma s1 y).ep = s.ep) := ⟨HJ1.out.2.trans hT5, hI4.1, hI4.2.2.trans HI1.out.2⟩
    have hR4 := row_fr hR hT5.fr (fun b e => HR.out b e)
    have HR4 : Hid (∀ b, some b = (Value.slice ar R.length cr).ownBlock -> ¬ F4 b) := fun b e d => (hT5.sub b d).elim (HR.out b e) (fun d => by have := HRl.out b e; omega)
    clear hT4 hT5 hI4 hR HT3 HR
    go_wp2_with fail
    go_roundw
    case rel => exact ⟨j + 1, R, _, ar, cr, F4, by omega, by go_num, HS2, rfl, hR4, hJ4, HJ4.out.1, HR4, ⟨HJ4.out.2.1, HJ4.out.2.2⟩⟩
    case measure => simp [intOf]; omega
   ·have HS2 : Hid (k.kvf s (s.ep.take (j + 1)) = (R ++ [a], s1)) := by
     show _ = _
     rw [HS.out]
     unfold Jk.kv1
     rw [if_pos hls]
    generalize k.ld (a + 1) = x at L hls
    go_wp2_with fail
    refine L.mono ?_
    clear L
    rintro e w1 ⟨rfl, hb1⟩
    obtain ⟨vt2, hJ2⟩ := (mjE c k (.slice (some ⟨b0, o0, none⟩) s.ep.length cap)).below HJ1.out.1 hb1
    have P := isLostJ_any hJ2 x
    rw [hls] at P
    clear x1 d0 d5 hJ2
    go_wp2_with fail
    refine P.mono ?_
    clear P
    rintro e w2 ⟨rfl, hb2⟩
    have hb := hb1.trans (hb2.mono hb1.size)
    have hR2 := row_keep hR (fun b e => hb.block b (HRl.out b e))
    have hs2 := hb.size
    clear hb1 hb2
    go_wp2_with (at_builtin; refine wpList_append_own_at _ rfl _ _ 105 rfl w.heap.size 3 i0 (.int .i64 0) 1 8 Tryz.underlying105 hi hz0 hz1 hz2 rfl (by decide) (.slice ar R.length cr) R.length (R.map (Value.int .i64)) rfl (row_alloc hR2 _) ⟨w2.heap.size, 0, none⟩ 1 1 [.int .i64 a] rfl rfl ?_ ?_ ?_ ?_ ?_ ?_; (intro j u hj; match j, hj with | 0, hj => (simp at hj; subst hj; simp [Addr.add])); (intro u hu; simp at hu; subst hu; rfl); (unfold maxLen; omega); omega; (simp; omega); intro v' w4 hown4 hgrow4 _ hloc4; obtain ⟨b4, cap4, ev4⟩ := row_shape hown4 (Nat.succ_pos _); subst ev4)
    have hR4 : w4.ownsRow w.heap.size 3 1 (.slice (some ⟨b4, 0, none⟩) (R ++ [a]).length cap4) (R ++ [a]).length ((R ++ [a]).map (Value.int .i64)) := by simpa using hown4
    have hJ2 := (mjE c k (.slice (some ⟨b0, o0, none⟩) s.ep.length cap)).below HJ1.out.1 hb
    have hJ4 := grow_ob (mjE c k (.slice (some ⟨b0, o0, none⟩) s.ep.length cap)) hJ2 hgrow4 (fun b e => HR.out b e)
    have hT4 : Tn F w F1 w4 := ⟨((HJ1.out.2.below hb).fr.alloc _).grown hgrow4 (fun b e => Or.inr (row_lt hR2 b e.symm).1), HJ1.out.2.sub⟩
    have HR4 : Hid (∀ b, some b = (Value.slice (some ⟨b4, 0, none⟩) (R ++ [a]).length cap4).ownBlock -> ¬ F1 b) := fun b e hF => by
     have hbl : some b4 = (Value.slice ar R.length cr).ownBlock \/ b4 = w2.heap.size + 1 := hloc4.imp id (fun e => by simpa [Value.ownBlock] using e)
     simp [Value.ownBlock] at e
     subst e
     rcases hbl with e | e
     ·exact HR.out _ e hF
     ·have := (mjE c k (.slice (some ⟨b0, o0, none⟩) s.ep.length cap)).lt hJ2 _ hF
      omega
    clear hJ2 hown4 hgrow4 hloc4 hR2 hR hb
    go_wp2_with fail
    go_roundw
    case rel => exact ⟨j + 1, R ++ [a], s1, some ⟨b4, 0, none⟩, cap4, F1, by omega, by go_num, HS2, by simp, hR4, hJ4, hT4, HR4, HI1⟩
    case measure => simp [intOf]; omega
  ·obtain rfl : j = s.ep.length := by omega
   rw [List.take_length] at HE
   obtain ⟨vt1, hJv⟩ := hJ
   obtain ⟨_, _, _, _, _, _, d6, dz, lk⟩ := mj_cells hJv
   have z6 := dz 6
   obtain ⟨hJ5, hf5⟩ := mj_ephems0 hJv (v1 := .slice ar R.length cr) (l := R) (Fr.refl _ wr) (row_base hR (fun _ _ => Nat.zero_le _)) (fun b e => Or.inr (HR.out b e))
   have HJ5 : Hid (_ /\ _) := ⟨hJ5, hT.fr.trans hf5 hT.sub⟩
   have HRs : Hid (∀ b, some b = (Value.slice ar R.length cr).ownBlock -> w.heap.size <= b) := fun b e => (row_lt hR b e).1
   have HTs : Hid (∀ b, F1 b -> F b \/ w.heap.size <= b) := hT.sub
   have E2 : Hid ((k.kv s).1 = decide (R.length < s.ep.length) /\ (k.kv s).2 = { s1 with ep := R }) := by
    have h1 := EK.out
    rw [HE.out] at h1
    rw [h1]
    exact ⟨rfl, rfl⟩
   clear hJ5 hf5 hJv hT hR HE EK dz
   by_cases hll : R.length < s.ep.length
   ·go_wp2_with fail
    go_ret
    rw [E2.out.1, E2.out.2]
    exact ⟨_, by simp [hll], ⟨_, _, HJ5.out.1⟩, ⟨HJ5.out.2, fun b hb => hb.elim (HTs.out b) (fun e => Or.inr (HRs.out b e))⟩⟩
   ·go_wp2_with fail
    go_ret
    rw [E2.out.1, E2.out.2]
    exact ⟨_, by simp [hll], ⟨_, _, HJ5.out.1⟩, ⟨HJ5.out.2, fun b hb => hb.elim (HTs.out b) (fun e => Or.inr (HRs.out b e))⟩⟩
end
end Go.Proofs.YtalgochmjddodaaGreat

namespace Go.Proofs.YtalgochmjddodaaGreat
set_option maxRecDepth 100000
set_option maxHeartbeats 1000000
open Go.RowKit W Kp Stl
def mjI (c : Jc) (k : Jk) : Ob Js := obI (mjO c k) (fun s => JI k s)
abbrev boxJ (c : Jc) : Obj := .cells #[.pointer (some ⟨c.pk, 0, none⟩)] 130 (0, 0)
abbrev fmJ (c : Jc) : Fv := ⟨152, #[.pointer (some ⟨c.pk, 0, none⟩)], #[]⟩
abbrev fkJ (c : Jc) : Fv := ⟨76, #[.pointer (some ⟨c.pk, 0, none⟩)], #[]⟩
abbrev boxK (fv : Fv) : Obj := .cells #[fv.v] 135 (0, 0)
abbrev faJ (bx : Nat) : Fv := ⟨155, #[], #[.pointer (some ⟨bx, 0, none⟩)]⟩
abbrev fpJ (by_ : Nat) : Fv := ⟨157, #[], #[.pointer (some ⟨by_, 0, none⟩)]⟩
abbrev fnJ (c : Jc) : Fv := ⟨158, #[.pointer (some ⟨c.pk, 0, none⟩)], #[]⟩
theorem ent_faJ : Ent 155 := ent_of Tryz.func155 (by kernel_rfl) rfl
theorem ent_fpJ : Ent 157 := ent_of Tryz.func157 (by kernel_rfl) rfl
theorem ent_fnJ : Ent 158 := ent_of Tryz.func158 (by kernel_rfl) rfl
section
variable {c : Jc} {k : Jk} {F : Nat -> Prop} {s : Js} {w : World}
theorem looksJ_any (fv : Fv) (w : World) (p : Nat) :
  Calls Tryz.prog 75 #[.pointer (some ⟨p, 0, none⟩), fv.v] w fun e w' => e = .returned (.agg #[(faJ w.heap.size).v, (fpJ (w.heap.size + 1)).v, .func (.func 158) #[.pointer (some ⟨p, 0, none⟩)] #[]]) /\ w'.heap[w.heap.size]? = some (.cells #[.pointer (some ⟨p, 0, none⟩)] 130 (0, 0)) /\ w'.heap[w.heap.size + 1]? = some (boxK fv) /\ Below w.heap.size w w' := by
 obtain ⟨f, b, c⟩ := fv
 have hmf : ∀ (fn : Fn) (first cap : Array Value) (w : World), (Instr.makeFunc fn first cap).run Tryz.prog w = .ok (.func fn first cap) w := fun _ _ _ _ => rfl
 go_enter Tryz.func75, Tryz.ntmps75
 go_wp2_with fail
 refine bodyPost_ret (v := .agg #[(faJ w.heap.size).v, (fpJ (w.heap.size + 1)).v, .func (.func 158) #[.pointer (some ⟨p, 0, none⟩)] #[]]) (by simp [results, Tryz.results75, go_sem]) rfl ⟨rfl, ?_, ?_, (((Below.refl _ w).alloc (Nat.le_refl _) _).alloc (by simp) _).alloc (by simp; omega) _⟩
 ·rw [Below.heap_alloc _ _ _ (by simp; omega), Below.heap_alloc _ _ _ (by simp)]
  exact heap_alloc_new _ _
 ·rw [Below.heap_alloc _ _ _ (by simp)]
  have := heap_alloc_new (w.alloc (.cells #[.pointer (some ⟨p, 0, none⟩)] 130)) (.cells #[.func (.func f) b c] 135)
  simpa using this
theorem tells_fnJ : Tells (mjI c k) (fun _ => True) (fnJ c).f (fnJ c).b (fnJ c).c k.nw := by
 rintro F s w x _ ⟨⟨vt, ve, h⟩, _⟩
 exact nowJ_any h x
def Jk.mp (k : Jk) (s : Js) (x : Int) : Int × Js := (x, k.ma s x)
theorem keeps_fmJ (by_ : Nat) : Keeps (obX (mjI c k) by_ (boxK (fmJ c))) (fun _ => True) (fpJ by_).f (fpJ by_).b (fpJ by_).c k.mp := by
 rintro F s w x _ ⟨F0, ⟨h, hI⟩, hx, hn, hF⟩
 have P := markJ_any h hI x
 have c0 : w.cell? ⟨by_, 0, none⟩ = some (fmJ c).v := by simp [World.cell?, hx]
 have HI : Hid (JI k (k.ma s x)) := (hI.ma x).1
 have HX : Hid (w.heap[by_]? = some (boxK (fmJ c)) /\ ¬ F0 by_ /\ ∀ b, F b ↔ (F0 b \/ b = by_)) := ⟨hx, hn, hF⟩
 clear h hI hx hn hF
 show Calls Tryz.prog 157 #[.int .i64 x, .pointer (some ⟨by_, 0, none⟩)] w _
 go_enter Tryz.func157, Tryz.ntmps157
 go_wp2_with fail
 refine P.mono ?_
 clear P
 rintro e w1 ⟨F1, rfl, j1, t1⟩
 have hx1 : w1.heap[by_]? = some (boxK (fmJ c)) := (t1.fr.block by_ (lt_of_some HX.out.1) HX.out.2.1).trans HX.out.1
 have HF : Hid ((obX (mjI c k) by_ (boxK (fmJ c))).J (fun b => F1 b \/ b = by_) (k.ma s x) w1 /\ Fr F w w1 /\ ∀ b, (F1 b \/ b = by_) -> F b \/ w.heap.size <= b) := by
  refine ⟨⟨F1, ⟨j1, HI.out⟩, hx1, fun d => (t1.sub _ d).elim HX.out.2.1 (fun d => by have := lt_of_some HX.out.1; omega), fun b => Iff.rfl⟩, t1.fr.mono (fun b d => (HX.out.2.2 b).2 (Or.inl d)), fun b d => ?_⟩
  rcases d with d | d
  ·exact (t1.sub b d).imp (fun d => (HX.out.2.2 b).2 (Or.inl d)) id
  ·exact Or.inl ((HX.out.2.2 b).2 (Or.inr d))
 clear j1 t1 hx1
 go_wp2_with fail
 go_ret
 exact ⟨_, rfl, HF.out.1, HF.out.2.1, HF.out.2.2⟩
end
end Go.Proofs.YtalgochmjddodaaGreat

namespace Go.Proofs.YtalgochmjddodaaGreat
open Go.RowKit W Kp Stl
def Jk.LM (k : Jk) (s : Js) : Js := k.lm (k.lost s + s.td.length + 1) s
def Jk.wa (k : Jk) (t : Js × List En) : (Js × List En) × Bool := wkQ k.al k.mp t t.2.length
def Jk.ph (k : Jk) (s : Js) : Nat := k.lost s + s.td.length + s.ep.length
def Jk.mu (k : Jk) (s : Js) : Nat := k.lost s + k.ph s
def Jk.spr (k : Jk) : Nat -> Js × List En -> Js × List En
 | 0, t => t
 | n + 1, t =>
  if (k.kv (k.LM t.1)).1 = true then k.spr n ((k.kv (k.LM t.1)).2, t.2)
  else if (k.wa ((k.kv (k.LM t.1)).2, t.2)).2 = true then k.spr n (k.wa ((k.kv (k.LM t.1)).2, t.2)).1
  else (k.wa ((k.kv (k.LM t.1)).2, t.2)).1
def Jk.sp (k : Jk) (t : Js × List En) : Js × List En := k.spr (k.mu t.1 + 1) t
def Jk.ke (k : Jk) (t : Js × List En) (x : Int) : Int × (Js × List En) := (x, k.sp (k.ma t.1 x, t.2))
structure Jl (k : Jk) (s t : Js) : Prop where
  ji : JI k t
  lo : k.lost t <= k.lost s
  ph : k.ph t <= k.ph s
section
variable {k : Jk} {s t u : Js}
theorem Jl.refl (h : JI k s) : Jl k s s := ⟨h, Nat.le_refl _, Nat.le_refl _⟩
theorem Jl.trans (h : Jl k s t) (j : Jl k t u) : Jl k s u := ⟨j.ji, Nat.le_trans j.lo h.lo, Nat.le_trans j.ph h.ph⟩
theorem Jl.mu (h : Jl k s t) : k.mu t <= k.mu s := by
 have h1 := h.lo
 have h2 := h.ph
 unfold Jk.mu
 omega
theorem ma_lt (h : JI k s) (x : Int) : k.jl s x = true -> k.lost (k.ma s x) < k.lost s := fun c => by
 have := Jk.lost_ma h.nd c (fun a ha => (h.ps a ha).1)
 omega
theorem Jl.ma (h : JI k s) (x : Int) : Jl k s (k.ma s x) := by
 obtain ⟨h1, h2, h3⟩ := h.ma x
 refine ⟨h1, ?_, ?_⟩
 ·by_cases c : k.jl s x = true
  ·exact Nat.le_of_lt (ma_lt h x c)
  ·have e : k.ma s x = s := by unfold Jk.ma; rw [if_neg c]
   rw [e]
   exact Nat.le_refl _
 ·unfold Jk.ph
  rw [h3]
  omega
theorem Jl.mas (h : JI k s) (a : Int) : ∀ n, Jl k s (k.mas s a n)
 | 0 => Jl.refl h
 | n + 1 => (Jl.mas h a n).trans (Jl.ma (Jl.mas h a n).ji _)
theorem lk_lost (h : JI k s) (a : Int) : k.lost (k.lk s a) <= k.lost s := by
 unfold Jk.lk
 split
 ·exact (Jl.mas h a _).lo
 ·split
  ·exact (Jl.ma h _).lo
  ·split
   ·exact Nat.le_refl _
   ·exact Nat.le_refl _
theorem Jl.l1 (h : JI k s) (hl : 0 < s.td.length) : Jl k s (k.l1 s) := by
 obtain ⟨h1, h2⟩ := h.l1 hl
 have hm : s.td.getD (s.td.length - 1) 0 ∈ s.td := by
  rw [List.getD_eq_getElem?_getD, List.getElem?_eq_getElem (by omega)]
  exact List.getElem_mem _
 have hs := h.sum
 have e : (s.td.take (s.td.length - 1)).length = s.td.length - 1 := by rw [List.length_take]; omega
 have h0 : JI k { s with td := s.td.take (s.td.length - 1) } := ⟨h.nd, h.ps, fun a ha => h.td a (List.mem_of_mem_take ha), h.ep, h.tl, by
  show k.lost s + (s.td.take (s.td.length - 1)).length + s.ep.length <= _
  omega⟩
 have h3 := lk_lost h0 (s.td.getD (s.td.length - 1) 0)
 have h4 := (h0.lk (h.td _ hm) (by
  show k.lost s + (s.td.take (s.td.length - 1)).length + s.ep.length + 1 <= _
  omega)).2.2
 have h3 : k.lost (k.l1 s) <= k.lost s := h3
 have h4 : (k.l1 s).ep.length <= s.ep.length + 1 := h4
 refine ⟨h1, h3, ?_⟩
 unfold Jk.ph
 omega
theorem Jl.lm : ∀ (n : Nat) {s : Js}, JI k s -> Jl k s (k.lm n s)
 | 0, s, h => Jl.refl h
 | n + 1, s, h => by
  unfold Jk.lm
  by_cases c : 0 < s.td.length
  ·rw [if_pos c]
   exact (Jl.l1 h c).trans (Jl.lm n (Jl.l1 h c).ji)
  ·rw [if_neg c]
   exact Jl.refl h
theorem Jl.LM (h : JI k s) : Jl k s (k.LM s) := Jl.lm _ h
theorem LM_td (h : JI k s) : (k.LM s).td = [] := (JI.lm _ h).2.1 (by omega)
theorem Jl.kvl : ∀ (l : List Int) {t : List Int × Js}, JI k t.2 -> Jl k t.2 (l.foldl k.kv1 t).2
 | [], t, h => Jl.refl h
 | a :: l, t, h => by
  rw [List.foldl_cons]
  have h1 : Jl k t.2 (k.kv1 t a).2 := by
   unfold Jk.kv1
   split
   ·exact Jl.refl h
   ·exact Jl.ma h _
  exact h1.trans (Jl.kvl l h1.ji)
theorem Jl.kv (h : JI k s) : Jl k s (k.kv s).2 /\ ((k.kv s).1 = true -> k.mu (k.kv s).2 < k.mu s) := by
 obtain ⟨h1, h2, h3, h4⟩ := h.kv
 have h5 : k.lost (k.kv s).2 <= k.lost s := (Jl.kvl s.ep (t := ([], s)) h).lo
 refine ⟨⟨h1, h5, by unfold Jk.ph; omega⟩, fun e => ?_⟩
 have := h4 e
 unfold Jk.mu Jk.ph
 omega
theorem wkl_le : ∀ (l : List Nat) (t : (Js × List En) × Bool), JI k t.1.1 -> Jl k t.1.1 (l.foldl (wkP k.al k.mp) t).1.1 /\ (l.foldl (wkP k.al k.mp) t).1.2.length = t.1.2.length /\ ((l.foldl (wkP k.al k.mp) t).2 = true -> t.2 = true \/ k.lost (l.foldl (wkP k.al k.mp) t).1.1 < k.lost t.1.1)
 | [], t, h => ⟨Jl.refl h, rfl, fun e => Or.inl e⟩
 | i :: l, t, h => by
  rw [List.foldl_cons]
  have key : Jl k t.1.1 (wkP k.al k.mp t i).1.1 /\ (wkP k.al k.mp t i).1.2.length = t.1.2.length /\ ((wkP k.al k.mp t i).2 = true -> t.2 = true \/ k.lost (wkP k.al k.mp t i).1.1 < k.lost t.1.1) := by
   unfold wkP
   split
   ·exact ⟨Jl.refl h, rfl, fun e => Or.inl e⟩
   ·rename_i c
    refine ⟨Jl.ma h _, by simp, fun _ => Or.inr (ma_lt h _ ?_)⟩
    rw [Bool.or_eq_true] at c
    cases hj : k.jl t.1.1 (t.1.2.getD i (0, 0)).2
    ·exact absurd (Or.inl (by unfold Jk.al; rw [hj]; rfl)) c
    ·rfl
  obtain ⟨k1, k2, k3⟩ := key
  obtain ⟨j1, j2, j3⟩ := wkl_le l (wkP k.al k.mp t i) k1.ji
  refine ⟨k1.trans j1, j2.trans k2, fun e => ?_⟩
  rcases j3 e with d | d
  ·rcases k3 d with d | d
   ·exact Or.inl d
   ·exact Or.inr (Nat.lt_of_le_of_lt j1.lo d)
  ·exact Or.inr (Nat.lt_of_lt_of_le d k1.lo)
theorem Jl.wa {t : Js × List En} (h : JI k t.1) : Jl k t.1 (k.wa t).1.1 /\ (k.wa t).1.2.length = t.2.length /\ ((k.wa t).2 = true -> k.mu (k.wa t).1.1 < k.mu t.1) := by
 obtain ⟨h1, h2, h3⟩ := wkl_le (List.range t.2.length) (t, false) h
 have h1 : Jl k t.1 (k.wa t).1.1 := h1
 refine ⟨h1, h2, fun e => ?_⟩
 have h4 : k.lost (k.wa t).1.1 < k.lost t.1 := (h3 e).resolve_left (by simp)
 have h5 := h1.ph
 unfold Jk.mu
 omega
end
end Go.Proofs.YtalgochmjddodaaGreat
