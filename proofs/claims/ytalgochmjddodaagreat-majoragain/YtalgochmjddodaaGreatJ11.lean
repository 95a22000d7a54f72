/- Joined: Vw3, Vw5, Mn5. -/
import Derived.Test.YtalgochmjddodaaGreatJ09
import Derived.Deep.RegionHeld3
import Derived.Test.YtalgochmjddodaaGreatJ10
namespace Go.Proofs.YtalgochmjddodaaGreat
set_option maxRecDepth 100000
set_option maxHeartbeats 1000000
open Go.RowKit W Kp Stl
def shL (N y g : Nat) (ws : List Int) (Q : List En) (a : Int) : List Int :=
 if pk (ld N y g ws a) = 5 then atL Q (ew 3 a) else (List.range (stN N y g a (pf (ld N y g ws a))).toNat).map (fun i : Nat => ld N y g ws (a + 1 + (i : Int)))
theorem shL_len (N y g : Nat) (ws : List Int) (Q : List En) (a : Int) : (shL N y g ws Q a).length <= Q.length + 12 := by
 unfold shL
 split
 ·have := atL_len Q (ew 3 a)
  omega
 ·have h1 : stN N y g a (pf (ld N y g ws a)) <= 12 := by unfold stN; exact Int.le_trans (Int.min_le_left _ _) (pf_bd _).2
  simp
  omega
section
variable {w : World} {pw p q N O y g : Nat} {ws : List Int} {sd : Nat} {v0 : Value} {a1 : Option Addr} {k1 : Nat} {Q : List En}
theorem shown_any (h : Wq w pw p q N O y g ws sd v0 a1 k1 Q) (kb : Nat) (hk : w.cell? ⟨kb, 0, none⟩ = some (.pointer (some ⟨pw, 0, none⟩))) (a : Int) (l0 : 0 <= a) (l1 : a <= 100000) :
    Calls Tryz.prog 249 #[.pointer (some ⟨kb, 0, none⟩), .int .i64 a, .int .i64 (pk (ld N y g ws a)), .int .i64 (pf (ld N y g ws a))] w fun e w' => ∃ ad cap, e = .returned (.slice ad (shL N y g ws Q a).length cap) /\ w'.ownsRow w.heap.size 2 1 (.slice ad (shL N y g ws Q a).length cap) (shL N y g ws Q a).length ((shL N y g ws Q a).map (Value.int .i64)) /\ Below w.heap.size w w' := by
  obtain ⟨i0, hi, hz0, hz1, hz2⟩ := info_parts info64
  have H : Hid (Wq w pw p q N O y g ws sd v0 a1 k1 Q) := h
  have c0 := h.c0
  have c2 := h.c2
  have lpw := World.block_lt_of_cell? w _ c0
  have lkb := World.block_lt_of_cell? w _ hk
  clear h
  by_cases h5 : pk (ld N y g ws a) = 5
  · have e0 : shL N y g ws Q a = atL Q (ew 3 a) := by unfold shL; rw [if_pos h5]
    rw [e0, h5]
    clear e0 h5
    generalize pf (ld N y g ws a) = f
    have hd := (Below.refl w.heap.size w).drew
    go_enter Tryz.func249, Tryz.ntmps249
    go_wp2_with fail
    go_region_held3 (fun w' => w'.cell? ⟨kb, 0, none⟩ = some (.pointer (some ⟨pw, 0, none⟩)) /\ w'.cell? ⟨pw, 2, none⟩ = some (.pointer (some ⟨sd, 0, none⟩))) (first | exact ⟨hk, c2⟩ | exact ⟨u0, u1⟩ | exact ⟨v0', v1'⟩ | go_keep)
      (first | (have hb8 := hb3; go_at_call 252; refine (atS_any _ sd v0 a1 k1 Q (ew 3 a) (H.out.low hb3).hs (H.out.low hb3).hp (H.out.low hb3).hm).mono ?_; rintro e w5 ⟨ad, cap, rfl, hR5, hb5⟩; have l5 := hb5.size; have v0' := (hb5.cell (p := ⟨kb, 0, none⟩) (Nat.lt_of_lt_of_le lkb l3)).trans u0; have v1' := (hb5.cell (p := ⟨pw, 2, none⟩) (Nat.lt_of_lt_of_le lpw l3)).trans u1)
             | (go_at_call 49; refine (ref_any a _).mono ?_; rintro e w3 ⟨rfl, hb3'⟩; have hb3 : Below w.heap.size w w3 := hd.trans hb3'; have l3 := hb3.size; have u0 := (hb3.cell (p := ⟨kb, 0, none⟩) lkb).trans hk; have u1 := (hb3.cell (p := ⟨pw, 2, none⟩) lpw).trans c2))
    go_wp2_with fail
    go_ret
    exact ⟨ad, cap, rfl, row_base hR5 (fun k e => Nat.le_trans l3 (row_lt hR5 k e).1), hb3.trans (hb5.mono l3)⟩
  · have e0 : shL N y g ws Q a = (List.range (stN N y g a (pf (ld N y g ws a))).toNat).map (fun i : Nat => ld N y g ws (a + 1 + (i : Int))) := by unfold shL; rw [if_neg h5]
    rw [e0]
    have hst : stN N y g a (pf (ld N y g ws a)) <= 12 := by unfold stN; exact Int.le_trans (Int.min_le_left _ _) (pf_bd _).2
    have KS := standing_any a (pf (ld N y g ws a)) w c0 H.out.ar l0 l1
    clear e0
    generalize stN N y g a (pf (ld N y g ws a)) = st at KS hst ⊢
    generalize pf (ld N y g ws a) = f at KS ⊢
    generalize pk (ld N y g ws a) = kd at h5 ⊢
    have KL : Hid (∀ w1 x, Below w.heap.size w w1 -> Calls Tryz.prog 119 #[.pointer (some ⟨p, 0, none⟩), .int .i64 x] w1 fun e w' => e = .returned (.int .i64 (ld N y g ws x)) /\ Below w1.heap.size w1 w') := fun w1 x hb => load_any x w1 (H.out.low hb).ar
    clear H
    simp only [List.length_map, List.length_range]
    go_enter Tryz.func249, Tryz.ntmps249
    go_wp2_with fail
    refine KS.mono ?_
    clear KS
    rintro e w1 ⟨rfl, hb1⟩
    go_wp2_with fail
    go_loopw [9, 30] (fun tv iv wr => ∃ (j : Nat) (at1 : Option Addr) (ct : Nat), j <= st.toNat /\ iv = .int .i64 j /\ tv = .slice at1 j ct /\ wr.ownsRow w.heap.size 2 1 (.slice at1 j ct) j (((List.range j).map (fun i : Nat => ld N y g ws (a + 1 + (i : Int)))).map (Value.int .i64)) /\ Below w.heap.size w wr) (fun _ iv _ => st.toNat - (intOf iv).toNat)
    case atStart => exact ⟨0, none, 0, Nat.zero_le _, rfl, rfl, World.ownsRow_nil _ _ _ _, hb1⟩
    case round =>
      obtain ⟨j, at1, ct, hj, rfl, rfl, hT, hb⟩ := hrel
      clear hb1
      by_cases hlt : j < st.toNat
      · have x0 := (hb.cell (p := ⟨kb, 0, none⟩) lkb).trans hk
        have x1 := (hb.cell (p := ⟨pw, 0, none⟩) lpw).trans c0
        have hj1 : (j : Int) < st := by omega
        have hsz := hb.size
        go_wp2_with fail
        refine (KL.out wr (a + 1 + (j : Int)) hb).mono ?_
        rintro e w2 ⟨rfl, hb2⟩
        have hT2 := row_keep hT (fun k e => hb2.block k (row_lt hT k e).2)
        have hb12 := hb.trans (hb2.mono hsz)
        have hsz2 := hb12.size
        have eL : (((List.range (j + 1)).map (fun i : Nat => ld N y g ws (a + 1 + (i : Int)))).map (Value.int .i64)) = (((List.range j).map (fun i : Nat => ld N y g ws (a + 1 + (i : Int)))).map (Value.int .i64)) ++ [.int .i64 (ld N y g ws (a + 1 + (j : Int)))] := by simp [List.range_succ]
        have EL : Hid (_ = _) := eL
        clear eL hT hb hb2 x0 x1
        generalize ld N y g ws (a + 1 + (j : Int)) = z at EL ⊢
        generalize ((List.range j).map (fun i : Nat => ld N y g ws (a + 1 + (i : Int)))).map (Value.int .i64) = L at hT2 EL
        go_wp2_with (at_builtin; refine wpList_append_own_at _ rfl _ _ 42 rfl w.heap.size 2 i0 (.int .i64 0) 1 8 Tryz.underlying42 hi hz0 hz1 hz2 rfl (by decide) (.slice at1 j ct) j L rfl (row_alloc hT2 _) ⟨w2.heap.size, 0, none⟩ 1 1 [.int .i64 z] rfl rfl ?_ ?_ ?_ ?_ ?_ ?_; (intro j u hj; match j, hj with | 0, hj => (simp at hj; subst hj; simp [Addr.add])); (intro u hu; simp at hu; subst hu; rfl); (unfold maxLen; omega); omega; (simp; omega); intro v' w4 hown4 hgrow4 _ hloc4; obtain ⟨b4, cap4, ev4⟩ := row_shape hown4 (Nat.succ_pos _); subst ev4)
        have hT4 : w4.ownsRow w.heap.size 2 1 (.slice (some ⟨b4, 0, none⟩) (j + 1) cap4) (j + 1) (((List.range (j + 1)).map (fun i : Nat => ld N y g ws (a + 1 + (i : Int)))).map (Value.int .i64)) := by rw [EL.out]; exact hown4
        have hb4 := (hb12.alloc hsz2 _).grown hgrow4 (by simp; omega) (fun k e => (row_lt hT2 k e.symm).1)
        clear hown4 hgrow4 hloc4 hT2 hb12 EL
        go_wp2_with fail
        go_roundw
        case rel => exact ⟨j + 1, some ⟨b4, 0, none⟩, cap4, by omega, by go_num, rfl, hT4, hb4⟩
        case measure => simp [intOf]; omega
      · obtain rfl : j = st.toNat := by omega
        have hj1 : ¬ ((st.toNat : Nat) : Int) < st := by omega
        go_wp2_with fail
        go_ret
        exact ⟨at1, ct, rfl, by rw [List.map_map] at hT; exact hT, hb⟩
end
end Go.Proofs.YtalgochmjddodaaGreat

namespace Go.Proofs.YtalgochmjddodaaGreat
set_option maxRecDepth 100000
set_option maxHeartbeats 1000000
open Go.RowKit W Kp Stl
def Fb (m : List Vnd) (k : Nat) : Prop := ∃ x ∈ m, 0 < x.2.2.2.length /\ ∃ o, x.2.1 = some ⟨k, o, none⟩
def Kv (w0 w : World) (m : List Vnd) (w' : World) (m' : List Vnd) : Prop := Kf w0.heap.size w w' /\ ∀ k, Fb m' k -> Fb m k \/ w.heap.size <= k
theorem Kv.refl (w0 w : World) (m : List Vnd) : Kv w0 w m w m := ⟨Kf.refl _ _, fun _ h => Or.inl h⟩
theorem Kv.trans {w0 w w' w'' : World} {m m' m'' : List Vnd} (h : Kv w0 w m w' m') (k : Kv w0 w' m' w'' m'') : Kv w0 w m w'' m'' :=
 ⟨h.1.trans k.1, fun i hi => (k.2 i hi).elim (h.2 i) (fun c => Or.inr (Nat.le_trans h.1.size c))⟩
theorem Kv.of {w0 w w' : World} {m : List Vnd} (h : Below w.heap.size w w') : Kv w0 w m w' m := ⟨Kf.of h, fun _ h => Or.inl h⟩
theorem Kv.new {w0 w w' w'' : World} {m m' : List Vnd} {X : Nat -> Prop} (h : Kv w0 w m w' m') (f : Fr X w' w'') (hx : ∀ k, X k -> w.heap.size <= k) : Kv w0 w m w'' m' :=
 ⟨⟨f.os.trans h.1.os, f.tape.trans h.1.tape, f.output.trans h.1.output, Nat.le_trans h.1.size f.size, fun k hk hb => (f.block k (Nat.lt_of_lt_of_le hk h.1.size) (fun c => by have := hx k c; omega)).trans (h.1.low k hk hb),
  fun k cs e mm hk h1 h2 => (f.block k (Nat.lt_of_lt_of_le (lt_of_some hk) h.1.size) (fun c => by have := hx k c; have := lt_of_some hk; omega)).trans (h.1.oth k cs e mm hk h1 h2)⟩, h.2⟩
section
variable {w0 w w' : World} {kb mq pw : Nat} {T : List Int} {s : Vst} {vn : Value} {m : List Vnd}
theorem Wk.fb (h : Wk w0 w kb mq pw T s vn m) (k : Nat) (hk : Fb m k) : k < w.heap.size := by
 obtain ⟨x, hx, hl, o, e⟩ := hk
 obtain ⟨b, o', cs, e', hb⟩ := (h.fl x hx).2 hl
 rw [e] at e'
 cases e'
 exact lt_of_some hb
theorem Wk.but {X : Nat -> Prop} (h : Wk w0 w kb mq pw T s vn m) (f : Fr X w w') (hX : ∀ k, k < w.heap.size -> X k -> (∃ cs, w.heap[k]? = some (.cells cs 95 (0, 0))) /\ ¬ Fb m k /\ w0.heap.size <= k) : Wk w0 w' kb mq pw T s vn m := by
 obtain ⟨D, o1, o2, o3⟩ := h.mp
 have n1 : ¬ X kb := fun c => by
  obtain ⟨⟨cs, hc⟩, _⟩ := hX kb (lt_of_some h.blk) c
  rw [h.blk] at hc
  simp at hc
 have n2 : ¬ X mq := fun c => by
  obtain ⟨⟨cs, hc⟩, _⟩ := hX mq o1.lt c
  obtain ⟨es, clock, hb, _⟩ := o1
  rw [hb] at hc
  simp at hc
 refine ⟨(f.block kb (lt_of_some h.blk) n1).trans h.blk, h.lo, h.mp.same (f.block mq o1.lt n2), row_keep h.row (fun k hk => f.block k (row_lt h.row k hk).2 (fun c => ?_)), h.nd, fun x hx => ?_, h.bel.trans ⟨f.os, f.tape, f.output, f.size, fun k hk => f.block k (Nat.lt_of_lt_of_le hk h.bel.size) (fun c => by have := (hX k (Nat.lt_of_lt_of_le hk h.bel.size) c).2.2; omega)⟩⟩
 ·obtain ⟨⟨cs, hc⟩, _⟩ := hX k (row_lt h.row k hk).2 c
  obtain ⟨cur, hcur⟩ := row_type h.row k hk
  rw [hcur] at hc
  simp at hc
 ·have hl := h.fl x hx
  have hk : 0 < x.2.2.2.length -> ∀ b, x.2.1 = some b -> w'.heap[b.block]? = w.heap[b.block]? := fun hp b e => by
   obtain ⟨b0, o0, cs, e0, hb⟩ := hl.2 hp
   have e' := e
   rw [e0] at e'
   cases e'
   exact f.block _ (lt_of_some hb) (fun c => (hX _ (lt_of_some hb) c).2.1 ⟨x, hx, hp, o0, e0⟩)
  refine ⟨hl.1.keep f.size hk, fun hp => ?_⟩
  obtain ⟨b0, o0, cs, e0, hb⟩ := hl.2 hp
  exact ⟨b0, o0, cs, e0, (hk hp _ e0).trans hb⟩
end
def Meets (w0 : World) (kb mq pw : Nat) (T : List Int) (M : Vst -> Int -> Vst) (n : Nat) : Prop :=
 ∀ (w : World) (s : Vst) (vn : Value) (m : List Vnd) (a : Int), Wk w0 w kb mq pw T s vn m -> VOk T s -> a ∈ T -> a ∉ s.1 -> T.length <= s.1.length + n ->
  Calls Tryz.prog 238 #[.pointer (some ⟨kb, 0, none⟩), .int .i64 a] w fun e w' => ∃ vn' m', e = .returned (.int .i64 s.1.length) /\ Wk w0 w' kb mq pw T (M s a) vn' m' /\ Kv w0 w m w' m'
theorem infoVal : (Tryz.prog.info? 95).map (fun i => (i.zero, i.size, i.bytes)) = some (some (.agg #[.int .i64 0, .int .i64 0]), 2, 16) := by kernel_rfl
section
variable {w0 w : World} {kb mq pw n : Nat} {T : List Int} {kd : Int -> Int} {sh : Int -> List Int} {M : Vst -> Int -> Vst} {s : Vst} {vn : Value} {m : List Vnd}
theorem number_no (h : Wk w0 w kb mq pw T s vn m) (a : Int) (a0 : 0 <= a) (a1 : a < 1152921504606846976) (hT : T.contains a = false) :
  Calls Tryz.prog 220 #[.pointer (some ⟨kb, 0, none⟩), .int .i64 a] w fun e w' => ∃ x, e = .returned (.tuple #[.int .i64 x, .bool false]) /\ w' = w := by
 obtain ⟨c0, c1, c2, lk⟩ := h.cells
 obtain ⟨D, o1, o2, o3⟩ := h.mp
 have hky := keyI a0 a1
 have E2 := o2 a
 rw [hT] at E2
 have E2 : Hid (Maps.has D (.int .i64 a) = false) := E2
 clear h o2 o3 hT
 rename_i E2'
 clear E2'
 go_enter Tryz.func220, Tryz.ntmps220
 go_wp2_with (at_lookup; refine wpList_lookup_own_ok_int _ rfl _ _ 104 rfl 3 3 .i64 lawI Tryz.underlying104 Tryz.underlying3 (zeroI _) mq T.length D rfl o1 _ _ rfl hky ?_; intro c hat hwc; rw [E2.out]; clear hat hwc)
 go_ret2
 exact ⟨c, rfl, rfl⟩
def nX (s : Vst) (a : Int) : Int := if s.1.contains a = true then (s.1.idxOf a : Int) else s.1.length
def nS (M : Vst -> Int -> Vst) (s : Vst) (a : Int) : Vst := if s.1.contains a = true then s else M s a
theorem number_yes (hM : Meets w0 kb mq pw T M n) (h : Wk w0 w kb mq pw T s vn m) (ho : VOk T s) (hn : T.length <= s.1.length + n) (a : Int) (a0 : 0 <= a) (a1 : a < 1152921504606846976) (haT : a ∈ T) :
  Calls Tryz.prog 220 #[.pointer (some ⟨kb, 0, none⟩), .int .i64 a] w fun e w' => ∃ vn' m', e = .returned (.tuple #[.int .i64 (nX s a), .bool true]) /\ Wk w0 w' kb mq pw T (nS M s a) vn' m' /\ Kv w0 w m w' m' := by
 have H : Hid (Wk w0 w kb mq pw T s vn m) := h
 have HM : Hid (Meets w0 kb mq pw T M n) := hM
 obtain ⟨c0, c1, c2, lk⟩ := h.cells
 obtain ⟨D, o1, o2, o3⟩ := h.mp
 have hky := keyI a0 a1
 have E2 : Hid (Maps.has D (.int .i64 a) = true) := (o2 a).trans (by simpa using haT)
 have e3 := o3 a haT
 clear h hM o2 o3
 by_cases hms : a ∈ s.1
 ·rw [nb_yes hms] at e3
  have E3' : Hid (_ = _) := e3
  have f1 : nX s a = (s.1.idxOf a : Int) := by unfold nX; rw [if_pos (by simpa using hms)]
  have f2 : nS M s a = s := by unfold nS; rw [if_pos (by simpa using hms)]
  rw [f1, f2]
  clear e3 HM ho hn haT hms f1 f2
  generalize s.1.idxOf a = L at E3' ⊢
  have hL : ¬ ((L : Int) = -1) := by omega
  have hL2 : ¬ (-1 = (L : Int)) := by omega
  go_enter Tryz.func220, Tryz.ntmps220
  go_wp2_with (at_lookup; refine wpList_lookup_own_ok_int _ rfl _ _ 104 rfl 3 3 .i64 lawI Tryz.underlying104 Tryz.underlying3 (zeroI _) mq T.length D rfl o1 _ _ rfl hky ?_; intro c hat hwc; rw [E2.out]; (have hc : c = (L : Int) := by have := hat.symm.trans E3'.out; simpa using this); subst hc; clear hat hwc)
  go_ret2
  exact ⟨vn, m, rfl, H.out, Kv.refl _ _ _⟩
 ·rw [nb_no hms] at e3
  have E3' : Hid (_ = _) := e3
  have f1 : nX s a = s.1.length := by unfold nX; rw [if_neg (by simpa using hms)]
  have f2 : nS M s a = M s a := by unfold nS; rw [if_neg (by simpa using hms)]
  rw [f1, f2]
  have P := HM.out w s vn m a H.out ho haT hms hn
  clear e3 HM ho hn haT hms f1 f2
  generalize M s a = s' at P ⊢
  generalize s.1.length = L at P ⊢
  go_enter Tryz.func220, Tryz.ntmps220
  go_wp2_with (at_lookup; refine wpList_lookup_own_ok_int _ rfl _ _ 104 rfl 3 3 .i64 lawI Tryz.underlying104 Tryz.underlying3 (zeroI _) mq T.length D rfl o1 _ _ rfl hky ?_; intro c hat hwc; rw [E2.out]; (have hc : c = -1 := by have := hat.symm.trans E3'.out; simpa using this); subst hc; clear hat hwc)
  refine P.mono ?_
  clear P
  rintro e w1 ⟨vn', m', rfl, h1, k1⟩
  have H1 : Hid (_ /\ _) := ⟨h1, k1⟩
  clear h1 k1 c0 c1 c2
  go_wp2_with fail
  go_ret2
  exact ⟨vn', m', rfl, H1.out.1, H1.out.2⟩
theorem dn_bd (x : Int) (h : dk x = 3) : 0 <= dn x /\ dn x < 1152921504606846976 := by
 have h0 : dc x = 0 := by
  by_cases c : dc x = 0
  ·exact c
  ·unfold dk at h
   rw [if_neg c] at h
   omega
 have h1 := (enc_dec x h0).1
 rw [h] at h1
 rw [vc3] at h1
 unfold rc at h1
 split at h1
 ·omega
 ·split at h1
  ·omega
  ·omega
theorem value_any (hM : Meets w0 kb mq pw T M n) (h : Wk w0 w kb mq pw T s vn m) (ho : VOk T s) (hn : T.length <= s.1.length + n) (x : Int) :
  Calls Tryz.prog 168 #[.pointer (some ⟨kb, 0, none⟩), .int .i64 x] w fun e w' => ∃ vn' m', e = .returned (.agg #[.int .i64 (vst M T s x).1.1, .int .i64 (vst M T s x).1.2]) /\ Wk w0 w' kb mq pw T (vst M T s x).2 vn' m' /\ Kv w0 w m w' m' := by
 have H : Hid (Wk w0 w kb mq pw T s vn m) := h
 have ba := (Below.refl w.heap.size w).alloc (Nat.le_refl _) (.cells #[.int .i64 0, .int .i64 0] 95)
 have hr0 := heap_alloc_new w (.cells #[.int .i64 0, .int .i64 0] 95)
 have P := decode_any x (w.alloc (.cells #[.int .i64 0, .int .i64 0] 95))
 clear h
 by_cases h3 : dk x = 3
 ·have hbd := dn_bd x h3
  rw [h3] at P
  cases hT : T.contains (dn x)
  ·have ev : vst M T s x = ((0, 0), s) := by unfold vst; rw [if_pos h3, hT, if_neg (by simp)]
   rw [ev]
   clear ev h3
   generalize dn x = a at P hbd hT
   generalize dc x = cc at P
   have KN : Hid (∀ w1, Below w.heap.size w w1 -> Calls Tryz.prog 220 #[.pointer (some ⟨kb, 0, none⟩), .int .i64 a] w1 fun e w' => ∃ x, e = .returned (.tuple #[.int .i64 x, .bool false]) /\ w' = w1) := fun w1 hb => number_no (H.out.below hb) a hbd.1 hbd.2 hT
   clear hM ho hn hT
   go_enter Tryz.func168, Tryz.ntmps168
   go_wp2_with fail
   refine P.mono ?_
   clear P
   rintro e w1 ⟨rfl, hb1⟩
   have hr1 := (hb1.block w.heap.size (by simp)).trans hr0
   have hB1 := ba.trans (hb1.mono (by simp))
   have hs1 := hb1.size
   simp at hs1
   have hbv := (Below.refl w1.heap.size w1).alloc (Nat.le_refl _) (.cells #[.int .i64 3, .int .i64 a] 95)
   have hB2 := hB1.trans (hbv.mono (by omega))
   have hr2 := (hbv.block w.heap.size (by omega)).trans hr1
   clear hr0 hr1 ba hb1
   go_wp2_with fail
   refine (KN.out _ hB2).mono ?_
   rintro e w3 ⟨z, rfl, hw3⟩
   rw [<- hw3] at hr2 hB2 hbv
   have hs3 : w.heap.size < w3.heap.size := by rw [hw3]; simp; omega
   clear hw3
   have y0 : w3.cell? ⟨w.heap.size, 0, none⟩ = some (.int .i64 0) := by simp [World.cell?, hr2]
   have y1 : w3.cell? ⟨w.heap.size, 1, none⟩ = some (.int .i64 0) := by simp [World.cell?, hr2]
   have f0 : w3.frozen? ⟨w.heap.size, 0, none⟩ = false := by simp [World.frozen?, hr2]
   have f1 : w3.frozen? ⟨w.heap.size, 1, none⟩ = false := by simp [World.frozen?, hr2]
   have KK : Hid (Kv w0 w m w3 m) := Kv.of hB2
   have HW : Hid (∀ w4, Fr (fun k => k = w.heap.size) w3 w4 -> Wk w0 w4 kb mq pw T s vn m) := fun w4 f => (H.out.below hB2).but f (fun k _ e => by
    have e : k = w.heap.size := e
    rw [e]
    exact ⟨⟨_, hr2⟩, fun c => by have := H.out.fb _ c; omega, H.out.bel.size⟩)
   clear KN hr2 hbv hB1 hB2 H
   go_wp2_with fail
   obtain ⟨W0, hW0⟩ : ∃ W0, W0 = (w3.setCell ⟨w.heap.size, 0, none⟩ (.int .i64 0)).setCell ⟨w.heap.size, 1, none⟩ (.int .i64 0) := ⟨_, rfl⟩
   rw [<- hW0]
   have g0 : W0.cell? ⟨w.heap.size, 0, none⟩ = some (.int .i64 0) := by
    rw [hW0, World.cell?_setCell_other _ _ _ _ (by simp)]
    exact World.cell?_setCell_same _ _ _ y0
   have g1 : W0.cell? ⟨w.heap.size, 1, none⟩ = some (.int .i64 0) := by
    rw [hW0]
    exact World.cell?_setCell_same _ _ _ ((World.cell?_setCell_other w3 ⟨w.heap.size, 0, none⟩ ⟨w.heap.size, 1, none⟩ _ (by simp)).trans y1)
   have hF : Fr (fun k => k = w.heap.size) w3 W0 := by rw [hW0]; exact ((Fr.refl (fun k => k = w.heap.size) w3).set w.heap.size 0 _ rfl).set w.heap.size 1 _ rfl
   clear hW0
   exact bodyPost_ret (v := .agg #[.int .i64 0, .int .i64 0]) (by simp [results, Tryz.results168, go_sem, g0, g1]) rfl ⟨vn, m, rfl, HW.out W0 hF, KK.out.new hF (fun k e => Nat.le_of_eq (Eq.symm e))⟩
  ·have haT : dn x ∈ T := by simpa using hT
   have ev : vst M T s x = ((3, nX s (dn x)), nS M s (dn x)) := by
    unfold vst nX nS
    rw [if_pos h3, if_pos hT]
    split <;> rfl
   rw [ev]
   clear ev h3 hT
   generalize dn x = a at P hbd haT ⊢
   generalize dc x = cc at P
   have KN : Hid (∀ w1, Below w.heap.size w w1 -> Calls Tryz.prog 220 #[.pointer (some ⟨kb, 0, none⟩), .int .i64 a] w1 fun e w' => ∃ vn' m', e = .returned (.tuple #[.int .i64 (nX s a), .bool true]) /\ Wk w0 w' kb mq pw T (nS M s a) vn' m' /\ Kv w0 w1 m w' m') := fun w1 hb => number_yes hM (H.out.below hb) ho hn a hbd.1 hbd.2 haT
   clear hM ho hn haT
   generalize nX s a = z at KN ⊢
   generalize nS M s a = s' at KN ⊢
   go_enter Tryz.func168, Tryz.ntmps168
   go_wp2_with fail
   refine P.mono ?_
   clear P
   rintro e w1 ⟨rfl, hb1⟩
   have hr1 := (hb1.block w.heap.size (by simp)).trans hr0
   have hB1 := ba.trans (hb1.mono (by simp))
   have hs1 := hb1.size
   simp at hs1
   have hbv := (Below.refl w1.heap.size w1).alloc (Nat.le_refl _) (.cells #[.int .i64 3, .int .i64 a] 95)
   have hB2 := hB1.trans (hbv.mono (by omega))
   have hr2 := (hbv.block w.heap.size (by omega)).trans hr1
   clear hr0 hr1 ba hb1
   go_wp2_with fail
   refine (KN.out _ hB2).mono ?_
   rintro e w3 ⟨vn', m', rfl, hW, hK⟩
   have hr3 := (hK.1.oth _ _ _ _ hr2 (by decide) (by decide)).trans hr2
   have hs3 := hK.1.size
   simp at hs3
   have y0 : w3.cell? ⟨w.heap.size, 0, none⟩ = some (.int .i64 0) := by simp [World.cell?, hr3]
   have y1 : w3.cell? ⟨w.heap.size, 1, none⟩ = some (.int .i64 0) := by simp [World.cell?, hr3]
   have f0 : w3.frozen? ⟨w.heap.size, 0, none⟩ = false := by simp [World.frozen?, hr3]
   have f1 : w3.frozen? ⟨w.heap.size, 1, none⟩ = false := by simp [World.frozen?, hr3]
   have l3 : w.heap.size < w3.heap.size := by omega
   have hnf : ¬ Fb m' w.heap.size := fun c => (hK.2 _ c).elim (fun c => by have := H.out.fb _ c; omega) (fun c => by simp at c; omega)
   have KK : Hid (Kv w0 w m w3 m') := (Kv.of hB2).trans hK
   have HW : Hid (∀ w4, Fr (fun k => k = w.heap.size) w3 w4 -> Wk w0 w4 kb mq pw T s' vn' m') := fun w4 f => hW.but f (fun k _ e => by
    have e : k = w.heap.size := e
    rw [e]
    exact ⟨⟨_, hr3⟩, hnf, H.out.bel.size⟩)
   clear KN hr2 hbv hB1 hB2 hK hr3 hnf hW H
   go_wp2_with fail
   obtain ⟨W0, hW0⟩ : ∃ W0, W0 = (w3.setCell ⟨w.heap.size, 0, none⟩ (.int .i64 3)).setCell ⟨w.heap.size, 1, none⟩ (.int .i64 z) := ⟨_, rfl⟩
   rw [<- hW0]
   have g0 : W0.cell? ⟨w.heap.size, 0, none⟩ = some (.int .i64 3) := by
    rw [hW0, World.cell?_setCell_other _ _ _ _ (by simp)]
    exact World.cell?_setCell_same _ _ _ y0
   have g1 : W0.cell? ⟨w.heap.size, 1, none⟩ = some (.int .i64 z) := by
    rw [hW0]
    exact World.cell?_setCell_same _ _ _ ((World.cell?_setCell_other w3 ⟨w.heap.size, 0, none⟩ ⟨w.heap.size, 1, none⟩ _ (by simp)).trans y1)
   have hF : Fr (fun k => k = w.heap.size) w3 W0 := by rw [hW0]; exact ((Fr.refl (fun k => k = w.heap.size) w3).set w.heap.size 0 _ rfl).set w.heap.size 1 _ rfl
   clear hW0
   exact bodyPost_ret (v := .agg #[.int .i64 3, .int .i64 z]) (by simp [results, Tryz.results168, go_sem, g0, g1]) rfl ⟨vn', m', rfl, HW.out W0 hF, KK.out.new hF (fun k e => Nat.le_of_eq (Eq.symm e))⟩
 ·have ev : vst M T s x = ((dk x, dn x), s) := by unfold vst; rw [if_neg h3]
  rw [ev]
  have hne : (dk x != 3) = true := by simpa using h3
  clear ev h3 hM ho hn
  generalize dk x = u at P hne ⊢
  generalize dn x = v at P ⊢
  generalize dc x = cc at P
  go_enter Tryz.func168, Tryz.ntmps168
  go_wp2_with fail
  refine P.mono ?_
  clear P
  rintro e w1 ⟨rfl, hb1⟩
  have hr1 := (hb1.block w.heap.size (by simp)).trans hr0
  have hB1 := ba.trans (hb1.mono (by simp))
  have hs1 := hb1.size
  simp at hs1
  have y0 : w1.cell? ⟨w.heap.size, 0, none⟩ = some (.int .i64 0) := by simp [World.cell?, hr1]
  have y1 : w1.cell? ⟨w.heap.size, 1, none⟩ = some (.int .i64 0) := by simp [World.cell?, hr1]
  have f0 : w1.frozen? ⟨w.heap.size, 0, none⟩ = false := by simp [World.frozen?, hr1]
  have f1 : w1.frozen? ⟨w.heap.size, 1, none⟩ = false := by simp [World.frozen?, hr1]
  have l1 : w.heap.size < w1.heap.size := by omega
  have n1 : ¬ w.heap.size = w1.heap.size := by omega
  have n2 : ¬ w1.heap.size = w.heap.size := by omega
  have hr1 : Hid (_ = _) := hr1
  clear hr0 ba hb1
  go_wp2_with fail
  obtain ⟨W0, hW0⟩ : ∃ W0, W0 = (w1.setCell ⟨w.heap.size, 0, none⟩ (.int .i64 u)).setCell ⟨w.heap.size, 1, none⟩ (.int .i64 v) := ⟨_, rfl⟩
  rw [<- hW0]
  have g0 : W0.cell? ⟨w.heap.size, 0, none⟩ = some (.int .i64 u) := by
   rw [hW0, World.cell?_setCell_other _ _ _ _ (by simp)]
   exact World.cell?_setCell_same _ _ _ y0
  have g1 : W0.cell? ⟨w.heap.size, 1, none⟩ = some (.int .i64 v) := by
   rw [hW0]
   exact World.cell?_setCell_same _ _ _ ((World.cell?_setCell_other w1 ⟨w.heap.size, 0, none⟩ ⟨w.heap.size, 1, none⟩ _ (by simp)).trans y1)
  have hF : Fr (fun k => k = w.heap.size) w1 W0 := by rw [hW0]; exact ((Fr.refl (fun k => k = w.heap.size) w1).set w.heap.size 0 _ rfl).set w.heap.size 1 _ rfl
  have sz0 : W0.heap.size = w1.heap.size := by rw [hW0]; simp [World.setCell]
  have hbN := (Below.refl W0.heap.size W0).alloc (Nat.le_refl _) (.cells #[.int .i64 u, .int .i64 v] 95)
  have HW := ((H.out.below hB1).but hF (fun k _ e => by
   have e : k = w.heap.size := e
   rw [e]
   exact ⟨⟨_, hr1.out⟩, fun c => by have := H.out.fb _ c; omega, H.out.bel.size⟩)).below hbN
  have KK := ((Kv.of (w0 := w0) (m := m) hB1).new hF (fun k e => Nat.le_of_eq (Eq.symm e))).trans (Kv.of hbN)
  have r0 := (hbN.cell (p := ⟨w.heap.size, 0, none⟩) (by show w.heap.size < _; omega)).trans g0
  have r1 := (hbN.cell (p := ⟨w.heap.size, 1, none⟩) (by show w.heap.size < _; omega)).trans g1
  clear hW0 hbN hF g0 g1 H y0 y1 f0 f1
  generalize W0.alloc (.cells #[.int .i64 u, .int .i64 v] 95) = WF at *
  exact bodyPost_ret (v := .agg #[.int .i64 u, .int .i64 v]) (by simp [results, Tryz.results168, go_sem, r0, r1]) rfl ⟨vn, m, rfl, HW, KK⟩
end
end Go.Proofs.YtalgochmjddodaaGreat

namespace Go.Proofs.YtalgochmjddodaaGreat
set_option maxRecDepth 100000
set_option maxHeartbeats 2000000
open Go.RowKit W Kp Stl
theorem aV_bd {x : Int} (h : aB x = true) : 0 <= aV x /\ aV x < 1152921504606846976 := by
 rw [aV_yes x h]
 unfold aB at h
 simp at h
 exact dn_bd x h.2
section
variable {c : Cc} {k : Ck} {vw ve : Value} {F : Nat -> Prop} {s : Cs} {w : World}
theorem fate_any (h : (cutV c k vw ve).J F s w) (x : Int) :
  Calls Tryz.prog 212 #[.pointer (some ⟨c.pk, 0, none⟩), .int .i64 x] w fun e w' => ∃ v, e = .returned (.tuple #[.int .i64 v, .bool (k.yg x)]) /\ (k.yg x = true -> v = s.f (aV x)) /\ Below w.heap.size w w' := by
 have HJ : Hid ((cutV c k vw ve).J F s w) := h
 have P := at_any x w
 clear h
 cases ha : aB x
 ·rw [ha] at P
  have e1 : k.yg x = false := by unfold Ck.yg; rw [ha]; rfl
  rw [e1]
  go_enter Tryz.func212, Tryz.ntmps212
  go_wp2_with fail
  refine P.mono ?_
  clear P
  rintro e w1 ⟨rfl, hb1⟩
  go_wp2_with fail
  go_ret2
  exact ⟨0, rfl, fun h => by simp at h, hb1⟩
 ·have e1 : k.yg x = k.T.contains (aV x) := by unfold Ck.yg; rw [ha]; rfl
  have hbd := aV_bd ha
  rw [e1]
  rw [ha] at P
  clear ha e1
  generalize aV x = a at P hbd ⊢
  have hky := keyI hbd.1 hbd.2
  obtain ⟨bt, hbt⟩ : ∃ bt, bt = k.T.contains a := ⟨_, rfl⟩
  rw [<- hbt]
  go_enter Tryz.func212, Tryz.ntmps212
  go_wp2_with fail
  refine P.mono ?_
  clear P
  rintro e w1 ⟨rfl, hb1⟩
  have hJ1 := (cutV c k vw ve).below HJ.out hb1
  obtain ⟨c0, c1, _⟩ := cut_cells hJ1
  obtain ⟨⟨D, o1, o2, o3⟩, _⟩ := cut_map hJ1
  have E2 : Hid (Maps.has D (.int .i64 a) = bt) := (o2 a).trans hbt.symm
  have E3 : Hid (bt = true -> D.atKey (.int .i64 a) (.lit (.int .i64 0)) = .lit (.int .i64 (s.f a))) := fun e => o3 a (by rw [hbt] at e; simpa using e)
  clear o2 o3 hbt hJ1 HJ
  go_wp2_with (at_lookup; refine wpList_lookup_own_ok_int _ rfl _ _ 104 rfl 3 3 .i64 lawI Tryz.underlying104 Tryz.underlying3 (zeroI _) c.mq k.T.length D rfl o1 _ _ rfl hky ?_; intro z hat hwc; rw [E2.out]; have E4 : Hid (bt = true -> z = s.f a) := (fun e => by have := hat.symm.trans (E3.out e); simpa using this); clear hat hwc)
  go_ret2
  exact ⟨z, rfl, E4.out, hb1⟩
theorem lost_any (h : (cutV c k vw ve).J F s w) (x : Int) :
  Calls Tryz.prog 145 #[.pointer (some ⟨c.pk, 0, none⟩), .int .i64 x] w fun e w' => e = .returned (.bool (k.ls s x)) /\ Below w.heap.size w w' := by
 have P := fate_any h x
 clear h
 cases hy : k.yg x
 ·have e1 : k.ls s x = false := by unfold Ck.ls; rw [hy]; rfl
  rw [e1]
  rw [hy] at P
  go_enter Tryz.func145, Tryz.ntmps145
  go_wp2_with fail
  refine P.mono ?_
  clear P
  rintro e w1 ⟨v, rfl, _, hb1⟩
  go_wp2_with fail
  go_ret
  exact ⟨rfl, hb1⟩
 ·have e1 : k.ls s x = (s.f (aV x) == -1) := by unfold Ck.ls; rw [hy]; rfl
  rw [e1]
  rw [hy] at P
  generalize s.f (aV x) = a at P ⊢
  go_enter Tryz.func145, Tryz.ntmps145
  go_wp2_with fail
  refine P.mono ?_
  clear P
  rintro e w1 ⟨v, rfl, hv, hb1⟩
  have hv := hv trivial
  subst hv
  go_wp2_with fail
  go_ret
  exact ⟨rfl, hb1⟩
theorem nowM_any (h : (cutV c k vw ve).J F s w) (x : Int) :
  Calls Tryz.prog 146 #[.pointer (some ⟨c.pk, 0, none⟩), .int .i64 x] w fun e w' => e = .returned (.int .i64 (k.nw s x)) /\ Below w.heap.size w w' := by
 have P := fate_any h x
 clear h
 cases hy : k.yg x
 ·have e1 : k.nw s x = x := by unfold Ck.nw; rw [hy]; simp
  rw [e1]
  rw [hy] at P
  go_enter Tryz.func146, Tryz.ntmps146
  go_wp2_with fail
  refine P.mono ?_
  clear P
  rintro e w1 ⟨v, rfl, _, hb1⟩
  go_wp2_with fail
  go_ret
  exact ⟨rfl, hb1⟩
 ·rw [hy] at P
  by_cases hf : s.f (aV x) = -1
  ·have e1 : k.nw s x = x := by unfold Ck.nw; rw [hy, hf]; simp
   rw [e1]
   rw [hf] at P
   go_enter Tryz.func146, Tryz.ntmps146
   go_wp2_with fail
   refine P.mono ?_
   clear P
   rintro e w1 ⟨v, rfl, hv, hb1⟩
   have hv := hv trivial
   subst hv
   go_wp2_with fail
   go_ret
   exact ⟨rfl, hb1⟩
  ·have e1 : k.nw s x = ew 3 (s.f (aV x)) := by unfold Ck.nw; rw [hy, if_pos (by simp [hf])]
   rw [e1]
   generalize s.f (aV x) = a at P hf ⊢
   have hf2 : ¬ (-1 = a) := fun e => hf e.symm
   go_enter Tryz.func146, Tryz.ntmps146
   go_wp2_with fail
   refine P.mono ?_
   clear P
   rintro e w1 ⟨v, rfl, hv, hb1⟩
   have hv := hv trivial
   subst hv
   go_wp2_with fail
   refine (ref_any v w1).mono ?_
   rintro e w2 ⟨rfl, hb2⟩
   go_wp2_with fail
   go_ret
   exact ⟨rfl, hb1.trans (hb2.mono hb1.size)⟩
theorem bring_any (h : (cutV c k vw ve).J F s w) (hI : CI k s) (x : Int) :
  Calls Tryz.prog 130 #[.pointer (some ⟨c.pk, 0, none⟩), .int .i64 x] w fun e w' => e = .returned (.int .i64 (k.br s x).1) /\ (cutV c k vw ve).J F (k.br s x).2 w' /\ Tn F w F w' := by
 have HJ : Hid ((cutV c k vw ve).J F s w) := h
 have P := lost_any h x
 clear h
 cases hl : k.ls s x
 ·have e1 : k.br s x = (k.nw s x, s) := by unfold Ck.br; rw [hl]; rfl
  rw [e1]
  rw [hl] at P
  go_enter Tryz.func130, Tryz.ntmps130
  go_wp2_with fail
  refine P.mono ?_
  clear P
  rintro e w1 ⟨rfl, hb1⟩
  have hJ1 := (cutV c k vw ve).below HJ.out hb1
  have P2 := nowM_any hJ1 x
  clear hJ1
  go_wp2_with fail
  refine P2.mono ?_
  rintro e w2 ⟨rfl, hb2⟩
  have hb := hb1.trans (hb2.mono hb1.size)
  clear P2 hb1 hb2
  go_wp2_with fail
  go_ret
  exact ⟨rfl, (cutV c k vw ve).below HJ.out hb, Tn.of hb⟩
 ·have e1 : k.br s x = (k.nw (k.cp s (aV x)) x, k.cp s (aV x)) := by unfold Ck.br; rw [if_pos hl]
  rw [e1]
  obtain ⟨l1, l2, l3⟩ := Ck.ls_yes hl
  have hbd := aV_bd l1
  have Pa := at_any x
  rw [hl] at P
  rw [l1] at Pa
  have hky := keyI hbd.1 hbd.2
  have E : Hid (k.cp s (aV x) = { s with g := cpG k.N k.O k.y s.g s.ws (aV x), ws := cpW k.N k.O k.y s.g s.ws (aV x), f := upf s.f (aV x) (cpR k.N k.O k.y s.g s.ws (aV x)) }) := rfl
  have n1 := hI.hN'
  have n2 := hI.hO
  have n3 := hI.hg
  have htl := hI.tl
  have hwf : (Lit.int .i64 (cpR k.N k.O k.y s.g s.ws (aV x))).wf = true := by
   unfold cpR
   split
   ·exact WalkArith.wf_i64 ⟨by omega, by omega⟩
   ·decide
  have hv := elI _ hwf
  generalize k.cp s (aV x) = s2 at E ⊢
  clear hI e1 hl l1 l3 hwf
  generalize aV x = a at *
  go_enter Tryz.func130, Tryz.ntmps130
  go_wp2_with fail
  refine P.mono ?_
  clear P
  rintro e w1 ⟨rfl, hb1⟩
  go_wp2_with fail
  refine (Pa w1).mono ?_
  rintro e w2 ⟨rfl, hb2⟩
  have hb := hb1.trans (hb2.mono hb1.size)
  have hJ2 := (cutV c k vw ve).below HJ.out hb
  obtain ⟨c0, c1, _, _, _, c5, _⟩ := cut_cells hJ2
  have hJd := (cutV c k vw ve).below hJ2 (Below.refl _ w2).drew
  obtain ⟨hA, hA2⟩ := cut_arena hJd
  have HA2 : Hid (_ /\ _) := ⟨hb, hA2⟩
  have C := copy_any a w2.drew hA
  clear hb1 hb2 hb Pa hA2 hJd hJ2
  go_wp2_with fail
  go_region_held3 (fun w' => w'.cell? ⟨c.pk, 0, none⟩ = some (.pointer (some ⟨c.pw, 0, none⟩)) /\ w'.cell? ⟨c.pk, 1, none⟩ = some (.map (some c.mq)) /\ w'.cell? ⟨c.pw, 0, none⟩ = some (.pointer (some ⟨c.p, 0, none⟩))) (go_keep)
   (first
    | (go_at_call 167; refine C.mono ?_; clear C; rintro e w3 ⟨rfl, hA3, hs3⟩; obtain ⟨hJ3, hT3⟩ := HA2.out.2 w3 _ _ hA3 hs3; obtain ⟨d0, d1, _, _, _, d5, _⟩ := cut_cells hJ3; obtain ⟨n4, n5⟩ := cut_ne hJ3; obtain ⟨⟨D, o1, o2, o3⟩, hM⟩ := cut_map hJ3; obtain ⟨w4, hrun, hown4, hgrow4⟩ := o1.update (t := 104) (e := 3) lawI Tryz.underlying104 (by unfold maxLen; omega) hky hv; have d6 := hgrow4.cell d0 (by simpa using n4); have d7 := hgrow4.cell d1 (by simpa using n4); have d8 := hgrow4.cell d5 (by simpa using n5); obtain ⟨hJ4, hT4⟩ := hM w4 _ (Mp.put o1 o2 o3 l2 hown4) ((Fr.refl _ w3).grown hgrow4 (fun b e => Or.inl (by cases e; rfl))); have HO : Hid ((cutV c k vw ve).J F s2 w4 /\ Tn F w F w4) := ⟨(by rw [E.out]; exact hJ4), (((Tn.of HA2.out.1).below (Below.refl _ w2).drew).trans hT3).trans hT4⟩; clear hA3 hs3 hJ3 hT3 o1 o2 o3 hM hown4 hgrow4 hJ4 hT4))
  clear d6 d7 d8 d0 d1 d5 hrun c0 c1 c5 E hv hky HA2
  go_wp2_with fail
  refine (nowM_any HO.out.1 x).mono ?_
  rintro e w5 ⟨rfl, hb5⟩
  go_wp2_with fail
  go_ret
  exact ⟨rfl, (cutV c k vw ve).below HO.out.1 hb5, HO.out.2.below hb5⟩
theorem keepField_any (h : (cutV c k vw ve).J F s w) (hI : CI k s) (a : Int) :
  Calls Tryz.prog 208 #[.pointer (some ⟨c.pk, 0, none⟩), .int .i64 a] w fun e w' => e = .returned (.tuple #[]) /\ (cutV c k vw ve).J F (k.kf s a) w' /\ Tn F w F w' := by
 have hJd := (cutV c k vw ve).below h (Below.refl _ w).drew
 obtain ⟨c0, _, _, _, _, c5, _⟩ := cut_cells h
 obtain ⟨hA, _⟩ := cut_arena hJd
 have L := load_any a w.drew hA
 have HI : Hid (CI k s) := hI
 have HJ : Hid ((cutV c k vw ve).J F s w.drew) := hJd
 have E : Hid (k.kf s a = k.st (k.br s (k.ld s a)).2 a (k.br s (k.ld s a)).1) := rfl
 have el : ld k.N k.y s.g s.ws a = k.ld s a := rfl
 rw [el] at L
 generalize k.kf s a = s2 at E ⊢
 generalize k.ld s a = x at E L
 clear h hI hJd hA el
 go_enter Tryz.func208, Tryz.ntmps208
 go_region_held3 (fun w' => w'.cell? ⟨c.pk, 0, none⟩ = some (.pointer (some ⟨c.pw, 0, none⟩)) /\ w'.cell? ⟨c.pw, 0, none⟩ = some (.pointer (some ⟨c.p, 0, none⟩))) (go_keep)
  (first
   | (go_at_call 119; refine L.mono ?_; clear L; rintro e w3 ⟨rfl, hb3⟩; have hJ3 := (cutV c k vw ve).below HJ.out hb3; obtain ⟨d0, _, _, _, _, d5, _⟩ := cut_cells hJ3; have HJ3 : Hid ((cutV c k vw ve).J F s w3 /\ Tn F w F w3) := ⟨hJ3, (Tn.of (Below.refl _ w).drew).below hb3⟩; clear hJ3 HJ)
   | (go_at_call 130; refine (bring_any HJ3.out.1 HI.out x).mono ?_; rintro e w4 ⟨rfl, hJ4, hT4⟩; obtain ⟨d0, _, _, _, _, d5, _⟩ := cut_cells hJ4; obtain ⟨hA4, hA5⟩ := cut_arena hJ4; have HJ4 : Hid (_ /\ _ /\ _) := ⟨HJ3.out.2.trans hT4, hA4, hA5⟩; clear hJ4 hT4 hA4 hA5)
   | (go_at_call 114; refine (store_any a (k.br s x).1 w4 HJ4.out.2.1).mono ?_; rintro e w5 ⟨rfl, hA5, hs5⟩; obtain ⟨hJ5, hT5⟩ := HJ4.out.2.2 w5 _ _ hA5 hs5; obtain ⟨d0, _, _, _, _, d5, _⟩ := cut_cells hJ5; have HJ5 : Hid ((cutV c k vw ve).J F s2 w5 /\ Tn F w F w5) := ⟨(by rw [E.out]; exact hJ5), HJ4.out.1.trans hT5⟩; clear hA5 hs5 hJ5 hT5))
 go_wp2_with fail
 go_end0
 exact ⟨rfl, HJ5.out.1, HJ5.out.2⟩
end
end Go.Proofs.YtalgochmjddodaaGreat
