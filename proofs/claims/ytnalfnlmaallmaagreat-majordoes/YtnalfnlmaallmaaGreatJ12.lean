/- Joined: Vw5, Vw6. -/
import Derived.Test.YtnalfnlmaallmaaGreatJ11
import Derived.Test.YtnalfnlmaallmaaGreatJ10
namespace Go.Proofs.YtnalfnlmaallmaaGreat
set_option maxRecDepth 100000
set_option maxHeartbeats 1000000
open Go.RowKit W Kp Stl
def Fb (m : List Vnd) (k : Nat) : Prop := ∃ x ∈ m, 0 < x.2.2.2.length /\ ∃ o, x.2.1 = some ⟨k, o, none⟩
def Kv (w0 w : World) (m : List Vnd) (w' : World) (m' : List Vnd) : Prop := Kf w0.heap.size w w' /\ ∀ k, Fb m' k -> Fb m k \/ w.heap.size <= k
theorem Kv.refl (w0 w : World) (m : List Vnd) : Kv w0 w m w m := ⟨Kf.refl _ _, fun _ h => Or.inl h⟩
theorem Kv.trans {w0 w w' w'' : World} {m m' m'' : List Vnd} (h : Kv w0 w m w' m') (k : Kv w0 w' m' w'' m'') : Kv w0 w m w'' m'' :=
 ⟨h.1.trans k.1, fun i hi => (k.2 i hi).elim (h.2 i) (fun c => Or.inr (Nat.le_trans h.1.size c))⟩
theorem Kv.of {w0 w w' : World} {m : List Vnd} (h : Below w.heap.size w w') : Kv w0 w m w' m := ⟨Kf.of h, fun _ h => Or.inl h⟩
theorem Kv.new {w0 w w' w'' : World} {m m' : List Vnd} {X : Nat -> Prop} (h : Kv w0 w m w' m') (f : Fr X w' w'') (hx : ∀ k, X k -> w.heap.size <= k) : Kv w0 w m w'' m' :=
 ⟨⟨f.os.trans h.1.os, f.tape.trans h.1.tape, f.output.trans h.1.output, Nat.le_trans h.1.size f.size, fun k hk hb => (f.block k (Nat.lt_of_lt_of_le hk h.1.size) (fun c => by have := hx k c; omega)).trans (h.1.low k hk hb),
  fun k cs e mm hk h1 h2 => (f.block k (Nat.lt_of_lt_of_le (lt_of_some hk) h.1.size) (fun c => by have := hx k c; have := lt_of_some hk; omega)).trans (h.1.oth k cs e mm hk h1 h2)⟩, h.2⟩
section
variable {w0 w w' : World} {kb mq pw : Nat} {T : List Int} {s : Vst} {vn : Value} {m : List Vnd}
theorem Wk.fb (h : Wk w0 w kb mq pw T s vn m) (k : Nat) (hk : Fb m k) : k < w.heap.size := by
 obtain ⟨x, hx, hl, o, e⟩ := hk
 obtain ⟨b, o', cs, e', hb⟩ := (h.fl x hx).2 hl
 rw [e] at e'
 cases e'
 exact lt_of_some hb
theorem Wk.but {X : Nat -> Prop} (h : Wk w0 w kb mq pw T s vn m) (f : Fr X w w') (hX : ∀ k, k < w.heap.size -> X k -> (∃ cs, w.heap[k]? = some (.cells cs 100 (0, 0))) /\ ¬ Fb m k /\ w0.heap.size <= k) : Wk w0 w' kb mq pw T s vn m := by
 obtain ⟨D, o1, o2, o3⟩ := h.mp
 have n1 : ¬ X kb := fun c => by
  obtain ⟨⟨cs, hc⟩, _⟩ := hX kb (lt_of_some h.blk) c
  rw [h.blk] at hc
  simp at hc
 have n2 : ¬ X mq := fun c => by
  obtain ⟨⟨cs, hc⟩, _⟩ := hX mq o1.lt c
  obtain ⟨es, clock, hb, _⟩ := o1
  rw [hb] at hc
  simp at hc
 refine ⟨(f.block kb (lt_of_some h.blk) n1).trans h.blk, h.lo, h.mp.same (f.block mq o1.lt n2), row_keep h.row (fun k hk => f.block k (row_lt h.row k hk).2 (fun c => ?_)), h.nd, fun x hx => ?_, h.bel.trans ⟨f.os, f.tape, f.output, f.size, fun k hk => f.block k (Nat.lt_of_lt_of_le hk h.bel.size) (fun c => by have := (hX k (Nat.lt_of_lt_of_le hk h.bel.size) c).2.2; omega)⟩⟩
 ·obtain ⟨⟨cs, hc⟩, _⟩ := hX k (row_lt h.row k hk).2 c
  obtain ⟨cur, hcur⟩ := row_type h.row k hk
  rw [hcur] at hc
  simp at hc
 ·have hl := h.fl x hx
  have hk : 0 < x.2.2.2.length -> ∀ b, x.2.1 = some b -> w'.heap[b.block]? = w.heap[b.block]? := fun hp b e => by
   obtain ⟨b0, o0, cs, e0, hb⟩ := hl.2 hp
   have e' := e
   rw [e0] at e'
   cases e'
   exact f.block _ (lt_of_some hb) (fun c => (hX _ (lt_of_some hb) c).2.1 ⟨x, hx, hp, o0, e0⟩)
  refine ⟨hl.1.keep f.size hk, fun hp => ?_⟩
  obtain ⟨b0, o0, cs, e0, hb⟩ := hl.2 hp
  exact ⟨b0, o0, cs, e0, (hk hp _ e0).trans hb⟩
end
def Meets (w0 : World) (kb mq pw : Nat) (T : List Int) (M : Vst -> Int -> Vst) (n : Nat) : Prop :=
 ∀ (w : World) (s : Vst) (vn : Value) (m : List Vnd) (a : Int), Wk w0 w kb mq pw T s vn m -> VOk T s -> a ∈ T -> a ∉ s.1 -> T.length <= s.1.length + n ->
  Calls Tryz.prog 243 #[.pointer (some ⟨kb, 0, none⟩), .int .i64 a] w fun e w' => ∃ vn' m', e = .returned (.int .i64 s.1.length) /\ Wk w0 w' kb mq pw T (M s a) vn' m' /\ Kv w0 w m w' m'
theorem infoVal : (Tryz.prog.info? 100).map (fun i => (i.zero, i.size, i.bytes)) = some (some (.agg #[.int .i64 0, .int .i64 0]), 2, 16) := by kernel_rfl
section
variable {w0 w : World} {kb mq pw n : Nat} {T : List Int} {kd : Int -> Int} {sh : Int -> List Int} {M : Vst -> Int -> Vst} {s : Vst} {vn : Value} {m : List Vnd}
theorem number_no (h : Wk w0 w kb mq pw T s vn m) (a : Int) (a0 : 0 <= a) (a1 : a < 1152921504606846976) (hT : T.contains a = false) :
  Calls Tryz.prog 219 #[.pointer (some ⟨kb, 0, none⟩), .int .i64 a] w fun e w' => ∃ x, e = .returned (.tuple #[.int .i64 x, .bool false]) /\ w' = w := by
 obtain ⟨c0, c1, c2, lk⟩ := h.cells
 obtain ⟨D, o1, o2, o3⟩ := h.mp
 have hky := keyI a0 a1
 have E2 := o2 a
 rw [hT] at E2
 have E2 : Hid (Maps.has D (.int .i64 a) = false) := E2
 clear h o2 o3 hT
 rename_i E2'
 clear E2'
 go_enter Tryz.func219, Tryz.ntmps219
 go_wp2_with (at_lookup; refine wpList_lookup_own_ok_int _ rfl _ _ 109 rfl 3 3 .i64 lawI Tryz.underlying109 Tryz.underlying3 (zeroI _) mq T.length D rfl o1 _ _ rfl hky ?_; intro c hat hwc; rw [E2.out]; clear hat hwc)
 go_ret2
 exact ⟨c, rfl, rfl⟩
def nX (s : Vst) (a : Int) : Int := if s.1.contains a = true then (s.1.idxOf a : Int) else s.1.length
def nS (M : Vst -> Int -> Vst) (s : Vst) (a : Int) : Vst := if s.1.contains a = true then s else M s a
theorem number_yes (hM : Meets w0 kb mq pw T M n) (h : Wk w0 w kb mq pw T s vn m) (ho : VOk T s) (hn : T.length <= s.1.length + n) (a : Int) (a0 : 0 <= a) (a1 : a < 1152921504606846976) (haT : a ∈ T) :
  Calls Tryz.prog 219 #[.pointer (some ⟨kb, 0, none⟩), .int .i64 a] w fun e w' => ∃ vn' m', e = .returned (.tuple #[.int .i64 (nX s a), .bool true]) /\ Wk w0 w' kb mq pw T (nS M s a) vn' m' /\ Kv w0 w m w' m' := by
 have H : Hid (Wk w0 w kb mq pw T s vn m) := h
 have HM : Hid (Meets w0 kb mq pw T M n) := hM
 obtain ⟨c0, c1, c2, lk⟩ := h.cells
 obtain ⟨D, o1, o2, o3⟩ := h.mp
 have hky := keyI a0 a1
 have E2 : Hid (Maps.has D (.int .i64 a) = true) := (o2 a).trans (by simpa using haT)
 have e3 := o3 a haT
 clear h hM o2 o3
 by_cases hms : a ∈ s.1
 ·rw [nb_yes hms] at e3
  have E3' : Hid (_ = _) := e3
  have f1 : nX s a = (s.1.idxOf a : Int) := by unfold nX; rw [if_pos (by simpa using hms)]
  have f2 : nS M s a = s := by unfold nS; rw [if_pos (by simpa using hms)]
  rw [f1, f2]
  clear e3 HM ho hn haT hms f1 f2
  generalize s.1.idxOf a = L at E3' ⊢
  have hL : ¬ ((L : Int) = -1) := by omega
  have hL2 : ¬ (-1 = (L : Int)) := by omega
  go_enter Tryz.func219, Tryz.ntmps219
  go_wp2_with (at_lookup; refine wpList_lookup_own_ok_int _ rfl _ _ 109 rfl 3 3 .i64 lawI Tryz.underlying109 Tryz.underlying3 (zeroI _) mq T.length D rfl o1 _ _ rfl hky ?_; intro c hat hwc; rw [E2.out]; (have hc : c = (L : Int) := by have := hat.symm.trans E3'.out; simpa using this); subst hc; clear hat hwc)
  go_ret2
  exact ⟨vn, m, rfl, H.out, Kv.refl _ _ _⟩
 ·rw [nb_no hms] at e3
  have E3' : Hid (_ = _) := e3
  have f1 : nX s a = s.1.length := by unfold nX; rw [if_neg (by simpa using hms)]
  have f2 : nS M s a = M s a := by unfold nS; rw [if_neg (by simpa using hms)]
  rw [f1, f2]
  have P := HM.out w s vn m a H.out ho haT hms hn
  clear e3 HM ho hn haT hms f1 f2
  generalize M s a = s' at P ⊢
  generalize s.1.length = L at P ⊢
  go_enter Tryz.func219, Tryz.ntmps219
  go_wp2_with (at_lookup; refine wpList_lookup_own_ok_int _ rfl _ _ 109 rfl 3 3 .i64 lawI Tryz.underlying109 Tryz.underlying3 (zeroI _) mq T.length D rfl o1 _ _ rfl hky ?_; intro c hat hwc; rw [E2.out]; (have hc : c = -1 := by have := hat.symm.trans E3'.out; simpa using this); subst hc; clear hat hwc)
  refine P.mono ?_
  clear P
  rintro e w1 ⟨vn', m', rfl, h1, k1⟩
  have H1 : Hid (_ /\ _) := ⟨h1, k1⟩
  clear h1 k1 c0 c1 c2
  go_wp2_with fail
  go_ret2
  exact ⟨vn', m', rfl, H1.out.1, H1.out.2⟩
theorem dn_bd (x : Int) (h : dk x = 3) : 0 <= dn x /\ dn x < 1152921504606846976 := by
 have h0 : dc x = 0 := by
  by_cases c : dc x = 0
  ·exact c
  ·unfold dk at h
   rw [if_neg c] at h
   omega
 have h1 := (enc_dec x h0).1
 rw [h] at h1
 rw [vc3] at h1
 unfold rc at h1
 split at h1
 ·omega
 ·split at h1
  ·omega
  ·omega
theorem value_any (hM : Meets w0 kb mq pw T M n) (h : Wk w0 w kb mq pw T s vn m) (ho : VOk T s) (hn : T.length <= s.1.length + n) (x : Int) :
  Calls Tryz.prog 165 #[.pointer (some ⟨kb, 0, none⟩), .int .i64 x] w fun e w' => ∃ vn' m', e = .returned (.agg #[.int .i64 (vst M T s x).1.1, .int .i64 (vst M T s x).1.2]) /\ Wk w0 w' kb mq pw T (vst M T s x).2 vn' m' /\ Kv w0 w m w' m' := by
 have H : Hid (Wk w0 w kb mq pw T s vn m) := h
 have ba := (Below.refl w.heap.size w).alloc (Nat.le_refl _) (.cells #[.int .i64 0, .int .i64 0] 100)
 have hr0 := heap_alloc_new w (.cells #[.int .i64 0, .int .i64 0] 100)
 have P := decode_any x (w.alloc (.cells #[.int .i64 0, .int .i64 0] 100))
 clear h
 by_cases h3 : dk x = 3
 ·have hbd := dn_bd x h3
  rw [h3] at P
  cases hT : T.contains (dn x)
  ·have ev : vst M T s x = ((0, 0), s) := by unfold vst; rw [if_pos h3, hT, if_neg (by simp)]
   rw [ev]
   clear ev h3
   generalize dn x = a at P hbd hT
   generalize dc x = cc at P
   have KN : Hid (∀ w1, Below w.heap.size w w1 -> Calls Tryz.prog 219 #[.pointer (some ⟨kb, 0, none⟩), .int .i64 a] w1 fun e w' => ∃ x, e = .returned (.tuple #[.int .i64 x, .bool false]) /\ w' = w1) := fun w1 hb => number_no (H.out.below hb) a hbd.1 hbd.2 hT
   clear hM ho hn hT
   go_enter Tryz.func165, Tryz.ntmps165
   go_wp2_with fail
   refine P.mono ?_
   clear P
   rintro e w1 ⟨rfl, hb1⟩
   have hr1 := (hb1.block w.heap.size (by simp)).trans hr0
   have hB1 := ba.trans (hb1.mono (by simp))
   have hs1 := hb1.size
   simp at hs1
   have hbv := (Below.refl w1.heap.size w1).alloc (Nat.le_refl _) (.cells #[.int .i64 3, .int .i64 a] 100)
   have hB2 := hB1.trans (hbv.mono (by omega))
   have hr2 := (hbv.block w.heap.size (by omega)).trans hr1
   clear hr0 hr1 ba hb1
   go_wp2_with fail
   refine (KN.out _ hB2).mono ?_
   rintro e w3 ⟨z, rfl, hw3⟩
   rw [<- hw3] at hr2 hB2 hbv
   have hs3 : w.heap.size < w3.heap.size := by rw [hw3]; simp; omega
   clear hw3
   have y0 : w3.cell? ⟨w.heap.size, 0, none⟩ = some (.int .i64 0) := by simp [World.cell?, hr2]
   have y1 : w3.cell? ⟨w.heap.size, 1, none⟩ = some (.int .i64 0) := by simp [World.cell?, hr2]
   have f0 : w3.frozen? ⟨w.heap.size, 0, none⟩ = false := by simp [World.frozen?, hr2]
   have f1 : w3.frozen? ⟨w.heap.size, 1, none⟩ = false := by simp [World.frozen?, hr2]
   have KK : Hid (Kv w0 w m w3 m) := Kv.of hB2
   have HW : Hid (∀ w4, Fr (fun k => k = w.heap.size) w3 w4 -> Wk w0 w4 kb mq pw T s vn m) := fun w4 f => (H.out.below hB2).but f (fun k _ e => by
    have e : k = w.heap.size := e
    rw [e]
    exact ⟨⟨_, hr2⟩, fun c => by have := H.out.fb _ c; omega, H.out.bel.size⟩)
   clear KN hr2 hbv hB1 hB2 H
   go_wp2_with fail
   obtain ⟨W0, hW0⟩ : ∃ W0, W0 = (w3.setCell ⟨w.heap.size, 0, none⟩ (.int .i64 0)).setCell ⟨w.heap.size, 1, none⟩ (.int .i64 0) := ⟨_, rfl⟩
   rw [<- hW0]
   have g0 : W0.cell? ⟨w.heap.size, 0, none⟩ = some (.int .i64 0) := by
    rw [hW0, World.cell?_setCell_other _ _ _ _ (by simp)]
    exact World.cell?_setCell_same _ _ _ y0
   have g1 : W0.cell? ⟨w.heap.size, 1, none⟩ = some (.int .i64 0) := by
    rw [hW0]
    exact World.cell?_setCell_same _ _ _ ((World.cell?_setCell_other w3 ⟨w.heap.size, 0, none⟩ ⟨w.heap.size, 1, none⟩ _ (by simp)).trans y1)
   have hF : Fr (fun k => k = w.heap.size) w3 W0 := by rw [hW0]; exact ((Fr.refl (fun k => k = w.heap.size) w3).set w.heap.size 0 _ rfl).set w.heap.size 1 _ rfl
   clear hW0
   exact bodyPost_ret (v := .agg #[.int .i64 0, .int .i64 0]) (by simp [results, Tryz.results165, go_sem, g0, g1]) rfl ⟨vn, m, rfl, HW.out W0 hF, KK.out.new hF (fun k e => Nat.le_of_eq (Eq.symm e))⟩
  ·have haT : dn x ∈ T := by simpa using hT
   have ev : vst M T s x = ((3, nX s (dn x)), nS M s (dn x)) := by
    unfold vst nX nS
    rw [if_pos h3, if_pos hT]
    split <;> rfl
   rw [ev]
   clear ev h3 hT
   generalize dn x = a at P hbd haT ⊢
   generalize dc x = cc at P
   have KN : Hid (∀ w1, Below w.heap.size w w1 -> Calls Tryz.prog 219 #[.pointer (some ⟨kb, 0, none⟩), .int .i64 a] w1 fun e w' => ∃ vn' m', e = .returned (.tuple #[.int .i64 (nX s a), .bool true]) /\ Wk w0 w' kb mq pw T (nS M s a) vn' m' /\ Kv w0 w1 m w' m') := fun w1 hb => number_yes hM (H.out.below hb) ho hn a hbd.1 hbd.2 haT
   clear hM ho hn haT
   generalize nX s a = z at KN ⊢
   generalize nS M s a = s' at KN ⊢
   go_enter Tryz.func165, Tryz.ntmps165
   go_wp2_with fail
   refine P.mono ?_
   clear P
   rintro e w1 ⟨rfl, hb1⟩
   have hr1 := (hb1.block w.heap.size (by simp)).trans hr0
   have hB1 := ba.trans (hb1.mono (by simp))
   have hs1 := hb1.size
   simp at hs1
   have hbv := (Below.refl w1.heap.size w1).alloc (Nat.le_refl _) (.cells #[.int .i64 3, .int .i64 a] 100)
   have hB2 := hB1.trans (hbv.mono (by omega))
   have hr2 := (hbv.block w.heap.size (by omega)).trans hr1
   clear hr0 hr1 ba hb1
   go_wp2_with fail
   refine (KN.out _ hB2).mono ?_
   rintro e w3 ⟨vn', m', rfl, hW, hK⟩
   have hr3 := (hK.1.oth _ _ _ _ hr2 (by decide) (by decide)).trans hr2
   have hs3 := hK.1.size
   simp at hs3
   have y0 : w3.cell? ⟨w.heap.size, 0, none⟩ = some (.int .i64 0) := by simp [World.cell?, hr3]
   have y1 : w3.cell? ⟨w.heap.size, 1, none⟩ = some (.int .i64 0) := by simp [World.cell?, hr3]
   have f0 : w3.frozen? ⟨w.heap.size, 0, none⟩ = false := by simp [World.frozen?, hr3]
   have f1 : w3.frozen? ⟨w.heap.size, 1, none⟩ = false := by simp [World.frozen?, hr3]
   have l3 : w.heap.size < w3.heap.size := by omega
   have hnf : ¬ Fb m' w.heap.size := fun c => (hK.2 _ c).elim (fun c => by have := H.out.fb _ c; omega) (fun c => by simp at c; omega)
   have KK : Hid (Kv w0 w m w3 m') := (Kv.of hB2).trans hK
   have HW : Hid (∀ w4, Fr (fun k => k = w.heap.size) w3 w4 -> Wk w0 w4 kb mq pw T s' vn' m') := fun w4 f => hW.but f (fun k _ e => by
    have e : k = w.heap.size := e
    rw [e]
    exact ⟨⟨_, hr3⟩, hnf, H.out.bel.size⟩)
   clear KN hr2 hbv hB1 hB2 hK hr3 hnf hW H
   go_wp2_with fail
   obtain ⟨W0, hW0⟩ : ∃ W0, W0 = (w3.setCell ⟨w.heap.size, 0, none⟩ (.int .i64 3)).setCell ⟨w.heap.size, 1, none⟩ (.int .i64 z) := ⟨_, rfl⟩
   rw [<- hW0]
   have g0 : W0.cell? ⟨w.heap.size, 0, none⟩ = some (.int .i64 3) := by
    rw [hW0, World.cell?_setCell_other _ _ _ _ (by simp)]
    exact World.cell?_setCell_same _ _ _ y0
   have g1 : W0.cell? ⟨w.heap.size, 1, none⟩ = some (.int .i64 z) := by
    rw [hW0]
    exact World.cell?_setCell_same _ _ _ ((World.cell?_setCell_other w3 ⟨w.heap.size, 0, none⟩ ⟨w.heap.size, 1, none⟩ _ (by simp)).trans y1)
   have hF : Fr (fun k => k = w.heap.size) w3 W0 := by rw [hW0]; exact ((Fr.refl (fun k => k = w.heap.size) w3).set w.heap.size 0 _ rfl).set w.heap.size 1 _ rfl
   clear hW0
   exact bodyPost_ret (v := .agg #[.int .i64 3, .int .i64 z]) (by simp [results, Tryz.results165, go_sem, g0, g1]) rfl ⟨vn', m', rfl, HW.out W0 hF, KK.out.new hF (fun k e => Nat.le_of_eq (Eq.symm e))⟩
 ·have ev : vst M T s x = ((dk x, dn x), s) := by unfold vst; rw [if_neg h3]
  rw [ev]
  have hne : (dk x != 3) = true := by simpa using h3
  clear ev h3 hM ho hn
  generalize dk x = u at P hne ⊢
  generalize dn x = v at P ⊢
  generalize dc x = cc at P
  go_enter Tryz.func165, Tryz.ntmps165
  go_wp2_with fail
  refine P.mono ?_
  clear P
  rintro e w1 ⟨rfl, hb1⟩
  have hr1 := (hb1.block w.heap.size (by simp)).trans hr0
  have hB1 := ba.trans (hb1.mono (by simp))
  have hs1 := hb1.size
  simp at hs1
  have y0 : w1.cell? ⟨w.heap.size, 0, none⟩ = some (.int .i64 0) := by simp [World.cell?, hr1]
  have y1 : w1.cell? ⟨w.heap.size, 1, none⟩ = some (.int .i64 0) := by simp [World.cell?, hr1]
  have f0 : w1.frozen? ⟨w.heap.size, 0, none⟩ = false := by simp [World.frozen?, hr1]
  have f1 : w1.frozen? ⟨w.heap.size, 1, none⟩ = false := by simp [World.frozen?, hr1]
  have l1 : w.heap.size < w1.heap.size := by omega
  have n1 : ¬ w.heap.size = w1.heap.size := by omega
  have n2 : ¬ w1.heap.size = w.heap.size := by omega
  have hr1 : Hid (_ = _) := hr1
  clear hr0 ba hb1
  go_wp2_with fail
  obtain ⟨W0, hW0⟩ : ∃ W0, W0 = (w1.setCell ⟨w.heap.size, 0, none⟩ (.int .i64 u)).setCell ⟨w.heap.size, 1, none⟩ (.int .i64 v) := ⟨_, rfl⟩
  rw [<- hW0]
  have g0 : W0.cell? ⟨w.heap.size, 0, none⟩ = some (.int .i64 u) := by
   rw [hW0, World.cell?_setCell_other _ _ _ _ (by simp)]
   exact World.cell?_setCell_same _ _ _ y0
  have g1 : W0.cell? ⟨w.heap.size, 1, none⟩ = some (.int .i64 v) := by
   rw [hW0]
   exact World.cell?_setCell_same _ _ _ ((World.cell?_setCell_other w1 ⟨w.heap.size, 0, none⟩ ⟨w.heap.size, 1, none⟩ _ (by simp)).trans y1)
  have hF : Fr (fun k => k = w.heap.size) w1 W0 := by rw [hW0]; exact ((Fr.refl (fun k => k = w.heap.size) w1).set w.heap.size 0 _ rfl).set w.heap.size 1 _ rfl
  have sz0 : W0.heap.size = w1.heap.size := by rw [hW0]; simp [World.setCell]
  have hbN := (Below.refl W0.heap.size W0).alloc (Nat.le_refl _) (.cells #[.int .i64 u, .int .i64 v] 100)
  have HW := ((H.out.below hB1).but hF (fun k _ e => by
   have e : k = w.heap.size := e
   rw [e]
   exact ⟨⟨_, hr1.out⟩, fun c => by have := H.out.fb _ c; omega, H.out.bel.size⟩)).below hbN
  have KK := ((Kv.of (w0 := w0) (m := m) hB1).new hF (fun k e => Nat.le_of_eq (Eq.symm e))).trans (Kv.of hbN)
  have r0 := (hbN.cell (p := ⟨w.heap.size, 0, none⟩) (by show w.heap.size < _; omega)).trans g0
  have r1 := (hbN.cell (p := ⟨w.heap.size, 1, none⟩) (by show w.heap.size < _; omega)).trans g1
  clear hW0 hbN hF g0 g1 H y0 y1 f0 f1
  generalize W0.alloc (.cells #[.int .i64 u, .int .i64 v] 100) = WF at *
  exact bodyPost_ret (v := .agg #[.int .i64 u, .int .i64 v]) (by simp [results, Tryz.results165, go_sem, r0, r1]) rfl ⟨vn, m, rfl, HW, KK⟩
end
end Go.Proofs.YtnalfnlmaallmaaGreat

namespace Go.Proofs.YtnalfnlmaallmaaGreat
set_option maxRecDepth 100000
set_option maxHeartbeats 1000000
open Go.RowKit W Kp Stl
def Lq (w : World) (ad : Option Addr) (l : List Int) : Prop := Ls w ad l /\ (0 < l.length -> ∃ b o cs, ad = some ⟨b, o, none⟩ /\ w.heap[b]? = some (.cells cs 2 (0, 0)))
theorem Lq.kf {B : Nat} {w w' : World} {ad : Option Addr} {l : List Int} (h : Lq w ad l) (k : Kf B w w') : Lq w' ad l := by
 have hk : 0 < l.length -> ∀ b, ad = some b -> w'.heap[b.block]? = w.heap[b.block]? := fun hp b e => by
  obtain ⟨b0, o0, cs, e0, hb⟩ := h.2 hp
  rw [e0] at e
  cases e
  exact k.oth _ _ _ _ hb (by decide) (by decide)
 refine ⟨h.1.keep k.size hk, fun hp => ?_⟩
 obtain ⟨b0, o0, cs, e0, hb⟩ := h.2 hp
 exact ⟨b0, o0, cs, e0, (hk hp _ e0).trans hb⟩
theorem Lq.of {w : World} {base cap : Nat} {ad : Option Addr} {l : List Int} (h : w.ownsRow base 2 1 (.slice ad l.length cap) l.length (l.map (Value.int .i64))) : Lq w ad l := by
 refine ⟨row_ints h, fun hp => ?_⟩
 obtain ⟨b0, c0, e0⟩ := row_shape h hp
 obtain ⟨cs, hc⟩ := row_type h b0 (by rw [e0]; rfl)
 cases e0
 exact ⟨b0, 0, cs, rfl, hc⟩
section
variable {w0 w : World} {kb mq pw n : Nat} {T : List Int} {kd : Int -> Int} {sh : Int -> List Int} {M : Vst -> Int -> Vst} {s : Vst} {vn : Value} {m : List Vnd}
theorem values_any (hM : Meets w0 kb mq pw T M n) (hV : Vmet T kd sh n M) (h : Wk w0 w kb mq pw T s vn m) (ho : VOk T s) (hn : T.length <= s.1.length + n) (l : List Int) (ad : Option Addr) (cap : Nat) (hl : Lq w ad l) (hm : l.length <= 100000) :
  Calls Tryz.prog 86 #[.pointer (some ⟨kb, 0, none⟩), .slice ad l.length cap] w fun e w' => ∃ vn' m' a2 c2, e = .returned (.slice a2 l.length c2) /\ w'.ownsRow w.heap.size 100 2 (.slice a2 l.length c2) l.length (ev (vls M T s l).1) /\ Wk w0 w' kb mq pw T (vls M T s l).2 vn' m' /\ Kv w0 w m w' m' /\ (∀ k, Fb m' k -> some k ≠ (Value.slice a2 l.length c2).ownBlock) := by
 obtain ⟨i0, hi, hz0, hz1, hz2⟩ := info_parts infoVal
 have HM : Hid (Meets w0 kb mq pw T M n) := hM
 have HV : Hid (Vmet T kd sh n M) := hV
 have HL : Hid (Lq w ad l) := hl
 have HW : Hid (Wk w0 w kb mq pw T s vn m) := h
 have HO : Hid (VOk T s) := ho
 clear hM hV hl h ho
 go_enter Tryz.func86, Tryz.ntmps86
 go_wp2_with (at_make; refine wpList_make_own _ rfl _ _ 62 rfl w.heap.size 100 i0 (.agg #[.int .i64 0, .int .i64 0]) 2 Tryz.underlying62 hi hz0 hz1 .i64 .i64 _ l.length rfl rfl rfl (by rw [hz2]; omega) (by unfold maxLen; omega) (Nat.le_refl _) ?_; intro w1 hown1 hgrow1)
 have hb1 : Below w.heap.size w w1 := (Below.refl w.heap.size w).grown hgrow1 (Nat.le_refl _) (fun k e => by cases e)
 go_loopw [5, 13] (fun tv iv wr => ∃ (j : Nat) (V : List (Int × Int)) (s1 : Vst) (vn1 : Value) (m1 : List Vnd) (a2 : Option Addr) (c2 : Nat), j <= l.length /\ iv = .int .i64 j /\ Hid (vls M T s (l.take j) = (V, s1)) /\ tv = .slice a2 j c2 /\ wr.ownsRow w.heap.size 100 2 (.slice a2 j c2) j (ev V) /\ Hid (Wk w0 wr kb mq pw T s1 vn1 m1) /\ Hid (Kv w0 w m wr m1) /\ Hid (∀ k, Fb m1 k -> some k ≠ (Value.slice a2 j c2).ownBlock) /\ Hid (VOk T s1 /\ T.length <= s1.1.length + n)) (fun _ iv _ => l.length - (intOf iv).toNat)
 case atStart => exact ⟨0, [], s, vn, m, _, _, Nat.zero_le _, rfl, rfl, rfl, hown1, HW.out.below hb1, Kv.of hb1, fun k hk e => by
  have := HW.out.fb k hk
  simp [Value.ownBlock] at e
  omega, ⟨HO.out, hn⟩⟩
 case round =>
  obtain ⟨j, V, s1, vn1, m1, a2, c2, hj, rfl, HE, rfl, hT, HW1, HK1, HF1, HO1⟩ := hrel
  clear hown1 hgrow1 hb1
  by_cases hlt : j < l.length
  ·obtain ⟨b0, o0, e0, hb0, hc⟩ := (HL.out.kf HK1.out.1).1 (by omega)
   have x1 := hc j hlt
   subst e0
   clear hc
   have HS := vls_snoc M T s (l.take j) (l.getD j 0)
   rw [<- take_snoc l j hlt 0, HE.out] at HS
   have HS : Hid (vls M T s (l.take (j + 1)) = (V ++ [(vst M T s1 (l.getD j 0)).1], (vst M T s1 (l.getD j 0)).2)) := HS
   generalize l.getD j 0 = x at x1 HS
   have P := value_any HM.out HW1.out HO1.out.1 HO1.out.2 x
   have G := vst_go HV.out HO1.out.1 HO1.out.2 x
   have HO2 : Hid (VOk T (vst M T s1 x).2 /\ T.length <= (vst M T s1 x).2.1.length + n) := ⟨G.ok, by have := G.le; have := HO1.out.2; omega⟩
   clear G
   generalize (vst M T s1 x).2 = s2 at P HS HO2
   obtain ⟨u, v, huv⟩ : ∃ u v, (vst M T s1 x).1 = (u, v) := ⟨_, _, rfl⟩
   rw [huv] at P HS
   clear huv
   go_wp2_with fail
   refine P.mono ?_
   clear P
   rintro e w2 ⟨vn2, m2, rfl, hW2, hK2⟩
   have hT2 := row_keep hT (fun k hk => by
    obtain ⟨cs, hcs⟩ := row_type hT k hk
    exact hK2.1.oth k _ _ _ hcs (by decide) (by decide))
   have HF2 : Hid (∀ k, Fb m2 k -> some k ≠ (Value.slice a2 j c2).ownBlock) := fun k hk e => (hK2.2 k hk).elim (fun c => HF1.out k c e) (fun c => by have := (row_lt hT k e).2; omega)
   have HK2 : Hid (Kv w0 w m w2 m2) := HK1.out.trans hK2
   have hs2 := HK2.out.1.size
   have HW2 : Hid (Wk w0 w2 kb mq pw T s2 vn2 m2) := hW2
   clear hT hK2 HK1 HF1 HW1 HO1 x1 hW2
   have HT2 : Hid (w2.ownsRow w.heap.size 100 2 (.slice a2 j c2) j (ev V)) := hT2
   go_wp2_with (at_builtin; refine wpList_append_own_at _ rfl _ _ 62 rfl w.heap.size 100 i0 (.agg #[.int .i64 0, .int .i64 0]) 2 16 Tryz.underlying62 hi hz0 hz1 hz2 rfl (by decide) (.slice a2 j c2) j (ev V) rfl (row_alloc hT2 _) ⟨w2.heap.size, 0, none⟩ 1 1 [.int .i64 u, .int .i64 v] rfl rfl ?_ ?_ ?_ ?_ ?_ ?_; (intro j u hj; match j, hj with | 0, hj => (simp at hj; subst hj; simp [Addr.add]) | 1, hj => (simp at hj; subst hj; simp [Addr.add])); (intro u hu; simp at hu; rcases hu with hu | hu <;> (subst hu; rfl)); (unfold maxLen; omega); omega; (simp; omega); intro v' w4 hown4 hgrow4 _ hloc4; obtain ⟨b4, cap4, ev4⟩ := row_shape hown4 (Nat.succ_pos _); subst ev4)
   have hT4 : w4.ownsRow w.heap.size 100 2 (.slice (some ⟨b4, 0, none⟩) (j + 1) cap4) (j + 1) (ev (V ++ [(u, v)])) := by
    rw [ev_append]
    simpa [ev] using hown4
   have hba := (Below.refl w2.heap.size w2).alloc (Nat.le_refl _) (.cells #[.int .i64 u, .int .i64 v] 100)
   have hfr : Fr (fun k => some k = (Value.slice a2 j c2).ownBlock) (w2.alloc (.cells #[.int .i64 u, .int .i64 v] 100)) w4 := (Fr.refl _ _).grown hgrow4 (fun k e => Or.inl e.symm)
   have HW4 : Hid (Wk w0 w4 kb mq pw T s2 vn2 m2) := (HW2.out.below hba).but hfr (fun k _ e => by
    obtain ⟨cs, hcs⟩ := row_type HT2.out k e
    exact ⟨⟨cs, (hba.block k (row_lt HT2.out k e).2).trans hcs⟩, fun c => HF2.out k c e, Nat.le_trans HW.out.bel.size (row_lt HT2.out k e).1⟩)
   have HK4 : Hid (Kv w0 w m w4 m2) := (HK2.out.trans (Kv.of hba)).new hfr (fun k e => (row_lt HT2.out k e).1)
   have hbl4 : some b4 = (Value.slice a2 j c2).ownBlock \/ b4 = w2.heap.size + 1 := hloc4.imp id (fun e => by simpa [Value.ownBlock] using e)
   have HF4 : Hid (∀ k, Fb m2 k -> some k ≠ some b4) := fun k hk e => hbl4.elim (fun c => HF2.out k hk (e.trans c)) (fun c => by have := HW2.out.fb k hk; simp at e; omega)
   clear hown4 hgrow4 hloc4 hbl4 hba hfr HT2 hT2 HF2 HK2 HW2
   go_wp2_with fail
   go_roundw
   case rel => exact ⟨j + 1, V ++ [(u, v)], s2, vn2, m2, some ⟨b4, 0, none⟩, cap4, by omega, by go_num, HS, rfl, hT4, HW4, HK4, HF4, HO2⟩
   case measure => simp [intOf]; omega
  ·obtain rfl : j = l.length := by omega
   rw [List.take_length] at HE
   go_wp2_with fail
   go_ret
   rw [HE.out]
   exact ⟨vn1, m1, a2, c2, rfl, hT, HW1.out, HK1.out, HF1.out⟩
end
end Go.Proofs.YtnalfnlmaallmaaGreat
