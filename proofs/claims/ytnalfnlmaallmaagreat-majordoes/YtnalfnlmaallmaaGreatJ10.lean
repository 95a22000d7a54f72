/- Joined: Vw4, Mn3. -/
import Derived.Test.YtnalfnlmaallmaaGreatJ09
namespace Go.Proofs.YtnalfnlmaallmaaGreat
set_option maxRecDepth 100000
set_option maxHeartbeats 2000000
open Go.RowKit W Kp Stl
theorem elI (x : Int) (h : (Lit.int .i64 x).wf = true) : plainElem (H := Unit) Tryz.prog 3 (.int .i64 x) = some (.lit (.int .i64 x), []) := plainElem_int Tryz.underlying3 h
theorem keyI {a : Int} (h0 : 0 <= a) (h1 : a < 1152921504606846976) : keyOf Tryz.prog 3 (.int .i64 a) = some (.int .i64 a) := Maps.keyOf_int_mk Tryz.underlying3 (WalkArith.wf_i64 ⟨by omega, by omega⟩)
theorem Nm.add {w w' : World} {mq n : Nat} {T : List Int} {a : Int} {D : DataW Unit} (h1 : w.ownsMap Tryz.prog 3 (plainElem Tryz.prog 3) mq T.length D) (h2 : ∀ a : Int, Maps.has D (.int .i64 a) = T.contains a) (h3 : ∀ a ∈ T, D.atKey (.int .i64 a) (.lit (.int .i64 0)) = .lit (.int .i64 (nb [] a)))
  (hn : n = T.length + 1) (h4 : w'.ownsMap Tryz.prog 3 (plainElem Tryz.prog 3) mq n (D.put (.int .i64 a) (.lit (.int .i64 (-1))))) : Nm w' mq (T ++ [a]) [] := by
 refine ⟨_, by rw [hn] at h4; simpa using h4, fun b => ?_, fun b hb => ?_⟩
 ·by_cases e : b = a
  ·subst e
   rw [Maps.has_put_same (k := .int .i64 b) h1.isMap trivial]
   simp
  ·rw [Maps.has_put_other (by simpa using e), h2]
   simp [e]
 ·by_cases e : b = a
  ·subst e
   rw [Maps.atKey_put_same (k := .int .i64 b) h1.isMap trivial]
   rfl
  ·rw [Maps.atKey_put_other (by simpa using e)]
   refine h3 b ?_
   rcases List.mem_append.1 hb with hb | hb
   ·exact hb
   ·simp at hb
    exact absurd hb e
theorem Nm.put {w w' : World} {mq n : Nat} {T ms : List Int} {a : Int} {D : DataW Unit} (h1 : w.ownsMap Tryz.prog 3 (plainElem Tryz.prog 3) mq T.length D) (h2 : ∀ a : Int, Maps.has D (.int .i64 a) = T.contains a) (h3 : ∀ a ∈ T, D.atKey (.int .i64 a) (.lit (.int .i64 0)) = .lit (.int .i64 (nb ms a)))
  (ha : a ∈ T) (hm : a ∉ ms) (h4 : w'.ownsMap Tryz.prog 3 (plainElem Tryz.prog 3) mq n (D.put (.int .i64 a) (.lit (.int .i64 ms.length)))) : Nm w' mq T (ms ++ [a]) := by
 have hs : Maps.size (D.put (.int .i64 a) (.lit (.int .i64 ms.length))) <= T.length := by
  rw [Maps.size_put (h1.tidy lawI), h2, if_pos (by simpa using ha)]
  exact h1.size_le
 refine ⟨_, (own_tight h4 rfl).mono hs, fun b => ?_, fun b hb => ?_⟩
 ·by_cases e : b = a
  ·subst e
   rw [Maps.has_put_same (k := .int .i64 b) h1.isMap trivial]
   simp [ha]
  ·rw [Maps.has_put_other (by simpa using e), h2]
 ·rw [nb_snoc hm]
  by_cases e : b = a
  ·subst e
   rw [Maps.atKey_put_same (k := .int .i64 b) h1.isMap trivial, if_pos rfl]
  ·rw [Maps.atKey_put_other (by simpa using e), if_neg e]
   exact h3 b hb
section
variable {w : World} {pw p q N O y g : Nat} {ws : List Int}
theorem thY_bd (a : Int) (h : a ∈ thY N y g ws) : 0 <= a /\ a < y := ths_bd _ _ _ h
theorem thO_bd (a : Int) (h : a ∈ thO N y g ws) : (N : Int) <= a /\ a < (N : Int) + g := ths_bd _ _ _ h
theorem newWalk_any (c0 : w.cell? ⟨pw, 0, none⟩ = some (.pointer (some ⟨p, 0, none⟩))) (h : At w p q N O y g ws) :
  Calls Tryz.prog 85 #[.pointer (some ⟨pw, 0, none⟩)] w fun e w' => ∃ kb mq, e = .returned (.pointer (some ⟨kb, 0, none⟩)) /\ Wk w w' kb mq pw (thY N y g ws ++ thO N y g ws) ([], []) (.slice none 0 0) [] := by
 have hmm := @run_makeMap Tryz.prog
 have lpw := World.block_lt_of_cell? w _ c0
 have hY : (thY N y g ws).length <= 2000 := ths_le _ _
 have hO : (thO N y g ws).length <= 2000 := ths_le _ _
 have hv := elI (-1) (by decide)
 have k1 := h.hN'
 have k2 := h.hy
 have k3 := h.hO
 have k4 := h.hg
 have bY : Hid (∀ a ∈ thY N y g ws, 0 <= a /\ a < 2000) := fun a ha => by have := thY_bd a ha; omega
 have bO : Hid (∀ a ∈ thO N y g ws, 0 <= a /\ a < 2000) := fun a ha => by have := thO_bd a ha; omega
 have hm0 := World.ownsMap_made w Tryz.prog 3 (plainElem (H := Unit) Tryz.prog 3)
 have hN0 : Nm (w.alloc (.map #[] 0)) w.heap.size [] [] := ⟨_, hm0, fun _ => rfl, fun a ha => by simp at ha⟩
 have hb0 := ((Below.refl w.heap.size w).alloc (Nat.le_refl _) (.map #[] 0)).alloc (by simp) (.cells #[.pointer (some ⟨pw, 0, none⟩), .map (some w.heap.size), .slice none 0 0] 148)
 have hA := h.below hb0 (Nat.le_refl _)
 have hk0 := heap_alloc_new (w.alloc (.map #[] 0)) (.cells #[.pointer (some ⟨pw, 0, none⟩), .map (some w.heap.size), .slice none 0 0] 148)
 have hN1 := hN0.same (w' := (w.alloc (.map #[] 0)).alloc (.cells #[.pointer (some ⟨pw, 0, none⟩), .map (some w.heap.size), .slice none 0 0] 148)) (Below.heap_alloc _ _ _ (by simp))
 have x0 := (hb0.cell (p := ⟨pw, 0, none⟩) lpw).trans c0
 have P := things_any _ hA
 clear hm0 hN0 h hA
 generalize thY N y g ws = TY at P hY hO bY bO ⊢
 generalize thO N y g ws = TO at P hY hO bY bO ⊢
 go_enter Tryz.func85, Tryz.ntmps85
 go_wp2_with fail
 refine P.mono ?_
 clear P
 rintro e w2 ⟨v1, v2, rfl, ho1, ho2, hb2⟩
 obtain ⟨d1, f1, rfl⟩ := row_slice ho1
 obtain ⟨d2, f2, rfl⟩ := row_slice ho2
 have hB2 := hb0.trans (hb2.mono hb0.size)
 rw [World.size_alloc] at hk0
 have hk2 := (hb2.block (w.heap.size + 1) (by simp)).trans hk0
 have hN2 := hN1.same (hb2.block w.heap.size (by simp; omega))
 have L1 := row_ints ho1
 have L2 := row_ints ho2
 have ne1 : ∀ k, some k = (Value.slice d1 (TY).length f1).ownBlock -> k ≠ w.heap.size := fun k e => by have := (row_lt ho1 k e).1; simp at this; omega
 have ne2 : ∀ k, some k = (Value.slice d2 (TO).length f2).ownBlock -> k ≠ w.heap.size := fun k e => by have := (row_lt ho2 k e).1; simp at this; omega
 have HL1 : Hid (∀ w3, Fr (fun k => k = w.heap.size) w2 w3 -> Ls w3 d1 (TY)) := fun w3 f => L1.keep f.size (fun hp a e => f.block _ (by obtain ⟨b, o, e', hb, _⟩ := L1 hp; rw [e] at e'; cases e'; exact hb) (fun c => by
  obtain ⟨b, cap, e'⟩ := row_shape ho1 hp
  cases e'
  cases e
  exact ne1 _ rfl c))
 have HL2 : Hid (∀ w3, Fr (fun k => k = w.heap.size) w2 w3 -> Ls w3 d2 (TO)) := fun w3 f => L2.keep f.size (fun hp a e => f.block _ (by obtain ⟨b, o, e', hb, _⟩ := L2 hp; rw [e] at e'; cases e'; exact hb) (fun c => by
  obtain ⟨b, cap, e'⟩ := row_shape ho2 hp
  cases e'
  cases e
  exact ne2 _ rfl c))
 have hs2 : w.heap.size + 1 < w2.heap.size := lt_of_some hk2
 have HK : Hid (w2.heap[w.heap.size + 1]? = some (.cells #[.pointer (some ⟨pw, 0, none⟩), .map (some w.heap.size), .slice none 0 0] 148 (0, 0))) := hk2
 clear ne1 ne2 L1 L2 ho1 ho2 hN1 hk0 x0 hb0 hb2 hk2
 go_wp2_with fail
 go_loopw [24] (fun iv wr => ∃ (j : Nat), j <= TY.length /\ iv = .int .i64 j /\ Nm wr w.heap.size (TY.take j) [] /\ Fr (fun k => k = w.heap.size) w2 wr) (fun iv _ => TY.length - (intOf iv).toNat)
 case atStart => exact ⟨0, Nat.zero_le _, rfl, hN2, Fr.refl _ _⟩
 case round =>
  obtain ⟨j, hj, rfl, hN, hF⟩ := hrel
  clear hN2
  have x1 : wr.cell? ⟨w.heap.size + 1, 1, none⟩ = some (.map (some w.heap.size)) := by
   have := (hF.block (w.heap.size + 1) hs2 (by omega)).trans HK.out
   simp [World.cell?, this]
  by_cases hlt : j < TY.length
  ·obtain ⟨b0, o0, e0, hb0, hc⟩ := HL1.out wr hF (by omega)
   have x2 := hc j hlt
   subst e0
   clear hc
   have hin : TY.getD j 0 ∈ TY := by rw [List.getD_eq_getElem?_getD, List.getElem?_eq_getElem hlt]; exact List.getElem_mem hlt
   have hbd := bY.out _ hin
   have ET : Hid (TY.take (j + 1) = TY.take j ++ [TY.getD j 0]) := take_snoc TY j hlt 0
   clear hin
   generalize TY.getD j 0 = z at x2 hbd ET
   have hky := keyI (a := z) (by omega) (by omega)
   obtain ⟨D, o1, o2, o3⟩ := hN
   have hlen : (TY.take j).length < 100000 := by simp; omega
   have HO : Hid (_ /\ _ /\ _) := ⟨o1, o2, o3⟩
   clear o2 o3
   generalize TY.take j = U at *
   go_wp2_with (first
    | (at_mapUpdate; refine wpList_mapUpdate_own _ rfl _ _ _ 109 rfl 3 3 lawI Tryz.underlying109 (plainElem (H := Unit) Tryz.prog 3) w.heap.size U.length D rfl o1 (by unfold maxLen; omega) _ _ _ rfl rfl hky _ [] hv ?_; intro w4 hown4 hgrow4)
    | go_in)
   go_roundw
   case rel => exact ⟨j + 1, by omega, by go_num, by rw [ET.out]; exact Nm.add HO.out.1 HO.out.2.1 HO.out.2.2 rfl hown4, hF.grown hgrow4 (fun k e => Or.inl (by cases e; rfl))⟩
   case measure => simp [intOf]; omega
  ·obtain rfl : j = TY.length := by omega
   rw [List.take_length] at hN
   clear x1
   go_wp2_with fail
   go_loopw [36] (fun iv wr => ∃ (j : Nat), j <= TO.length /\ iv = .int .i64 j /\ Nm wr w.heap.size (TY ++ TO.take j) [] /\ Fr (fun k => k = w.heap.size) w2 wr) (fun iv _ => TO.length - (intOf iv).toNat)
   case atStart => exact ⟨0, Nat.zero_le _, rfl, by simpa using hN, hF⟩
   case round =>
    clear hN hF
    obtain ⟨j, hj, rfl, hN, hF⟩ := hrel
    rename_i wr0 _ _ _ wr _ _
    have x1 : wr.cell? ⟨w.heap.size + 1, 1, none⟩ = some (.map (some w.heap.size)) := by
     have := (hF.block (w.heap.size + 1) hs2 (by omega)).trans HK.out
     simp [World.cell?, this]
    by_cases hlt : j < TO.length
    ·obtain ⟨b0, o0, e0, hb0, hc⟩ := HL2.out wr hF (by omega)
     have x2 := hc j hlt
     subst e0
     clear hc
     have hin : TO.getD j 0 ∈ TO := by rw [List.getD_eq_getElem?_getD, List.getElem?_eq_getElem hlt]; exact List.getElem_mem hlt
     have hbd := bO.out _ hin
     have ET : Hid (TY ++ TO.take (j + 1) = (TY ++ TO.take j) ++ [TO.getD j 0]) := by show _ = _; rw [take_snoc TO j hlt 0, List.append_assoc]
     clear hin
     generalize TO.getD j 0 = z at x2 hbd ET
     have hky := keyI (a := z) (by omega) (by omega)
     obtain ⟨D, o1, o2, o3⟩ := hN
     have hlen : (TY ++ TO.take j).length < 100000 := by simp; omega
     have HO : Hid (_ /\ _ /\ _) := ⟨o1, o2, o3⟩
     clear o2 o3
     generalize TY ++ TO.take j = U at *
     go_wp2_with (first
      | (at_mapUpdate; refine wpList_mapUpdate_own _ rfl _ _ _ 109 rfl 3 3 lawI Tryz.underlying109 (plainElem (H := Unit) Tryz.prog 3) w.heap.size U.length D rfl o1 (by unfold maxLen; omega) _ _ _ rfl rfl hky _ [] hv ?_; intro w4 hown4 hgrow4)
      | go_in)
     go_roundw
     case rel => exact ⟨j + 1, by omega, by go_num, by rw [ET.out]; exact Nm.add HO.out.1 HO.out.2.1 HO.out.2.2 rfl hown4, hF.grown hgrow4 (fun k e => Or.inl (by cases e; rfl))⟩
     case measure => simp [intOf]; omega
    ·obtain rfl : j = TO.length := by omega
     rw [List.take_length] at hN
     clear x1
     go_wp2_with fail
     go_ret
     exact ⟨w.heap.size + 1, w.heap.size, rfl, (hF.block (w.heap.size + 1) hs2 (by omega)).trans HK.out, ⟨by omega, Nat.le_refl _⟩, hN, World.ownsRow_nil _ _ _ _, rfl, fun x hx => by simp at hx, hB2.trans (hF.below (by omega) (fun k e => by have e : k = w.heap.size := e; omega))⟩
end
end Go.Proofs.YtnalfnlmaallmaaGreat

namespace Go.Proofs.YtnalfnlmaallmaaGreat
open Go.RowKit W Kp Stl
structure Tn (F : Nat -> Prop) (w : World) (F' : Nat -> Prop) (w' : World) : Prop where
  fr : Fr F w w'
  sub : ∀ b, F' b -> F b \/ w.heap.size <= b
theorem Tn.refl (F : Nat -> Prop) (w : World) : Tn F w F w := ⟨Fr.refl _ _, fun _ h => Or.inl h⟩
theorem Tn.trans {F F' F'' : Nat -> Prop} {w w' w'' : World} (h : Tn F w F' w') (k : Tn F' w' F'' w'') : Tn F w F'' w'' :=
 ⟨h.fr.trans k.fr h.sub, fun b hb => (k.sub b hb).elim (h.sub b) (fun c => Or.inr (Nat.le_trans h.fr.size c))⟩
theorem Tn.of {F : Nat -> Prop} {w w' : World} (h : Below w.heap.size w w') : Tn F w F w' := ⟨Fr.of h, fun _ h => Or.inl h⟩
theorem Tn.below {F F' : Nat -> Prop} {w w' w'' : World} (h : Tn F w F' w') (hb : Below w'.heap.size w' w'') : Tn F w F' w'' := h.trans (Tn.of hb)
def Mp (w : World) (mq : Nat) (T : List Int) (f : Int -> Int) : Prop :=
 ∃ D : DataW Unit, w.ownsMap Tryz.prog 3 (plainElem Tryz.prog 3) mq T.length D /\ (∀ a : Int, Maps.has D (.int .i64 a) = T.contains a) /\ ∀ a ∈ T, D.atKey (.int .i64 a) (.lit (.int .i64 0)) = .lit (.int .i64 (f a))
theorem Mp.same {w w' : World} {mq : Nat} {T : List Int} {f : Int -> Int} (h : Mp w mq T f) (e : w'.heap[mq]? = w.heap[mq]?) : Mp w' mq T f := by
 obtain ⟨D, h1, h2, h3⟩ := h
 exact ⟨D, own_same h1 e, h2, h3⟩
theorem Mp.lt {w : World} {mq : Nat} {T : List Int} {f : Int -> Int} (h : Mp w mq T f) : mq < w.heap.size := by
 obtain ⟨D, h1, _⟩ := h
 exact h1.lt
theorem Mp.put {w w' : World} {mq n : Nat} {T : List Int} {f : Int -> Int} {a v : Int} {D : DataW Unit} (h1 : w.ownsMap Tryz.prog 3 (plainElem Tryz.prog 3) mq T.length D) (h2 : ∀ a : Int, Maps.has D (.int .i64 a) = T.contains a) (h3 : ∀ a ∈ T, D.atKey (.int .i64 a) (.lit (.int .i64 0)) = .lit (.int .i64 (f a)))
  (ha : a ∈ T) (h4 : w'.ownsMap Tryz.prog 3 (plainElem Tryz.prog 3) mq n (D.put (.int .i64 a) (.lit (.int .i64 v)))) : Mp w' mq T (upf f a v) := by
 have hs : Maps.size (D.put (.int .i64 a) (.lit (.int .i64 v))) <= T.length := by
  rw [Maps.size_put (h1.tidy lawI), h2, if_pos (by simpa using ha)]
  exact h1.size_le
 refine ⟨_, (own_tight h4 rfl).mono hs, fun b => ?_, fun b hb => ?_⟩
 ·by_cases e : b = a
  ·subst e
   rw [Maps.has_put_same (k := .int .i64 b) h1.isMap trivial]
   simp [ha]
  ·rw [Maps.has_put_other (by simpa using e), h2]
 ·unfold upf
  by_cases e : b = a
  ·subst e
   rw [Maps.atKey_put_same (k := .int .i64 b) h1.isMap trivial, if_pos rfl]
  ·rw [Maps.atKey_put_other (by simpa using e), if_neg e]
   exact h3 b hb
theorem Mp.add {w w' : World} {mq n : Nat} {T : List Int} {a v : Int} {f : Int -> Int} {D : DataW Unit} (h1 : w.ownsMap Tryz.prog 3 (plainElem Tryz.prog 3) mq T.length D) (h2 : ∀ a : Int, Maps.has D (.int .i64 a) = T.contains a) (h3 : ∀ a ∈ T, D.atKey (.int .i64 a) (.lit (.int .i64 0)) = .lit (.int .i64 (f a)))
  (hv : f a = v) (hn : n = T.length + 1) (h4 : w'.ownsMap Tryz.prog 3 (plainElem Tryz.prog 3) mq n (D.put (.int .i64 a) (.lit (.int .i64 v)))) : Mp w' mq (T ++ [a]) f := by
 refine ⟨_, by rw [hn] at h4; simpa using h4, fun b => ?_, fun b hb => ?_⟩
 ·by_cases e : b = a
  ·subst e
   rw [Maps.has_put_same (k := .int .i64 b) h1.isMap trivial]
   simp
  ·rw [Maps.has_put_other (by simpa using e), h2]
   simp [e]
 ·by_cases e : b = a
  ·subst e
   rw [Maps.atKey_put_same (k := .int .i64 b) h1.isMap trivial, hv]
  ·rw [Maps.atKey_put_other (by simpa using e)]
   refine h3 b ?_
   rcases List.mem_append.1 hb with hb | hb
   ·exact hb
   ·simp at hb
    exact absurd hb e
structure Cc where
  pk : Nat
  mq : Nat
  pw : Nat
  p : Nat
  q : Nat
  pc : Nat
  pq : Nat
  sd : Nat
  nb : Nat
  c : Int
  M : List Int
structure Mc (c : Cc) (k : Ck) (own : Nat -> Nat) (s : Cs) (vw ve : Value) (w : World) : Prop where
  ar : At w c.p c.q k.N k.O k.y s.g s.ws
  a1 : own c.p = 1
  a2 : own c.q = 1
  cd : Cd w c.pc c.pq k.N c.c c.M
  c1 : own c.pc = 2
  c2 : own c.pq = 2
  wd : w.heap[c.pw]? = some (.cells #[.pointer (some ⟨c.p, 0, none⟩), .pointer (some ⟨c.pc, 0, none⟩), .pointer (some ⟨c.sd, 0, none⟩), .slice (some ⟨c.nb, 0, none⟩) 12 12] 44 (0, 0))
  w1 : own c.pw = 3
  rt : w.heap[c.nb]? = some (.cells (s.rs.map (Value.int .i64)).toArray 2 (0, 0))
  rl : s.rs.length = 12
  r1 : own c.nb = 4
  cb : w.heap[c.pk]? = some (.cells #[.pointer (some ⟨c.pw, 0, none⟩), .map (some c.mq), .int .i64 s.nx, vw, ve] 111 (0, 0))
  k1 : own c.pk = 5
  mp : Mp w c.mq k.T s.f
  m1 : own c.mq = 6
  wr : w.ownsRow 0 3 1 vw s.wk.length (s.wk.map (Value.int .i64))
  wo : ∀ b, some b = vw.ownBlock -> own b = 7
  er : w.ownsRow 0 3 1 ve s.ep.length (s.ep.map (Value.int .i64))
  eo : ∀ b, some b = ve.ownBlock -> own b = 8
  lt : ∀ b, own b ≠ 0 -> b < w.heap.size
section
variable {c : Cc} {k : Ck} {own : Nat -> Nat} {s : Cs} {vw ve : Value} {w w' : World}
theorem Mc.but (h : Mc c k own s vw ve w) (L : Nat -> Prop) (hs : w.heap.size <= w'.heap.size) (hk : ∀ b, b < w.heap.size -> own b ≠ 0 -> ¬ L (own b) -> w'.heap[b]? = w.heap[b]?)
    (hA : L 1 -> At w' c.p c.q k.N k.O k.y s.g s.ws) (hR : L 4 -> w'.heap[c.nb]? = some (.cells (s.rs.map (Value.int .i64)).toArray 2 (0, 0))) (hK : L 5 -> w'.heap[c.pk]? = some (.cells #[.pointer (some ⟨c.pw, 0, none⟩), .map (some c.mq), .int .i64 s.nx, vw, ve] 111 (0, 0)))
    (hM : L 6 -> Mp w' c.mq k.T s.f) (hW : L 7 -> w'.ownsRow 0 3 1 vw s.wk.length (s.wk.map (Value.int .i64))) (hE : L 8 -> w'.ownsRow 0 3 1 ve s.ep.length (s.ep.map (Value.int .i64))) (h2 : ¬ L 2) (h3 : ¬ L 3) : Mc c k own s vw ve w' where
  ar := by
    by_cases l : L 1
    · exact hA l
    · exact h.ar.same (hk _ h.ar.ltp (by rw [h.a1]; decide) (by rw [h.a1]; exact l)) (hk _ h.ar.ltq (by rw [h.a2]; decide) (by rw [h.a2]; exact l))
  a1 := h.a1
  a2 := h.a2
  cd := h.cd.same (hk _ h.cd.ltp (by rw [h.c1]; decide) (by rw [h.c1]; exact h2)) (hk _ h.cd.ltq (by rw [h.c2]; decide) (by rw [h.c2]; exact h2))
  c1 := h.c1
  c2 := h.c2
  wd := (hk _ (lt_of_some h.wd) (by rw [h.w1]; decide) (by rw [h.w1]; exact h3)).trans h.wd
  w1 := h.w1
  rt := by
    by_cases l : L 4
    · exact hR l
    · exact (hk _ (lt_of_some h.rt) (by rw [h.r1]; decide) (by rw [h.r1]; exact l)).trans h.rt
  rl := h.rl
  r1 := h.r1
  cb := by
    by_cases l : L 5
    · exact hK l
    · exact (hk _ (lt_of_some h.cb) (by rw [h.k1]; decide) (by rw [h.k1]; exact l)).trans h.cb
  k1 := h.k1
  mp := by
    by_cases l : L 6
    · exact hM l
    · exact h.mp.same (hk _ h.mp.lt (by rw [h.m1]; decide) (by rw [h.m1]; exact l))
  m1 := h.m1
  wr := by
    by_cases l : L 7
    · exact hW l
    · exact row_keep h.wr (fun b e => hk b (row_lt h.wr b e).2 (by rw [h.wo b e]; decide) (by rw [h.wo b e]; exact l))
  wo := h.wo
  er := by
    by_cases l : L 8
    · exact hE l
    · exact row_keep h.er (fun b e => hk b (row_lt h.er b e).2 (by rw [h.eo b e]; decide) (by rw [h.eo b e]; exact l))
  eo := h.eo
  lt := fun b hb => Nat.lt_of_lt_of_le (h.lt b hb) hs
end
def cutV (c : Cc) (k : Ck) (vw ve : Value) : Ob Cs where
  J F s w := ∃ own, Mc c k own s vw ve w /\ ∀ b, F b ↔ own b ≠ 0
  lt := by
    rintro F s w ⟨own, h, hF⟩ b hb
    exact h.lt b ((hF b).1 hb)
  keep := by
    rintro F s w w' ⟨own, h, hF⟩ hs hk
    exact ⟨own, h.but (fun _ => False) hs (fun b _ hb _ => hk b ((hF b).2 hb)) False.elim False.elim False.elim False.elim False.elim False.elim id id, hF⟩
def cutO (c : Cc) (k : Ck) : Ob Cs where
  J F s w := ∃ vw ve, (cutV c k vw ve).J F s w
  lt := by
    rintro F s w ⟨vw, ve, h⟩
    exact (cutV c k vw ve).lt h
  keep := by
    rintro F s w w' ⟨vw, ve, h⟩ hs hk
    exact ⟨vw, ve, (cutV c k vw ve).keep h hs hk⟩
section
variable {c : Cc} {k : Ck} {vw ve : Value} {F : Nat -> Prop} {s : Cs} {w w' : World}
theorem cut_arena (h : (cutV c k vw ve).J F s w) : At w c.p c.q k.N k.O k.y s.g s.ws /\ ∀ w' g ws, At w' c.p c.q k.N k.O k.y g ws -> Sv c.p c.q w w' -> (cutV c k vw ve).J F { s with g := g, ws := ws } w' /\ Tn F w F w' := by
  obtain ⟨own, h, hF⟩ := h
  refine ⟨h.ar, fun w' g ws ha sv => ⟨⟨own, ?_, hF⟩, ⟨⟨sv.os, sv.tape, sv.output, sv.size, fun b hb hn => sv.block b hb (fun e => hn ((hF b).2 (by rw [e, h.a1]; decide))) (fun e => hn ((hF b).2 (by rw [e, h.a2]; decide)))⟩, fun _ h => Or.inl h⟩⟩⟩
  have hb : ∀ b, b < w.heap.size -> own b ≠ 0 -> ¬ own b = 1 -> w'.heap[b]? = w.heap[b]? := fun b hb _ hn => sv.block b hb (fun e => hn (by rw [e]; exact h.a1)) (fun e => hn (by rw [e]; exact h.a2))
  exact { ar := ha, a1 := h.a1, a2 := h.a2, c1 := h.c1, c2 := h.c2, w1 := h.w1, rl := h.rl, r1 := h.r1, k1 := h.k1, m1 := h.m1, wo := h.wo, eo := h.eo, lt := fun b hb => Nat.lt_of_lt_of_le (h.lt b hb) sv.size
          cd := h.cd.same (hb _ h.cd.ltp (by rw [h.c1]; decide) (by rw [h.c1]; decide)) (hb _ h.cd.ltq (by rw [h.c2]; decide) (by rw [h.c2]; decide))
          wd := (hb _ (lt_of_some h.wd) (by rw [h.w1]; decide) (by rw [h.w1]; decide)).trans h.wd
          rt := (hb _ (lt_of_some h.rt) (by rw [h.r1]; decide) (by rw [h.r1]; decide)).trans h.rt
          cb := (hb _ (lt_of_some h.cb) (by rw [h.k1]; decide) (by rw [h.k1]; decide)).trans h.cb
          mp := h.mp.same (hb _ h.mp.lt (by rw [h.m1]; decide) (by rw [h.m1]; decide))
          wr := row_keep h.wr (fun b e => hb b (row_lt h.wr b e).2 (by rw [h.wo b e]; decide) (by rw [h.wo b e]; decide))
          er := row_keep h.er (fun b e => hb b (row_lt h.er b e).2 (by rw [h.eo b e]; decide) (by rw [h.eo b e]; decide)) }
theorem cut_map (h : (cutV c k vw ve).J F s w) : Mp w c.mq k.T s.f /\ ∀ w' f, Mp w' c.mq k.T f -> Fr (fun b => b = c.mq) w w' -> (cutV c k vw ve).J F { s with f := f } w' /\ Tn F w F w' := by
  obtain ⟨own, h, hF⟩ := h
  refine ⟨h.mp, fun w' f hm fr => ⟨⟨own, ?_, hF⟩, ⟨fr.mono (fun b e => (hF b).2 (by rw [e, h.m1]; decide)), fun _ h => Or.inl h⟩⟩⟩
  have hb : ∀ b, b < w.heap.size -> own b ≠ 6 -> w'.heap[b]? = w.heap[b]? := fun b hb hn => fr.block b hb (fun e => hn (by rw [e]; exact h.m1))
  exact { mp := hm, a1 := h.a1, a2 := h.a2, c1 := h.c1, c2 := h.c2, w1 := h.w1, rl := h.rl, r1 := h.r1, k1 := h.k1, m1 := h.m1, wo := h.wo, eo := h.eo, lt := fun b hb => Nat.lt_of_lt_of_le (h.lt b hb) fr.size
          ar := h.ar.same (hb _ h.ar.ltp (by rw [h.a1]; decide)) (hb _ h.ar.ltq (by rw [h.a2]; decide))
          cd := h.cd.same (hb _ h.cd.ltp (by rw [h.c1]; decide)) (hb _ h.cd.ltq (by rw [h.c2]; decide))
          wd := (hb _ (lt_of_some h.wd) (by rw [h.w1]; decide)).trans h.wd
          rt := (hb _ (lt_of_some h.rt) (by rw [h.r1]; decide)).trans h.rt
          cb := (hb _ (lt_of_some h.cb) (by rw [h.k1]; decide)).trans h.cb
          wr := row_keep h.wr (fun b e => hb b (row_lt h.wr b e).2 (by rw [h.wo b e]; decide))
          er := row_keep h.er (fun b e => hb b (row_lt h.er b e).2 (by rw [h.eo b e]; decide)) }
theorem cut_root (h : (cutV c k vw ve).J F s w) (i : Nat) (x : Int) : (cutV c k vw ve).J F { s with rs := s.rs.set i x } (w.setCell ⟨c.nb, i, none⟩ (.int .i64 x)) /\ Tn F w F (w.setCell ⟨c.nb, i, none⟩ (.int .i64 x)) := by
  obtain ⟨own, h, hF⟩ := h
  have fr : Fr (fun b => b = c.nb) w (w.setCell ⟨c.nb, i, none⟩ (.int .i64 x)) := (Fr.refl _ w).set _ i _ rfl
  refine ⟨⟨own, ?_, hF⟩, ⟨fr.mono (fun b e => (hF b).2 (by rw [e, h.r1]; decide)), fun _ h => Or.inl h⟩⟩
  have hb : ∀ b, b < w.heap.size -> own b ≠ 4 -> (w.setCell ⟨c.nb, i, none⟩ (.int .i64 x)).heap[b]? = w.heap[b]? := fun b hb hn => fr.block b hb (fun e => hn (by rw [e]; exact h.r1))
  exact { mp := h.mp.same (hb _ h.mp.lt (by rw [h.m1]; decide)), a1 := h.a1, a2 := h.a2, c1 := h.c1, c2 := h.c2, w1 := h.w1, r1 := h.r1, k1 := h.k1, m1 := h.m1, wo := h.wo, eo := h.eo, lt := fun b hb => Nat.lt_of_lt_of_le (h.lt b hb) fr.size
          rl := by rw [List.length_set]; exact h.rl
          ar := h.ar.same (hb _ h.ar.ltp (by rw [h.a1]; decide)) (hb _ h.ar.ltq (by rw [h.a2]; decide))
          cd := h.cd.same (hb _ h.cd.ltp (by rw [h.c1]; decide)) (hb _ h.cd.ltq (by rw [h.c2]; decide))
          wd := (hb _ (lt_of_some h.wd) (by rw [h.w1]; decide)).trans h.wd
          rt := by
            have hq := h.rt
            simp only [World.setCell, Array.getElem?_modify, if_true, hq, Option.map_some]
            simp [List.map_set]
          cb := (hb _ (lt_of_some h.cb) (by rw [h.k1]; decide)).trans h.cb
          wr := row_keep h.wr (fun b e => hb b (row_lt h.wr b e).2 (by rw [h.wo b e]; decide))
          er := row_keep h.er (fun b e => hb b (row_lt h.er b e).2 (by rw [h.eo b e]; decide)) }
theorem cut_cells (h : (cutV c k vw ve).J F s w) : w.cell? ⟨c.pk, 0, none⟩ = some (.pointer (some ⟨c.pw, 0, none⟩)) /\ w.cell? ⟨c.pk, 1, none⟩ = some (.map (some c.mq)) /\ w.cell? ⟨c.pk, 2, none⟩ = some (.int .i64 s.nx) /\ w.cell? ⟨c.pk, 3, none⟩ = some vw /\ w.cell? ⟨c.pk, 4, none⟩ = some ve /\
  w.cell? ⟨c.pw, 0, none⟩ = some (.pointer (some ⟨c.p, 0, none⟩)) /\ w.cell? ⟨c.pw, 1, none⟩ = some (.pointer (some ⟨c.pc, 0, none⟩)) /\ w.cell? ⟨c.pw, 2, none⟩ = some (.pointer (some ⟨c.sd, 0, none⟩)) /\ w.cell? ⟨c.pw, 3, none⟩ = some (.slice (some ⟨c.nb, 0, none⟩) 12 12) /\ (∀ o, w.frozen? ⟨c.pk, o, none⟩ = false) /\
  w.ownsRow 0 3 1 vw s.wk.length (s.wk.map (Value.int .i64)) /\ w.ownsRow 0 3 1 ve s.ep.length (s.ep.map (Value.int .i64)) /\ Cd w c.pc c.pq k.N c.c c.M /\ c.pk < w.heap.size /\ c.pw < w.heap.size := by
 obtain ⟨own, h, hF⟩ := h
 have h1 := h.cb
 have h2 := h.wd
 exact ⟨by simp [World.cell?, h1], by simp [World.cell?, h1], by simp [World.cell?, h1], by simp [World.cell?, h1], by simp [World.cell?, h1], by simp [World.cell?, h2], by simp [World.cell?, h2], by simp [World.cell?, h2], by simp [World.cell?, h2], fun o => by simp [World.frozen?, h1], h.wr, h.er, h.cd, lt_of_some h1, lt_of_some h2⟩
theorem cut_roots (h : (cutV c k vw ve).J F s w) : s.rs.length = 12 /\ c.nb < w.heap.size /\ ∀ i, i < 12 -> w.cell? ⟨c.nb, i, none⟩ = some (.int .i64 (s.rs.getD i 0)) /\ w.frozen? ⟨c.nb, i, none⟩ = false := by
 obtain ⟨own, h, hF⟩ := h
 have hl := h.rl
 refine ⟨hl, lt_of_some h.rt, fun i hi => ⟨?_, ?_⟩⟩
 ·simp [World.cell?, h.rt, List.getElem?_map, List.getElem?_eq_getElem (show i < s.rs.length by omega), List.getD_eq_getElem?_getD]
 ·simp [World.frozen?, h.rt]
theorem cut_ne (h : (cutV c k vw ve).J F s w) : c.pk ≠ c.mq /\ c.pw ≠ c.mq := by
 obtain ⟨own, h, hF⟩ := h
 refine ⟨fun e => ?_, fun e => ?_⟩
 ·have h1 := h.k1
  rw [e, h.m1] at h1
  omega
 ·have h1 := h.w1
  rw [e, h.m1] at h1
  omega
theorem cut_rne (h : (cutV c k vw ve).J F s w) {v : Value} (hv : w.cell? ⟨c.pk, 3, none⟩ = some v \/ w.cell? ⟨c.pk, 4, none⟩ = some v) : some c.pk ≠ v.ownBlock /\ some c.pw ≠ v.ownBlock := by
 obtain ⟨own, h, hF⟩ := h
 have h1 := h.cb
 have hl : ∀ b, some b = v.ownBlock -> own b = 7 \/ own b = 8 := fun b e => by
  rcases hv with hv | hv
  ·simp [World.cell?, h1] at hv
   subst hv
   exact Or.inl (h.wo b e)
  ·simp [World.cell?, h1] at hv
   subst hv
   exact Or.inr (h.eo b e)
 refine ⟨fun e => ?_, fun e => ?_⟩
 ·have := hl _ e
  rw [h.k1] at this
  omega
 ·have := hl _ e
  rw [h.w1] at this
  omega
theorem cut_next (h : (cutV c k vw ve).J F s w) (n : Int) : (cutV c k vw ve).J F { s with nx := n } (w.setCell ⟨c.pk, 2, none⟩ (.int .i64 n)) /\ Tn F w F (w.setCell ⟨c.pk, 2, none⟩ (.int .i64 n)) := by
  obtain ⟨own, h, hF⟩ := h
  have fr : Fr (fun b => b = c.pk) w (w.setCell ⟨c.pk, 2, none⟩ (.int .i64 n)) := (Fr.refl _ w).set _ 2 _ rfl
  refine ⟨⟨own, ?_, hF⟩, ⟨fr.mono (fun b e => (hF b).2 (by rw [e, h.k1]; decide)), fun _ h => Or.inl h⟩⟩
  have hb : ∀ b, b < w.heap.size -> own b ≠ 5 -> (w.setCell ⟨c.pk, 2, none⟩ (.int .i64 n)).heap[b]? = w.heap[b]? := fun b hb hn => fr.block b hb (fun e => hn (by rw [e]; exact h.k1))
  exact { mp := h.mp.same (hb _ h.mp.lt (by rw [h.m1]; decide)), a1 := h.a1, a2 := h.a2, c1 := h.c1, c2 := h.c2, w1 := h.w1, r1 := h.r1, k1 := h.k1, m1 := h.m1, wo := h.wo, eo := h.eo, lt := fun b hb => Nat.lt_of_lt_of_le (h.lt b hb) fr.size
          rl := h.rl
          ar := h.ar.same (hb _ h.ar.ltp (by rw [h.a1]; decide)) (hb _ h.ar.ltq (by rw [h.a2]; decide))
          cd := h.cd.same (hb _ h.cd.ltp (by rw [h.c1]; decide)) (hb _ h.cd.ltq (by rw [h.c2]; decide))
          wd := (hb _ (lt_of_some h.wd) (by rw [h.w1]; decide)).trans h.wd
          rt := (hb _ (lt_of_some h.rt) (by rw [h.r1]; decide)).trans h.rt
          cb := by
            have hq := h.cb
            simp only [World.setCell, Array.getElem?_modify, if_true, hq, Option.map_some]
            simp
          wr := row_keep h.wr (fun b e => hb b (row_lt h.wr b e).2 (by rw [h.wo b e]; decide))
          er := row_keep h.er (fun b e => hb b (row_lt h.er b e).2 (by rw [h.eo b e]; decide)) }
theorem cut_weaks0 {v0 : Value} (h : (cutV c k v0 ve).J F s w) {v1 : Value} {l : List Int} {w1 : World} (f1 : Fr (fun b => some b = v0.ownBlock) w w1) (ho : w1.ownsRow 0 3 1 v1 l.length (l.map (Value.int .i64))) (hn : ∀ b, some b = v1.ownBlock -> some b = v0.ownBlock \/ ¬ F b) :
    (cutV c k v1 ve).J (fun b => F b \/ some b = v1.ownBlock) { s with wk := l } (w1.setCell ⟨c.pk, 3, none⟩ v1) /\ Fr F w (w1.setCell ⟨c.pk, 3, none⟩ v1) := by
  obtain ⟨own, h, hF⟩ := h
  have sz : (w1.setCell ⟨c.pk, 3, none⟩ v1).heap.size = w1.heap.size := by simp [World.setCell]
  have hb1 : ∀ b, b < w.heap.size -> own b ≠ 7 -> w1.heap[b]? = w.heap[b]? := fun b hb hn => f1.block b hb (fun e => hn (h.wo b e))
  have hb : ∀ b, b < w.heap.size -> own b ≠ 7 -> own b ≠ 5 -> (w1.setCell ⟨c.pk, 3, none⟩ v1).heap[b]? = w.heap[b]? := fun b hb h7 h5 => (Below.heap_setCell _ _ _ _ (fun e => h5 (by have e : b = c.pk := e; rw [e]; exact h.k1))).trans (hb1 b hb h7)
  have hnw : ∀ b, some b = v1.ownBlock -> own b = 7 \/ own b = 0 := fun b e => (hn b e).elim (fun e => Or.inl (h.wo b e)) (fun hl => Or.inr (Classical.byContradiction (fun c => hl ((hF b).2 c))))
  have e1 : ∀ b j, own b = j -> j ≠ 7 -> j ≠ 0 -> (if some b = v1.ownBlock then 7 else own b) = j := fun b j e h7 h0 => by
    rw [if_neg (fun c => by rcases hnw b c with c | c <;> omega)]
    exact e
  have lt1 := fun b e => (row_lt ho b e).2
  refine ⟨⟨fun b => if some b = v1.ownBlock then 7 else own b, ?_, fun b => ?_⟩, ?_⟩
  · exact { ar := h.ar.same (hb _ h.ar.ltp (by rw [h.a1]; decide) (by rw [h.a1]; decide)) (hb _ h.ar.ltq (by rw [h.a2]; decide) (by rw [h.a2]; decide))
            a1 := e1 _ _ h.a1 (by decide) (by decide), a2 := e1 _ _ h.a2 (by decide) (by decide), c1 := e1 _ _ h.c1 (by decide) (by decide), c2 := e1 _ _ h.c2 (by decide) (by decide), w1 := e1 _ _ h.w1 (by decide) (by decide), r1 := e1 _ _ h.r1 (by decide) (by decide), k1 := e1 _ _ h.k1 (by decide) (by decide), m1 := e1 _ _ h.m1 (by decide) (by decide)
            rl := h.rl
            cd := h.cd.same (hb _ h.cd.ltp (by rw [h.c1]; decide) (by rw [h.c1]; decide)) (hb _ h.cd.ltq (by rw [h.c2]; decide) (by rw [h.c2]; decide))
            wd := (hb _ (lt_of_some h.wd) (by rw [h.w1]; decide) (by rw [h.w1]; decide)).trans h.wd
            rt := (hb _ (lt_of_some h.rt) (by rw [h.r1]; decide) (by rw [h.r1]; decide)).trans h.rt
            cb := by
              have hq := (hb1 _ (lt_of_some h.cb) (by rw [h.k1]; decide)).trans h.cb
              simp only [World.setCell, Array.getElem?_modify, if_true, hq, Option.map_some]
              simp
            mp := h.mp.same (hb _ h.mp.lt (by rw [h.m1]; decide) (by rw [h.m1]; decide))
            wr := row_keep ho (fun b e => Below.heap_setCell _ _ _ _ (fun e' => by
              have e' : b = c.pk := e'
              have := hnw b e
              rw [e', h.k1] at this
              omega))
            wo := fun b e => by rw [if_pos e]
            er := row_keep h.er (fun b e => hb b (row_lt h.er b e).2 (by rw [h.eo b e]; decide) (by rw [h.eo b e]; decide))
            eo := fun b e => e1 _ _ (h.eo b e) (by decide) (by decide)
            lt := fun b hb => by
              rw [sz]
              by_cases e : some b = v1.ownBlock
              · exact lt1 b e
              · rw [if_neg e] at hb
                exact Nat.lt_of_lt_of_le (h.lt b hb) f1.size }
  · by_cases e : some b = v1.ownBlock
    · simp [e]
    · simp [e, hF b]
  · refine (f1.mono (fun b e => (hF b).2 (by rw [h.wo b e]; decide))).trans ((Fr.refl (fun b => b = c.pk) w1).set _ 3 _ rfl) (fun b e => Or.inl ((hF b).2 (by rw [e, h.k1]; decide)))
theorem cut_weaks {v0 : Value} (h : (cutV c k v0 ve).J F s w) {v1 : Value} {l : List Int} {w1 : World} (f1 : Fr (fun b => some b = v0.ownBlock) w w1) (ho : w1.ownsRow 0 3 1 v1 l.length (l.map (Value.int .i64))) (hn : ∀ b, some b = v1.ownBlock -> some b = v0.ownBlock \/ w.heap.size <= b) :
  ∃ F', (cutV c k v1 ve).J F' { s with wk := l } (w1.setCell ⟨c.pk, 3, none⟩ v1) /\ Tn F w F' (w1.setCell ⟨c.pk, 3, none⟩ v1) := by
 obtain ⟨h1, h2⟩ := cut_weaks0 h f1 ho (fun b e => (hn b e).imp id (fun d hb => by have := (cutV c k v0 ve).lt h b hb; omega))
 obtain ⟨own, hm, hF⟩ := h
 exact ⟨_, h1, h2, fun b hb => hb.elim Or.inl (fun e => (hn b e).imp (fun e => (hF b).2 (by rw [hm.wo b e]; decide)) id)⟩
theorem cut_ephems0 {v0 : Value} (h : (cutV c k vw v0).J F s w) {v1 : Value} {l : List Int} {w1 : World} (f1 : Fr (fun b => some b = v0.ownBlock) w w1) (ho : w1.ownsRow 0 3 1 v1 l.length (l.map (Value.int .i64))) (hn : ∀ b, some b = v1.ownBlock -> some b = v0.ownBlock \/ ¬ F b) :
    (cutV c k vw v1).J (fun b => F b \/ some b = v1.ownBlock) { s with ep := l } (w1.setCell ⟨c.pk, 4, none⟩ v1) /\ Fr F w (w1.setCell ⟨c.pk, 4, none⟩ v1) := by
  obtain ⟨own, h, hF⟩ := h
  have sz : (w1.setCell ⟨c.pk, 4, none⟩ v1).heap.size = w1.heap.size := by simp [World.setCell]
  have hb1 : ∀ b, b < w.heap.size -> own b ≠ 8 -> w1.heap[b]? = w.heap[b]? := fun b hb hn => f1.block b hb (fun e => hn (h.eo b e))
  have hb : ∀ b, b < w.heap.size -> own b ≠ 8 -> own b ≠ 5 -> (w1.setCell ⟨c.pk, 4, none⟩ v1).heap[b]? = w.heap[b]? := fun b hb h7 h5 => (Below.heap_setCell _ _ _ _ (fun e => h5 (by have e : b = c.pk := e; rw [e]; exact h.k1))).trans (hb1 b hb h7)
  have hnw : ∀ b, some b = v1.ownBlock -> own b = 8 \/ own b = 0 := fun b e => (hn b e).elim (fun e => Or.inl (h.eo b e)) (fun hl => Or.inr (Classical.byContradiction (fun c => hl ((hF b).2 c))))
  have e1 : ∀ b j, own b = j -> j ≠ 8 -> j ≠ 0 -> (if some b = v1.ownBlock then 8 else own b) = j := fun b j e h7 h0 => by
    rw [if_neg (fun c => by rcases hnw b c with c | c <;> omega)]
    exact e
  have lt1 := fun b e => (row_lt ho b e).2
  refine ⟨⟨fun b => if some b = v1.ownBlock then 8 else own b, ?_, fun b => ?_⟩, ?_⟩
  · exact { ar := h.ar.same (hb _ h.ar.ltp (by rw [h.a1]; decide) (by rw [h.a1]; decide)) (hb _ h.ar.ltq (by rw [h.a2]; decide) (by rw [h.a2]; decide))
            a1 := e1 _ _ h.a1 (by decide) (by decide), a2 := e1 _ _ h.a2 (by decide) (by decide), c1 := e1 _ _ h.c1 (by decide) (by decide), c2 := e1 _ _ h.c2 (by decide) (by decide), w1 := e1 _ _ h.w1 (by decide) (by decide), r1 := e1 _ _ h.r1 (by decide) (by decide), k1 := e1 _ _ h.k1 (by decide) (by decide), m1 := e1 _ _ h.m1 (by decide) (by decide)
            rl := h.rl
            cd := h.cd.same (hb _ h.cd.ltp (by rw [h.c1]; decide) (by rw [h.c1]; decide)) (hb _ h.cd.ltq (by rw [h.c2]; decide) (by rw [h.c2]; decide))
            wd := (hb _ (lt_of_some h.wd) (by rw [h.w1]; decide) (by rw [h.w1]; decide)).trans h.wd
            rt := (hb _ (lt_of_some h.rt) (by rw [h.r1]; decide) (by rw [h.r1]; decide)).trans h.rt
            cb := by
              have hq := (hb1 _ (lt_of_some h.cb) (by rw [h.k1]; decide)).trans h.cb
              simp only [World.setCell, Array.getElem?_modify, if_true, hq, Option.map_some]
              simp
            mp := h.mp.same (hb _ h.mp.lt (by rw [h.m1]; decide) (by rw [h.m1]; decide))
            er := row_keep ho (fun b e => Below.heap_setCell _ _ _ _ (fun e' => by
              have e' : b = c.pk := e'
              have := hnw b e
              rw [e', h.k1] at this
              omega))
            eo := fun b e => by rw [if_pos e]
            wr := row_keep h.wr (fun b e => hb b (row_lt h.wr b e).2 (by rw [h.wo b e]; decide) (by rw [h.wo b e]; decide))
            wo := fun b e => e1 _ _ (h.wo b e) (by decide) (by decide)
            lt := fun b hb => by
              rw [sz]
              by_cases e : some b = v1.ownBlock
              · exact lt1 b e
              · rw [if_neg e] at hb
                exact Nat.lt_of_lt_of_le (h.lt b hb) f1.size }
  · by_cases e : some b = v1.ownBlock
    · simp [e]
    · simp [e, hF b]
  · refine (f1.mono (fun b e => (hF b).2 (by rw [h.eo b e]; decide))).trans ((Fr.refl (fun b => b = c.pk) w1).set _ 4 _ rfl) (fun b e => Or.inl ((hF b).2 (by rw [e, h.k1]; decide)))
theorem cut_ephems {v0 : Value} (h : (cutV c k vw v0).J F s w) {v1 : Value} {l : List Int} {w1 : World} (f1 : Fr (fun b => some b = v0.ownBlock) w w1) (ho : w1.ownsRow 0 3 1 v1 l.length (l.map (Value.int .i64))) (hn : ∀ b, some b = v1.ownBlock -> some b = v0.ownBlock \/ w.heap.size <= b) :
  ∃ F', (cutV c k vw v1).J F' { s with ep := l } (w1.setCell ⟨c.pk, 4, none⟩ v1) /\ Tn F w F' (w1.setCell ⟨c.pk, 4, none⟩ v1) := by
 obtain ⟨h1, h2⟩ := cut_ephems0 h f1 ho (fun b e => (hn b e).imp id (fun d hb => by have := (cutV c k vw v0).lt h b hb; omega))
 obtain ⟨own, hm, hF⟩ := h
 exact ⟨_, h1, h2, fun b hb => hb.elim Or.inl (fun e => (hn b e).imp (fun e => (hF b).2 (by rw [hm.eo b e]; decide)) id)⟩
end
end Go.Proofs.YtnalfnlmaallmaaGreat
