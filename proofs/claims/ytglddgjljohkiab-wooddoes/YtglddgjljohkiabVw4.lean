/- A walk begins: a contract. -/
import Derived.Test.YtglddgjljohkiabVw2
namespace Go.Proofs.Ytglddgjljohkiab
open Go.RowKit W Kp Stl

theorem elI (x : Int) (h : (Lit.int .i64 x).wf = true) : plainElem (H := Unit) Try.prog 3 (.int .i64 x) = some (.lit (.int .i64 x), []) := plainElem_int Try.underlying3 h
theorem keyI {a : Int} (h0 : 0 ≤ a) (h1 : a < 1152921504606846976) : keyOf Try.prog 3 (.int .i64 a) = some (.int .i64 a) := Maps.keyOf_int_mk Try.underlying3 (WalkArith.wf_i64 ⟨by omega, by omega⟩)

/-- One place more, which was not met. -/
theorem Nm.add {w w' : World} {mq n : Nat} {T : List Int} {a : Int} {D : DataW Unit} (h1 : w.ownsMap Try.prog 3 (plainElem Try.prog 3) mq T.length D) (h2 : ∀ a : Int, Maps.has D (.int .i64 a) = T.contains a) (h3 : ∀ a ∈ T, D.atKey (.int .i64 a) (.lit (.int .i64 0)) = .lit (.int .i64 (nb [] a)))
    (hn : n = T.length + 1) (h4 : w'.ownsMap Try.prog 3 (plainElem Try.prog 3) mq n (D.put (.int .i64 a) (.lit (.int .i64 (-1))))) : Nm w' mq (T ++ [a]) [] := by
  refine ⟨_, by rw [hn] at h4; simpa using h4, fun b => ?_, fun b hb => ?_⟩
  · by_cases e : b = a
    · subst e
      rw [Maps.has_put_same (k := .int .i64 b) h1.isMap trivial]
      simp
    · rw [Maps.has_put_other (by simpa using e), h2]
      simp [e]
  · by_cases e : b = a
    · subst e
      rw [Maps.atKey_put_same (k := .int .i64 b) h1.isMap trivial]
      rfl
    · rw [Maps.atKey_put_other (by simpa using e)]
      refine h3 b ?_
      rcases List.mem_append.1 hb with hb | hb
      · exact hb
      · simp at hb
        exact absurd hb e
/-- A place is met. -/
theorem Nm.put {w w' : World} {mq n : Nat} {T ms : List Int} {a : Int} {D : DataW Unit} (h1 : w.ownsMap Try.prog 3 (plainElem Try.prog 3) mq T.length D) (h2 : ∀ a : Int, Maps.has D (.int .i64 a) = T.contains a) (h3 : ∀ a ∈ T, D.atKey (.int .i64 a) (.lit (.int .i64 0)) = .lit (.int .i64 (nb ms a)))
    (ha : a ∈ T) (hm : a ∉ ms) (h4 : w'.ownsMap Try.prog 3 (plainElem Try.prog 3) mq n (D.put (.int .i64 a) (.lit (.int .i64 ms.length)))) : Nm w' mq T (ms ++ [a]) := by
  have hs : Maps.size (D.put (.int .i64 a) (.lit (.int .i64 ms.length))) ≤ T.length := by
    rw [Maps.size_put (h1.tidy lawI), h2, if_pos (by simpa using ha)]
    exact h1.size_le
  refine ⟨_, (own_tight h4 rfl).mono hs, fun b => ?_, fun b hb => ?_⟩
  · by_cases e : b = a
    · subst e
      rw [Maps.has_put_same (k := .int .i64 b) h1.isMap trivial]
      simp [ha]
    · rw [Maps.has_put_other (by simpa using e), h2]
  · rw [nb_snoc hm]
    by_cases e : b = a
    · subst e
      rw [Maps.atKey_put_same (k := .int .i64 b) h1.isMap trivial, if_pos rfl]
    · rw [Maps.atKey_put_other (by simpa using e), if_neg e]
      exact h3 b hb

section
variable {w : World} {pw p q N O y g : Nat} {ws : List Int}

theorem thY_bd (a : Int) (h : a ∈ thY N y g ws) : 0 ≤ a ∧ a < y := ths_bd _ _ _ h
theorem thO_bd (a : Int) (h : a ∈ thO N y g ws) : (N : Int) ≤ a ∧ a < (N : Int) + g := ths_bd _ _ _ h

set_option maxRecDepth 100000 in
set_option maxHeartbeats 2000000 in
theorem newWalk_any (c0 : w.cell? ⟨pw, 0, none⟩ = some (.pointer (some ⟨p, 0, none⟩))) (h : At w p q N O y g ws) :
    Calls Try.prog 77 #[.pointer (some ⟨pw, 0, none⟩)] w fun e w' => ∃ kb mq, e = .returned (.pointer (some ⟨kb, 0, none⟩)) ∧ Wk w w' kb mq pw (thY N y g ws ++ thO N y g ws) ([], []) (.slice none 0 0) [] := by
  have hmm := @run_makeMap Try.prog
  have lpw := World.block_lt_of_cell? w _ c0
  have hY : (thY N y g ws).length ≤ 2000 := ths_le _ _
  have hO : (thO N y g ws).length ≤ 2000 := ths_le _ _
  have hv := elI (-1) (by decide)
  have k1 := h.hN'
  have k2 := h.hy
  have k3 := h.hO
  have k4 := h.hg
  have bY : Hid (∀ a ∈ thY N y g ws, 0 ≤ a ∧ a < 2000) := fun a ha => by have := thY_bd a ha; omega
  have bO : Hid (∀ a ∈ thO N y g ws, 0 ≤ a ∧ a < 2000) := fun a ha => by have := thO_bd a ha; omega
  have hm0 := World.ownsMap_made w Try.prog 3 (plainElem (H := Unit) Try.prog 3)
  have hN0 : Nm (w.alloc (.map #[] 0)) w.heap.size [] [] := ⟨_, hm0, fun _ => rfl, fun a ha => by simp at ha⟩
  have hb0 := ((Below.refl w.heap.size w).alloc (Nat.le_refl _) (.map #[] 0)).alloc (by simp) (.cells #[.pointer (some ⟨pw, 0, none⟩), .map (some w.heap.size), .slice none 0 0] 128)
  have hA := h.below hb0 (Nat.le_refl _)
  have hk0 := heap_alloc_new (w.alloc (.map #[] 0)) (.cells #[.pointer (some ⟨pw, 0, none⟩), .map (some w.heap.size), .slice none 0 0] 128)
  have hN1 := hN0.same (w' := (w.alloc (.map #[] 0)).alloc (.cells #[.pointer (some ⟨pw, 0, none⟩), .map (some w.heap.size), .slice none 0 0] 128)) (Below.heap_alloc _ _ _ (by simp))
  have x0 := (hb0.cell (p := ⟨pw, 0, none⟩) lpw).trans c0
  have P := things_any _ hA
  clear hm0 hN0 h hA
  generalize thY N y g ws = TY at P hY hO bY bO ⊢
  generalize thO N y g ws = TO at P hY hO bY bO ⊢
  go_enter Try.func77, Try.ntmps77
  go_wp2_with fail
  refine P.mono ?_
  clear P
  rintro e w2 ⟨v1, v2, rfl, ho1, ho2, hb2⟩
  obtain ⟨d1, f1, rfl⟩ := row_slice ho1
  obtain ⟨d2, f2, rfl⟩ := row_slice ho2
  have hB2 := hb0.trans (hb2.mono hb0.size)
  rw [World.size_alloc] at hk0
  have hk2 := (hb2.block (w.heap.size + 1) (by simp)).trans hk0
  have hN2 := hN1.same (hb2.block w.heap.size (by simp; omega))
  have L1 := row_ints ho1
  have L2 := row_ints ho2
  have ne1 : ∀ k, some k = (Value.slice d1 (TY).length f1).ownBlock → k ≠ w.heap.size := fun k e => by have := (row_lt ho1 k e).1; simp at this; omega
  have ne2 : ∀ k, some k = (Value.slice d2 (TO).length f2).ownBlock → k ≠ w.heap.size := fun k e => by have := (row_lt ho2 k e).1; simp at this; omega
  have HL1 : Hid (∀ w3, Fr (fun k => k = w.heap.size) w2 w3 → Ls w3 d1 (TY)) := fun w3 f => L1.keep f.size (fun hp a e => f.block _ (by obtain ⟨b, o, e', hb, _⟩ := L1 hp; rw [e] at e'; cases e'; exact hb) (fun c => by
    obtain ⟨b, cap, e'⟩ := row_shape ho1 hp
    cases e'
    cases e
    exact ne1 _ rfl c))
  have HL2 : Hid (∀ w3, Fr (fun k => k = w.heap.size) w2 w3 → Ls w3 d2 (TO)) := fun w3 f => L2.keep f.size (fun hp a e => f.block _ (by obtain ⟨b, o, e', hb, _⟩ := L2 hp; rw [e] at e'; cases e'; exact hb) (fun c => by
    obtain ⟨b, cap, e'⟩ := row_shape ho2 hp
    cases e'
    cases e
    exact ne2 _ rfl c))
  have hs2 : w.heap.size + 1 < w2.heap.size := lt_of_some hk2
  have HK : Hid (w2.heap[w.heap.size + 1]? = some (.cells #[.pointer (some ⟨pw, 0, none⟩), .map (some w.heap.size), .slice none 0 0] 128 (0, 0))) := hk2
  clear ne1 ne2 L1 L2 ho1 ho2 hN1 hk0 x0 hb0 hb2 hk2
  go_wp2_with fail
  go_loopw [24] (fun iv wr => ∃ (j : Nat), j ≤ TY.length ∧ iv = .int .i64 j ∧ Nm wr w.heap.size (TY.take j) [] ∧ Fr (fun k => k = w.heap.size) w2 wr) (fun iv _ => TY.length - (intOf iv).toNat)
  case atStart => exact ⟨0, Nat.zero_le _, rfl, hN2, Fr.refl _ _⟩
  case round =>
    obtain ⟨j, hj, rfl, hN, hF⟩ := hrel
    clear hN2
    have x1 : wr.cell? ⟨w.heap.size + 1, 1, none⟩ = some (.map (some w.heap.size)) := by
      have := (hF.block (w.heap.size + 1) hs2 (by omega)).trans HK.out
      simp [World.cell?, this]
    by_cases hlt : j < TY.length
    · obtain ⟨b0, o0, e0, hb0, hc⟩ := HL1.out wr hF (by omega)
      have x2 := hc j hlt
      subst e0
      clear hc
      have hin : TY.getD j 0 ∈ TY := by rw [List.getD_eq_getElem?_getD, List.getElem?_eq_getElem hlt]; exact List.getElem_mem hlt
      have hbd := bY.out _ hin
      have ET : Hid (TY.take (j + 1) = TY.take j ++ [TY.getD j 0]) := take_snoc TY j hlt 0
      clear hin
      generalize TY.getD j 0 = z at x2 hbd ET
      have hky := keyI (a := z) (by omega) (by omega)
      obtain ⟨D, o1, o2, o3⟩ := hN
      have hlen : (TY.take j).length < 100000 := by simp; omega
      have HO : Hid (_ ∧ _ ∧ _) := ⟨o1, o2, o3⟩
      clear o2 o3
      generalize TY.take j = U at *
      go_wp2_with (first
        | (at_mapUpdate; refine wpList_mapUpdate_own _ rfl _ _ _ 126 rfl 3 3 lawI Try.underlying126 (plainElem (H := Unit) Try.prog 3) w.heap.size U.length D rfl o1 (by unfold maxLen; omega) _ _ _ rfl rfl hky _ [] hv ?_; intro w4 hown4 hgrow4)
        | go_in)
      go_roundw
      case rel => exact ⟨j + 1, by omega, by go_num, by rw [ET.out]; exact Nm.add HO.out.1 HO.out.2.1 HO.out.2.2 rfl hown4, hF.grown hgrow4 (fun k e => Or.inl (by cases e; rfl))⟩
      case measure => simp [intOf]; omega
    · obtain rfl : j = TY.length := by omega
      rw [List.take_length] at hN
      clear x1
      go_wp2_with fail
      go_loopw [36] (fun iv wr => ∃ (j : Nat), j ≤ TO.length ∧ iv = .int .i64 j ∧ Nm wr w.heap.size (TY ++ TO.take j) [] ∧ Fr (fun k => k = w.heap.size) w2 wr) (fun iv _ => TO.length - (intOf iv).toNat)
      case atStart => exact ⟨0, Nat.zero_le _, rfl, by simpa using hN, hF⟩
      case round =>
        clear hN hF
        obtain ⟨j, hj, rfl, hN, hF⟩ := hrel
        rename_i wr0 _ _ _ wr _ _
        have x1 : wr.cell? ⟨w.heap.size + 1, 1, none⟩ = some (.map (some w.heap.size)) := by
          have := (hF.block (w.heap.size + 1) hs2 (by omega)).trans HK.out
          simp [World.cell?, this]
        by_cases hlt : j < TO.length
        · obtain ⟨b0, o0, e0, hb0, hc⟩ := HL2.out wr hF (by omega)
          have x2 := hc j hlt
          subst e0
          clear hc
          have hin : TO.getD j 0 ∈ TO := by rw [List.getD_eq_getElem?_getD, List.getElem?_eq_getElem hlt]; exact List.getElem_mem hlt
          have hbd := bO.out _ hin
          have ET : Hid (TY ++ TO.take (j + 1) = (TY ++ TO.take j) ++ [TO.getD j 0]) := by show _ = _; rw [take_snoc TO j hlt 0, List.append_assoc]
          clear hin
          generalize TO.getD j 0 = z at x2 hbd ET
          have hky := keyI (a := z) (by omega) (by omega)
          obtain ⟨D, o1, o2, o3⟩ := hN
          have hlen : (TY ++ TO.take j).length < 100000 := by simp; omega
          have HO : Hid (_ ∧ _ ∧ _) := ⟨o1, o2, o3⟩
          clear o2 o3
          generalize TY ++ TO.take j = U at *
          go_wp2_with (first
            | (at_mapUpdate; refine wpList_mapUpdate_own _ rfl _ _ _ 126 rfl 3 3 lawI Try.underlying126 (plainElem (H := Unit) Try.prog 3) w.heap.size U.length D rfl o1 (by unfold maxLen; omega) _ _ _ rfl rfl hky _ [] hv ?_; intro w4 hown4 hgrow4)
            | go_in)
          go_roundw
          case rel => exact ⟨j + 1, by omega, by go_num, by rw [ET.out]; exact Nm.add HO.out.1 HO.out.2.1 HO.out.2.2 rfl hown4, hF.grown hgrow4 (fun k e => Or.inl (by cases e; rfl))⟩
          case measure => simp [intOf]; omega
        · obtain rfl : j = TO.length := by omega
          rw [List.take_length] at hN
          clear x1
          go_wp2_with fail
          go_ret
          exact ⟨w.heap.size + 1, w.heap.size, rfl, (hF.block (w.heap.size + 1) hs2 (by omega)).trans HK.out, ⟨by omega, Nat.le_refl _⟩, hN, World.ownsRow_nil _ _ _ _, rfl, fun x hx => by simp at hx, hB2.trans (hF.below (by omega) (fun k e => by have e : k = w.heap.size := e; omega))⟩
end

end Go.Proofs.Ytglddgjljohkiab
