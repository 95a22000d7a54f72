/- Joined: Gw3, Gw4. -/
import Derived.Test.YtjhnhbeimjnloaaJ28
import Derived.Deep.AppendLies
/- A grove's walk: node, values over whatever meets: contracts. -/
namespace Go.Proofs.Ytjhnhbeimjnloaa
open Go.RowKit W Kp Stl

def Mtg (w0 : World) (kb mq gp : Nat) (T : List Tw1) (M : Vst → Int → Vst) (n : Nat) : Prop :=
  ∀ (w : World) (s : Vst) (vn : Value) (m : List Vnd) (a : Int), Wkg w0 w kb mq gp s vn m → VOk (tI T.length) s → 0 ≤ a ∧ Alv T a.toNat → a ∉ s.1 → T.length ≤ s.1.length + n →
    Calls Try.prog 71 #[.pointer (some ⟨kb, 0, none⟩), .int .i64 a] w fun e w' => ∃ vn' m', e = .returned (.int .i64 s.1.length) ∧ Wkg w0 w' kb mq gp (M s a) vn' m' ∧ Kvg w0 w m w' m'

def nXg (s : Vst) (a : Int) : Int := if s.1.contains a = true then (s.1.idxOf a : Int) else s.1.length
def nSg (M : Vst → Int → Vst) (s : Vst) (a : Int) : Vst := if s.1.contains a = true then s else M s a
theorem vst_w {T : List Tw1} {M : Vst → Int → Vst} {s : Vst} {v : Int × Int} (h : Vq T v) (h3 : v.1 = 3) : vst M (tI T.length) s (wI v) = ((3, nXg s v.2), nSg M s v.2) := by
  unfold nXg nSg
  cases hs : s.1.contains v.2
  · rw [vst_new h h3 hs, if_neg (by simp), if_neg (by simp)]
  · rw [vst_met h h3 hs, if_pos rfl, if_pos rfl]
theorem zeroL (w : World) : (zeroValue 2).run Try.prog w = .ok (.int .i64 0) w := by kernel_rfl

section
variable {w0 w : World} {kb mq gp n : Nat} {T : List Tw1} {kd : Int → Int} {sh : Int → List Int} {M : Vst → Int → Vst} {s : Vst} {vn : Value} {m : List Vnd}

set_option maxRecDepth 100000 in
set_option maxHeartbeats 1000000 in
theorem nodeG_any (hM : Mtg w0 kb mq gp T M n) (h : Wkg w0 w kb mq gp s vn m) (ho : VOk (tI T.length) s) (hn : T.length ≤ s.1.length + n) (a : Int) (ha : 0 ≤ a ∧ Alv T a.toNat) (hT : T.length ≤ 10000) :
    Calls Try.prog 50 #[.pointer (some ⟨kb, 0, none⟩), .int .i64 a] w fun e w' => ∃ vn' m', e = .returned (.int .i64 (nXg s a)) ∧ Wkg w0 w' kb mq gp (nSg M s a) vn' m' ∧ Kvg w0 w m w' m' := by
  have H : Hid (Wkg w0 w kb mq gp s vn m) := h
  have HM : Hid (Mtg w0 kb mq gp T M n) := hM
  obtain ⟨c0, c1, c2, lk⟩ := h.cells
  have al : a < 10000 := by have := ha.2.1; omega
  have L := h.mp.look_ok (t := 73) (e := 2) Try.underlying73 (zeroL w) (x := a) ha.1 (by omega)
  clear h hM
  by_cases hms : a ∈ s.1
  · rw [mtF_yes hms] at L
    dsimp only [Option.getD_some, Option.isSome_some] at L
    have f1 : nXg s a = (s.1.idxOf a : Int) := by unfold nXg; rw [if_pos (by simpa using hms)]
    have f2 : nSg M s a = s := by unfold nSg; rw [if_pos (by simpa using hms)]
    rw [f1, f2]
    clear HM ho hn hms f1 f2 ha
    generalize s.1.idxOf a = j at L ⊢
    go_enter Try.func50, Try.ntmps50
    go_wp2_with fail
    go_ret
    exact ⟨vn, m, rfl, H.out, Kvg.refl _ _ _⟩
  · rw [mtF_no hms] at L
    dsimp only [Option.getD_none, Option.isSome_none] at L
    have f1 : nXg s a = s.1.length := by unfold nXg; rw [if_neg (by simpa using hms)]
    have f2 : nSg M s a = M s a := by unfold nSg; rw [if_neg (by simpa using hms)]
    rw [f1, f2]
    have P := HM.out w s vn m a H.out ho ha hms hn
    clear HM ho hn hms f1 f2 ha
    generalize M s a = s' at P ⊢
    generalize s.1.length = j at P ⊢
    go_enter Try.func50, Try.ntmps50
    go_wp2_with fail
    refine P.mono ?_
    clear P
    rintro e w1 ⟨vn', m', rfl, h1, k1⟩
    have H1 : Hid (_ ∧ _) := ⟨h1, k1⟩
    clear h1 k1 c0 c1 c2 L
    go_wp2_with fail
    go_ret
    exact ⟨vn', m', rfl, H1.out.1, H1.out.2⟩

set_option maxRecDepth 100000 in
set_option maxHeartbeats 2000000 in
theorem valuesG_any (hM : Mtg w0 kb mq gp T M n) (hV : Vmet (tI T.length) kd sh n M) (h : Wkg w0 w kb mq gp s vn m) (ho : VOk (tI T.length) s) (hn : T.length ≤ s.1.length + n) (hT : T.length ≤ 10000) (l : List (Int × Int)) (hq : ∀ v ∈ l, Vq T v) (ad : Option Addr) (cap : Nat) (hl : Lv w ad l) (hm : l.length ≤ 100000) :
    Calls Try.prog 27 #[.pointer (some ⟨kb, 0, none⟩), .slice ad l.length cap] w fun e w' => ∃ vn' m' a2 c2, e = .returned (.slice a2 l.length c2) ∧ w'.ownsRow w.heap.size 41 2 (.slice a2 l.length c2) l.length (ev (vls M (tI T.length) s (l.map wI)).1) ∧ Wkg w0 w' kb mq gp (vls M (tI T.length) s (l.map wI)).2 vn' m' ∧ Kvg w0 w m w' m' ∧ (∀ k, Fb m' k → some k ≠ (Value.slice a2 l.length c2).ownBlock) := by
  obtain ⟨i0, hi, hz0, hz1, hz2⟩ := info_parts infoVn
  have HM : Hid (Mtg w0 kb mq gp T M n) := hM
  have HV : Hid (Vmet (tI T.length) kd sh n M) := hV
  have HL : Hid (Lv w ad l) := hl
  have HW : Hid (Wkg w0 w kb mq gp s vn m) := h
  have HO : Hid (VOk (tI T.length) s ∧ T.length ≤ s.1.length + n) := ⟨ho, hn⟩
  have HQ : Hid (∀ v ∈ l, Vq T v) := hq
  have HT : Hid (T.length ≤ 10000) := hT
  clear hM hV hl h ho hq hn hT
  go_enter Try.func27, Try.ntmps27
  go_wp2_with (at_make; refine wpList_make_own _ rfl _ _ 32 rfl w.heap.size 41 i0 (.agg #[.int .i64 0, .int .i64 0]) 2 Try.underlying32 hi hz0 hz1 .i64 .i64 _ l.length rfl rfl rfl (by rw [hz2]; omega) (by unfold maxLen; omega) (Nat.le_refl _) ?_; intro w1 hown1 hgrow1)
  have hb1 : Below w.heap.size w w1 := (Below.refl w.heap.size w).grown hgrow1 (Nat.le_refl _) (fun k e => by cases e)
  go_loopw [5, 13] (fun tv iv wr => ∃ (j : Nat) (V : List (Int × Int)) (s1 : Vst) (vn1 : Value) (m1 : List Vnd) (a2 : Option Addr) (c2 : Nat), j ≤ l.length ∧ iv = .int .i64 j ∧ Hid (vls M (tI T.length) s ((l.take j).map wI) = (V, s1)) ∧ tv = .slice a2 j c2 ∧ wr.ownsRow w.heap.size 41 2 (.slice a2 j c2) j (ev V) ∧ Hid (Wkg w0 wr kb mq gp s1 vn1 m1) ∧ Hid (Kvg w0 w m wr m1) ∧ Hid (∀ k, Fb m1 k → some k ≠ (Value.slice a2 j c2).ownBlock) ∧ Hid (VOk (tI T.length) s1 ∧ T.length ≤ s1.1.length + n)) (fun _ iv _ => l.length - (intOf iv).toNat)
  case atStart => exact ⟨0, [], s, vn, m, _, _, Nat.zero_le _, rfl, rfl, rfl, hown1, HW.out.below hb1, Kvg.of hb1, fun k hk e => by
    have := HW.out.fb k hk
    simp [Value.ownBlock] at e
    omega, HO.out⟩
  case round =>
    obtain ⟨j, V, s1, vn1, m1, a2, c2, hj, rfl, HE, rfl, hR, HW1, HK1, HF1, HO1⟩ := hrel
    clear hown1 hgrow1 hb1
    by_cases hlt : j < l.length
    · obtain ⟨b0, o0, e0, hb0, hc⟩ := (HL.out.kg HK1.out.1).1 (by omega)
      obtain ⟨x0, x1⟩ := hc j hlt
      subst e0
      clear hc
      have hvq := HQ.out _ (getD_in (x := (0, 0)) hlt)
      have HS := vls_snoc M (tI T.length) s ((l.take j).map wI) (wI (l.getD j (0, 0)))
      rw [HE.out] at HS
      have EV : (l.take (j + 1)).map wI = (l.take j).map wI ++ [wI (l.getD j (0, 0))] := by
        rw [take_snoc l j hlt (0, 0), List.map_append]
        rfl
      rw [← EV] at HS
      have G := vst_go HV.out HO1.out.1 (by rw [tI_len]; exact HO1.out.2) (wI (l.getD j (0, 0)))
      have HO2 : Hid (VOk (tI T.length) (vst M (tI T.length) s1 (wI (l.getD j (0, 0)))).2 ∧ T.length ≤ (vst M (tI T.length) s1 (wI (l.getD j (0, 0)))).2.1.length + n) := ⟨G.ok, by have := G.le; have := HO1.out.2; omega⟩
      have HS : Hid (vls M (tI T.length) s ((l.take (j + 1)).map wI) = (V ++ [(vst M (tI T.length) s1 (wI (l.getD j (0, 0)))).1], (vst M (tI T.length) s1 (wI (l.getD j (0, 0)))).2)) := HS
      clear G EV
      generalize l.getD j (0, 0) = v at *
      obtain ⟨v0, v1⟩ := v
      dsimp only at x0 x1
      have n3 : IntKind.i64.wrap ((j : Int) + 1) = (j : Int) + 1 := by rw [IntKind.wrap_i64]; omega
      have hba := (Below.refl wr.heap.size wr).alloc (Nat.le_refl _) (.cells #[.int .i64 v0, .int .i64 v1] 41)
      have hx0 := heap_alloc_new wr (.cells #[.int .i64 v0, .int .i64 v1] 41)
      have hszr := HK1.out.1.size
      by_cases h3 : v0 = 3
      · subst h3
        have e2 := vst_w (M := M) (s := s1) hvq rfl
        rw [e2] at HS HO2
        dsimp only at HS HO2
        have P := nodeG_any HM.out (HW1.out.below hba) HO1.out.1 HO1.out.2 v1 (hvq.2 rfl) HT.out
        clear e2 hvq
        generalize nXg s1 v1 = z at *
        generalize nSg M s1 v1 = s2 at *
        go_wp2_with fail
        refine P.mono ?_
        clear P
        rintro e w2 ⟨vn2, m2, rfl, hW2, hK2⟩
        have hx2 := (hK2.1.oth _ _ _ _ hx0 (by decide) (by decide)).trans hx0
        obtain ⟨y0, y1, yf, ly⟩ := two_cells hx2
        have hR2 := row_keep hR (fun k hk => by
          obtain ⟨cs, hcs⟩ := row_type hR k hk
          have e1 := hba.block k (row_lt hR k hk).2
          exact (hK2.1.oth k _ _ _ (e1.trans hcs) (by decide) (by decide)).trans e1)
        have HF2 : Hid (∀ k, Fb m2 k → some k ≠ (Value.slice a2 j c2).ownBlock) := fun k hk e => (hK2.2 k hk).elim (fun c => HF1.out k c e) (fun c => by have := (row_lt hR k e).2; simp at c; omega)
        have hK3 : Kvg w0 wr m1 w2 m2 := (Kvg.of hba).trans hK2
        have hnf : ¬ Fb m2 wr.heap.size := fun c => (hK2.2 _ c).elim (fun c => by have := HW1.out.fb _ c; omega) (fun c => by simp at c; omega)
        have f1 : Fr (fun k => k = wr.heap.size) w2 (w2.setCell ⟨wr.heap.size, 1, none⟩ (.int .i64 z)) := (Fr.refl (fun k => k = wr.heap.size) w2).set wr.heap.size 1 _ rfl
        have HW3 : Hid (Wkg w0 (w2.setCell ⟨wr.heap.size, 1, none⟩ (.int .i64 z)) kb mq gp s2 vn2 m2) := hW2.but f1 (fun k _ e => by
          have e : k = wr.heap.size := e
          rw [e]
          exact ⟨⟨_, hx2⟩, hnf, by have := HW1.out.bel.size; omega⟩)
        have HK3 : Hid (Kvg w0 w m (w2.setCell ⟨wr.heap.size, 1, none⟩ (.int .i64 z)) m2) := HK1.out.trans (hK3.new f1 (fun k e => by have e : k = wr.heap.size := e; omega))
        have hR3 : (w2.setCell ⟨wr.heap.size, 1, none⟩ (.int .i64 z)).ownsRow w.heap.size 41 2 (.slice a2 j c2) j (ev V) := row_keep hR2 (fun k hk => f1.block k (row_lt hR2 k hk).2 (fun c => by have c : k = wr.heap.size := c; have := (row_lt hR k hk).2; omega))
        have q0 : (w2.setCell ⟨wr.heap.size, 1, none⟩ (.int .i64 z)).cell? ⟨wr.heap.size, 0, none⟩ = some (.int .i64 3) := (World.cell?_setCell_other w2 ⟨wr.heap.size, 1, none⟩ ⟨wr.heap.size, 0, none⟩ _ (by simp)).trans y0
        have q1 : (w2.setCell ⟨wr.heap.size, 1, none⟩ (.int .i64 z)).cell? ⟨wr.heap.size, 1, none⟩ = some (.int .i64 z) := World.cell?_setCell_same _ _ _ y1
        have sz3 : (w2.setCell ⟨wr.heap.size, 1, none⟩ (.int .i64 z)).heap.size = w2.heap.size := by simp [World.setCell]
        have yf1 := yf 1
        have hs3 := hK3.1.size
        clear hR hR2 hK2 hK3 HK1 HF1 HW1 HO1 x0 x1 hW2 f1 hnf hx2 hx0 hba y0 yf
        go_upto_region 7 with fail
        generalize w2.setCell ⟨wr.heap.size, 1, none⟩ (.int .i64 z) = w3 at *
        have HR3 : Hid (w3.ownsRow w.heap.size 41 2 (.slice a2 j c2) j (ev V)) := hR3
        have hs4 : w.heap.size ≤ w3.heap.size := by omega
        clear y1 yf1 ly sz3 hs3
        go_wp2_with (at_builtin; refine wpList_append_own_at _ rfl _ _ 32 rfl w.heap.size 41 i0 (.agg #[.int .i64 0, .int .i64 0]) 2 16 Try.underlying32 hi hz0 hz1 hz2 rfl (by decide) (.slice a2 j c2) j (ev V) rfl (row_alloc hR3 _) ⟨w3.heap.size, 0, none⟩ 1 1 [.int .i64 3, .int .i64 z] rfl rfl ?_ ?_ ?_ ?_ ?_ ?_; (intro j u hj; match j, hj with | 0, hj => (simp at hj; subst hj; simp [Addr.add]) | 1, hj => (simp at hj; subst hj; simp [Addr.add])); (intro u hu; simp at hu; rcases hu with hu | hu <;> (subst hu; rfl)); (unfold maxLen; omega); omega; (simp; omega); intro v' w4 hown4 hgrow4 _ hloc4; obtain ⟨b4, cap4, ev4⟩ := row_shape hown4 (Nat.succ_pos _); subst ev4)
        have hT4 : w4.ownsRow w.heap.size 41 2 (.slice (some ⟨b4, 0, none⟩) (j + 1) cap4) (j + 1) (ev (V ++ [(3, z)])) := by
          rw [ev_append]
          simpa [ev] using hown4
        have hba := (Below.refl w3.heap.size w3).alloc (Nat.le_refl _) (.cells #[.int .i64 3, .int .i64 z] 41)
        have hfr : Fr (fun k => some k = (Value.slice a2 j c2).ownBlock) (w3.alloc (.cells #[.int .i64 3, .int .i64 z] 41)) w4 := (Fr.refl _ _).grown hgrow4 (fun k e => Or.inl e.symm)
        have HW4 : Hid (Wkg w0 w4 kb mq gp s2 vn2 m2) := (HW3.out.below hba).but hfr (fun k _ e => by
          obtain ⟨cs, hcs⟩ := row_type HR3.out k e
          exact ⟨⟨cs, (hba.block k (row_lt HR3.out k e).2).trans hcs⟩, fun c => HF2.out k c e, Nat.le_trans HW.out.bel.size (row_lt HR3.out k e).1⟩)
        have HK4 : Hid (Kvg w0 w m w4 m2) := (HK3.out.trans (Kvg.of hba)).new hfr (fun k e => (row_lt HR3.out k e).1)
        have hbl4 : some b4 = (Value.slice a2 j c2).ownBlock ∨ b4 = w3.heap.size + 1 := hloc4.imp id (fun e => by simpa [Value.ownBlock] using e)
        have HF4 : Hid (∀ k, Fb m2 k → some k ≠ some b4) := fun k hk e => hbl4.elim (fun c => HF2.out k hk (e.trans c)) (fun c => by have := HW3.out.fb k hk; simp at e; omega)
        clear hown4 hgrow4 hloc4 hbl4 hba hfr HR3 hR3 HF2 HK3 HW3 q0 q1
        go_wp2_with fail
        go_roundw
        case rel => exact ⟨j + 1, V ++ [(3, z)], s2, vn2, m2, some ⟨b4, 0, none⟩, cap4, by omega, by go_num, HS, rfl, hT4, HW4, HK4, HF4, HO2⟩
        case measure => simp [intOf]; omega
      · have e2 := vst_o (M := M) (s := s1) hvq h3
        rw [e2] at HS HO2
        dsimp only at HS HO2
        have h3b : (v0 == 3) = false := by simpa using h3
        have HW3 : Hid (Wkg w0 (wr.alloc (.cells #[.int .i64 v0, .int .i64 v1] 41)) kb mq gp s1 vn1 m1) := HW1.out.below hba
        have HK3 : Hid (Kvg w0 w m (wr.alloc (.cells #[.int .i64 v0, .int .i64 v1] 41)) m1) := HK1.out.trans (Kvg.of hba)
        have hR3 := row_keep hR (fun k hk => hba.block k (row_lt hR k hk).2)
        obtain ⟨q0, q1, _, _⟩ := two_cells hx0
        clear e2 hvq h3 hR HK1 HW1 HO1 hx0 hba
        go_upto_region 7 with fail
        generalize wr.alloc (.cells #[.int .i64 v0, .int .i64 v1] 41) = w3 at *
        have HR3 : Hid (w3.ownsRow w.heap.size 41 2 (.slice a2 j c2) j (ev V)) := hR3
        have hs4 : w.heap.size ≤ w3.heap.size := HK3.out.1.size
        clear x0 x1
        go_wp2_with (at_builtin; refine wpList_append_own_at _ rfl _ _ 32 rfl w.heap.size 41 i0 (.agg #[.int .i64 0, .int .i64 0]) 2 16 Try.underlying32 hi hz0 hz1 hz2 rfl (by decide) (.slice a2 j c2) j (ev V) rfl (row_alloc hR3 _) ⟨w3.heap.size, 0, none⟩ 1 1 [.int .i64 v0, .int .i64 v1] rfl rfl ?_ ?_ ?_ ?_ ?_ ?_; (intro j u hj; match j, hj with | 0, hj => (simp at hj; subst hj; simp [Addr.add]) | 1, hj => (simp at hj; subst hj; simp [Addr.add])); (intro u hu; simp at hu; rcases hu with hu | hu <;> (subst hu; rfl)); (unfold maxLen; omega); omega; (simp; omega); intro v' w4 hown4 hgrow4 _ hloc4; obtain ⟨b4, cap4, ev4⟩ := row_shape hown4 (Nat.succ_pos _); subst ev4)
        have hT4 : w4.ownsRow w.heap.size 41 2 (.slice (some ⟨b4, 0, none⟩) (j + 1) cap4) (j + 1) (ev (V ++ [(v0, v1)])) := by
          rw [ev_append]
          simpa [ev] using hown4
        have hba := (Below.refl w3.heap.size w3).alloc (Nat.le_refl _) (.cells #[.int .i64 v0, .int .i64 v1] 41)
        have hfr : Fr (fun k => some k = (Value.slice a2 j c2).ownBlock) (w3.alloc (.cells #[.int .i64 v0, .int .i64 v1] 41)) w4 := (Fr.refl _ _).grown hgrow4 (fun k e => Or.inl e.symm)
        have HW4 : Hid (Wkg w0 w4 kb mq gp s1 vn1 m1) := (HW3.out.below hba).but hfr (fun k _ e => by
          obtain ⟨cs, hcs⟩ := row_type HR3.out k e
          exact ⟨⟨cs, (hba.block k (row_lt HR3.out k e).2).trans hcs⟩, fun c => HF1.out k c e, Nat.le_trans HW.out.bel.size (row_lt HR3.out k e).1⟩)
        have HK4 : Hid (Kvg w0 w m w4 m1) := (HK3.out.trans (Kvg.of hba)).new hfr (fun k e => (row_lt HR3.out k e).1)
        have hbl4 : some b4 = (Value.slice a2 j c2).ownBlock ∨ b4 = w3.heap.size + 1 := hloc4.imp id (fun e => by simpa [Value.ownBlock] using e)
        have HF4 : Hid (∀ k, Fb m1 k → some k ≠ some b4) := fun k hk e => hbl4.elim (fun c => HF1.out k hk (e.trans c)) (fun c => by have := HW3.out.fb k hk; simp at e; omega)
        clear hown4 hgrow4 hloc4 hbl4 hba hfr HR3 hR3 HF1 HK3 HW3 q0 q1
        go_wp2_with fail
        go_roundw
        case rel => exact ⟨j + 1, V ++ [(v0, v1)], s1, vn1, m1, some ⟨b4, 0, none⟩, cap4, by omega, by go_num, HS, rfl, hT4, HW4, HK4, HF4, HO2⟩
        case measure => simp [intOf]; omega
    · obtain rfl : j = l.length := by omega
      rw [List.take_length] at HE
      go_wp2_with fail
      go_ret
      rw [HE.out]
      exact ⟨vn1, m1, a2, c2, rfl, hR, HW1.out, HK1.out, HF1.out⟩
end

end Go.Proofs.Ytjhnhbeimjnloaa

/- A grove's walk: a thing is met: a contract. -/
namespace Go.Proofs.Ytjhnhbeimjnloaa
open Go.RowKit W Kp Stl

theorem infoNd : (Try.prog.info? 44).map (fun i => (i.zero, i.size, i.bytes)) = some (some (.agg #[.int .i64 0, .slice none 0 0]), 2, 32) := by kernel_rfl

section
variable {w0 w w' w'' : World} {kb mq gp n : Nat} {s : Vst} {vn : Value} {m : List Vnd}

theorem Wkg.turned (h : Wkg w0 w kb mq gp s vn m) (f : Fr (fun k => k = mq) w w') : Kg w0.heap.size w w' ∧ w'.heap[kb]? = some (.cells #[.pointer (some ⟨gp, 0, none⟩), .map (some mq), vn] 75 (0, 0)) ∧ w'.ownsRow w0.heap.size 44 2 vn m.length (nv m) ∧ (∀ x ∈ m, Lv w' x.2.1 x.2.2.2) ∧ Below w0.heap.size w0 w' := by
  obtain ⟨es, clock, hb⟩ := h.mp.blk
  have hk : Kg w0.heap.size w w' := ⟨f.os, f.tape, f.output, f.size, fun k hk hl => f.block k hk (fun e => by have e : k = mq := e; have := h.lo.2; omega), fun k cs e mm hk _ _ => f.block k (lt_of_some hk) (fun c => by
    have c : k = mq := c
    rw [c, hb] at hk
    simp at hk)⟩
  refine ⟨hk, (f.block kb (lt_of_some h.blk) (fun c => ?_)).trans h.blk, row_keep h.row (fun k e => f.block k (row_lt h.row k e).2 (fun c => ?_)), fun x hx => (h.fl x hx).kg hk, h.bel.trans (hk.below h.bel.size)⟩
  · have c : kb = mq := c
    have := h.blk
    rw [c, hb] at this
    simp at this
  · have c : k = mq := c
    obtain ⟨cur, hcur⟩ := row_type h.row k e
    rw [c, hb] at hcur
    simp at hcur
end

theorem Wkg.grown {w0 w w3 w4 : World} {kb mq gp : Nat} {ms : List Int} {ns : List (Int × List (Int × Int))} {vn v4 : Value} {m : List Vnd} {kd : Int}
    (hk : w.heap[kb]? = some (.cells #[.pointer (some ⟨gp, 0, none⟩), .map (some mq), vn] 75 (0, 0))) (lo : w0.heap.size ≤ kb ∧ w0.heap.size ≤ mq) (hm : Mh w mq ms.length (mtF ms)) (hr : w.ownsRow w0.heap.size 44 2 vn m.length (nv m)) (hnd : nds m = ns) (hf : ∀ x ∈ m, Lv w x.2.1 x.2.2.2) (hb : Below w0.heap.size w0 w)
    (h3 : Below w.heap.size w w3) (h4 : w4.ownsRow w0.heap.size 44 2 v4 (m.length + 1) (nv m ++ [.int .i64 kd, .slice none 0 0])) (g4 : w3.grownBy w4 vn.ownBlock) :
    Wkg w0 (w4.setCell ⟨kb, 2, none⟩ v4) kb mq gp (ms, ns ++ [(kd, [])]) v4 (m ++ [(kd, none, 0, [])]) ∧ Kvg w0 w m (w4.setCell ⟨kb, 2, none⟩ v4) (m ++ [(kd, none, 0, [])]) ∧ w4.heap[kb]? = some (.cells #[.pointer (some ⟨gp, 0, none⟩), .map (some mq), vn] 75 (0, 0)) := by
  have hmN := hm
  obtain ⟨es, clock, hmb⟩ := hm.blk
  have kg4 : Kg w0.heap.size w w4 := (Kg.of h3).trans (Kg.grown g4 (fun k e => ⟨(row_lt hr k e.symm).1, fun cs ty mm hc => by
    obtain ⟨cur, hcur⟩ := row_type hr k e.symm
    have := (h3.block k (lt_of_some hcur)).trans hcur
    rw [this] at hc
    simp at hc
    exact Or.inr hc.2.1.symm⟩))
  have hk4 : w4.heap[kb]? = some (.cells #[.pointer (some ⟨gp, 0, none⟩), .map (some mq), vn] 75 (0, 0)) := (g4.block kb (Nat.lt_of_lt_of_le (lt_of_some hk) h3.size) (fun e => by
    obtain ⟨cur, hcur⟩ := row_type hr kb e
    rw [hk] at hcur
    simp at hcur)).trans ((h3.block kb (lt_of_some hk)).trans hk)
  have kg5 : Kg w0.heap.size w (w4.setCell ⟨kb, 2, none⟩ v4) := kg4.trans (Kg.set hk4 (Or.inl rfl) lo.1)
  have nmk : mq ≠ kb := fun e => by rw [e, hk] at hmb; simp at hmb
  have e5 : (nv (m ++ [(kd, none, 0, [])] : List Vnd)) = nv m ++ [.int .i64 kd, .slice none 0 0] := by rw [nv_append]; rfl
  refine ⟨⟨?_, lo, ?_, ?_, ?_, fun x hx => ?_, hb.trans (kg5.below hb.size)⟩, ⟨kg5, fun k hk => ?_⟩, hk4⟩
  · simp only [World.setCell, Array.getElem?_modify, if_true, hk4, Option.map_some]
    rfl
  · refine hmN.same ((Below.heap_setCell _ _ _ _ nmk).trans ((g4.block mq (Nat.lt_of_lt_of_le (lt_of_some hmb) h3.size) (fun e => ?_)).trans (h3.block mq (lt_of_some hmb))))
    obtain ⟨cur, hcur⟩ := row_type hr mq e
    rw [hmb] at hcur
    simp at hcur
  · rw [e5, List.length_append]
    refine row_keep h4 (fun k e => Below.heap_setCell _ _ _ _ (fun c => ?_))
    have c : k = kb := c
    obtain ⟨cur, hcur⟩ := row_type h4 k e
    rw [c, hk4] at hcur
    simp at hcur
  · simp [nds] at hnd ⊢
    exact hnd
  · rcases List.mem_append.1 hx with hx | hx
    · exact (hf x hx).kg kg5
    · simp at hx
      subst hx
      exact Lv.nil
  · obtain ⟨x, hx, hl, o, e⟩ := hk
    rcases List.mem_append.1 hx with hx | hx
    · exact Or.inl ⟨x, hx, hl, o, e⟩
    · simp at hx
      subst hx
      simp at hl

theorem Wkg.filled {w0 w : World} {kb mq gp g cap len : Nat} {s : Vst} {m : List Vnd} (h : Wkg w0 w kb mq gp s (.slice (some ⟨g, 0, none⟩) len cap) m) {i : Nat} {k0 : Int} {v0 : List (Int × Int)} (hi : s.2[i]? = some (k0, v0)) {base c2 : Nat} {a2 : Option Addr} {vs : List (Int × Int)}
    (hr : w.ownsRow base 41 2 (.slice a2 vs.length c2) vs.length (ev vs)) :
    Wkg w0 (w.setCell ⟨g, i * 2 + 1, none⟩ (.slice a2 vs.length c2)) kb mq gp (s.1, s.2.set i (k0, vs)) (.slice (some ⟨g, 0, none⟩) len cap) (m.set i (k0, a2, c2, vs)) ∧ Kg w0.heap.size w (w.setCell ⟨g, i * 2 + 1, none⟩ (.slice a2 vs.length c2)) ∧ (∀ k, Fb (m.set i (k0, a2, c2, vs)) k → Fb m k ∨ base ≤ k) := by
  obtain ⟨cur, hcur⟩ := row_type h.row g rfl
  have hg := (row_lt h.row g rfl).1
  have hkg : Kg w0.heap.size w (w.setCell ⟨g, i * 2 + 1, none⟩ (.slice a2 vs.length c2)) := Kg.set hcur (Or.inr rfl) hg
  obtain ⟨x, hx, hxe⟩ : ∃ x : Vnd, m[i]? = some x ∧ (x.1, x.2.2.2) = (k0, v0) := by
    have := hi
    rw [← h.nd, nds, List.getElem?_map] at this
    obtain ⟨x, hx, e⟩ := Option.map_eq_some_iff.1 this
    exact ⟨x, hx, e⟩
  have e1 : x.1 = k0 := congrArg Prod.fst hxe
  have hlen : len = m.length := by
    rcases h.row.2 with ⟨hv, _⟩ | ⟨g', cap', cur', hv, _⟩
    · simp at hv
    · simp at hv
      exact hv.2.1
  refine ⟨⟨(Below.heap_setCell _ _ _ _ (fun c => ?_)).trans h.blk, h.lo, h.mp.same (Below.heap_setCell _ _ _ _ (fun c => ?_)), ?_, ?_, fun y hy => ?_, h.bel.trans (hkg.below h.bel.size)⟩, hkg, fun k hk => ?_⟩
  · have c : kb = g := c
    have := h.blk
    rw [c, hcur] at this
    simp at this
  · have c : mq = g := c
    obtain ⟨es, clock, hb⟩ := h.mp.blk
    rw [c, hcur] at hb
    simp at hb
  · rw [List.length_set, ← e1, nv_set m i x a2 c2 vs hx]
    have := h.row
    rw [← hlen] at this ⊢
    exact row_put this _ _
  · rw [nds, List.map_set]
    show ((nds m).set i (k0, vs)) = _
    rw [h.nd]
  · rcases List.mem_or_eq_of_mem_set hy with hy | hy
    · exact (h.fl y hy).kg hkg
    · subst hy
      exact (Lv.of hr).kg hkg
  · obtain ⟨y, hy, hl, o, e⟩ := hk
    rcases List.mem_or_eq_of_mem_set hy with hy | hy
    · exact Or.inl ⟨y, hy, hl, o, e⟩
    · subst hy
      have e : a2 = some ⟨k, o, none⟩ := e
      exact Or.inr (row_lt hr k (by rw [e]; rfl)).1

theorem vq_ref {T : List Tw1} {x : Int} (h : 0 ≤ x ∧ Alv T x.toNat) (hT : T.length ≤ 10000) : Vq T (3, x) := by
  refine ⟨?_, fun _ => h⟩
  have h2 := h.2.1
  have h1 := h.1
  dsimp only
  rw [vc3]
  unfold rc
  rw [if_neg (by omega), if_neg (by omega)]
theorem shG_vq {T : List Tw1} {wt : List En} (hv : Wvw T wt) {a : Int} (ha : 0 ≤ a ∧ Alv T a.toNat) : ∀ v ∈ shG T wt a, Vq T v := fun v h => by
  unfold shG at h
  split at h
  · obtain ⟨x, hx, rfl⟩ := List.mem_map.1 h
    unfold atL at hx
    obtain ⟨e, he, rfl⟩ := List.mem_map.1 hx
    exact vq_ref (hv.wv e (List.mem_filter.1 he).1).2 hv.l1
  · exact hv.fv _ ha.2 v h
theorem shG_len {T : List Tw1} {wt : List En} (hv : Wvw T wt) (a : Int) : (shG T wt a).length ≤ 20000 := by
  unfold shG
  split
  · rw [List.length_map]
    have h1 := atL_len wt a
    have h2 := hv.l2
    omega
  · have := hv.tl a.toNat
    omega

section
variable {w0 : World} {kb mq gp : Nat} {most grow : Int} {l : Gl} {S : Wrs}

set_option maxRecDepth 100000 in
set_option maxHeartbeats 4000000 in
theorem meetG_next (hg : Gvy gp most grow l S w0) (hv : Wvw S.T S.wt) (h5 : ∀ i, Alv S.T i → (S.T.getD i t0).1 = 5 → (S.T.getD i t0).2.1 = []) (n : Nat) (M : Vst → Int → Vst) (hM : Mtg w0 kb mq gp S.T M n) (hV : Vmet (tI S.T.length) (kdW S.T) (shW S.T S.wt) n M) :
    Mtg w0 kb mq gp S.T (fun s a => ((vls M (tI S.T.length) (s.1 ++ [a], s.2 ++ [(kdW S.T a, [])]) (shW S.T S.wt a)).2.1, (vls M (tI S.T.length) (s.1 ++ [a], s.2 ++ [(kdW S.T a, [])]) (shW S.T S.wt a)).2.2.set s.1.length (kdW S.T a, (vls M (tI S.T.length) (s.1 ++ [a], s.2 ++ [(kdW S.T a, [])]) (shW S.T S.wt a)).1))) (n + 1) := by
  intro w s vn m a h ho ha hn hl
  obtain ⟨i0, hi, hz0, hz1, hz2⟩ := info_parts infoNd
  have haT : a ∈ tI S.T.length := tI_mem.2 ⟨ha.1, by have := ha.2.1; have := ha.1; omega⟩
  have hTl := hv.l1
  have hlt := ho.lt haT hn
  rw [tI_len] at hlt
  have al : a < 10000 := by have := ha.2.1; omega
  have hml : m.length = s.1.length := by rw [h.len, ho.len]
  have ho2 := ho.more haT hn (kdW S.T a, [])
  have hlen := vls_len M (tI S.T.length) (s.1 ++ [a], s.2 ++ [(kdW S.T a, [])]) (shW S.T S.wt a)
  have G := vls_go hV ho2 (by rw [tI_len]; simp; omega) (shW S.T S.wt a)
  have hGo : (vls M (tI S.T.length) (s.1 ++ [a], s.2 ++ [(kdW S.T a, [])]) (shW S.T S.wt a)).2.2[s.1.length]? = some (kdW S.T a, []) := by
    rw [G.old s.1.length (by simp), List.getElem?_append_right (by rw [ho.len]; exact Nat.le_refl _), ho.len]
    simp
  have hGl : s.1.length < (vls M (tI S.T.length) (s.1 ++ [a], s.2 ++ [(kdW S.T a, [])]) (shW S.T S.wt a)).2.1.length := by
    have := G.le
    simp at this
    omega
  have hGk : (vls M (tI S.T.length) (s.1 ++ [a], s.2 ++ [(kdW S.T a, [])]) (shW S.T S.wt a)).2.2.length = (vls M (tI S.T.length) (s.1 ++ [a], s.2 ++ [(kdW S.T a, [])]) (shW S.T S.wt a)).2.1.length := G.ok.len
  have eS := shG_W (wt := S.wt) (h5 _ ha.2)
  have eL : (shG S.T S.wt a).length = (shW S.T S.wt a).length := by rw [← eS, List.length_map]
  have KV : Hid (∀ (w5 : World) (vn5 : Value) (m5 : List Vnd) (ad : Option Addr) (cap : Nat), Wkg w0 w5 kb mq gp (s.1 ++ [a], s.2 ++ [(kdW S.T a, [])]) vn5 m5 → Lv w5 ad (shG S.T S.wt a) →
      Calls Try.prog 27 #[.pointer (some ⟨kb, 0, none⟩), .slice ad (shG S.T S.wt a).length cap] w5 fun e w' => ∃ vn' m' a2 c2, e = .returned (.slice a2 (shG S.T S.wt a).length c2) ∧ w'.ownsRow w5.heap.size 41 2 (.slice a2 (shG S.T S.wt a).length c2) (shG S.T S.wt a).length (ev (vls M (tI S.T.length) (s.1 ++ [a], s.2 ++ [(kdW S.T a, [])]) (shW S.T S.wt a)).1) ∧ Wkg w0 w' kb mq gp (vls M (tI S.T.length) (s.1 ++ [a], s.2 ++ [(kdW S.T a, [])]) (shW S.T S.wt a)).2 vn' m' ∧ Kvg w0 w5 m5 w' m' ∧ (∀ k, Fb m' k → some k ≠ (Value.slice a2 (shG S.T S.wt a).length c2).ownBlock)) :=
    fun w5 vn5 m5 ad cap h5 hl5 => by
      have P := valuesG_any hM hV h5 ho2 (by simp; omega) hTl (shG S.T S.wt a) (shG_vq hv ha) ad cap hl5 (by have := shG_len hv a; omega)
      rw [eS] at P
      exact P
  have KS : Hid (∀ w1, Below w0.heap.size w0 w1 → w1.cell? ⟨kb, 0, none⟩ = some (.pointer (some ⟨gp, 0, none⟩)) → Calls Try.prog 88 #[.pointer (some ⟨kb, 0, none⟩), .int .i64 a] w1 fun e w' => ∃ ad cap, e = .returned (.slice ad (shG S.T S.wt a).length cap) ∧ Lv w' ad (shG S.T S.wt a) ∧ Below w1.heap.size w1 w') :=
    fun w1 hb hc => shownG_any (hg.below hb) kb hc a ha hTl hv.l2
  have KG : Hid (∀ w1, Below w0.heap.size w0 w1 → w1.cell? ⟨gp, 2, none⟩ = some (.map (some l.mb)) ∧ (Instr.lookup 59 (.map (some l.mb)) (.int .i64 a) false).run Try.prog w1 = .ok (.agg #[.int .i64 (kdW S.T a), .slice (l.fm a.toNat).1 (S.T.getD a.toNat t0).2.1.length (l.fm a.toNat).2]) w1 ∧ gp < w1.heap.size) := fun w1 hb => by
    have g1 := hg.below hb
    obtain ⟨_, _, c2, _, _, _, _, _, lg⟩ := g1.cells
    have L := g1.g2.mp.look (t := 59) (e := 80) Try.underlying59 (zeroTh w1) (x := a) ha.1 (by omega)
    rw [gvF_yes ha] at L
    exact ⟨c2, L, lg⟩
  have lgp : Hid (gp < w0.heap.size) := hg.cells.2.2.2.2.2.2.2.2
  obtain ⟨w1, hrun, hM1, hgr1⟩ := h.mp.put (t := 73) (e := 2) Try.underlying73 (by omega) (x := a) ha.1 (by omega) (.int .i64 s.1.length)
  rw [mtF_snoc hn] at hM1
  have hfr1 : Fr (fun k => k = mq) w w1 := (Fr.refl _ _).grown hgr1 (fun k e => Or.inl (by cases e; rfl))
  have TR := h.turned hfr1
  have N1 : Hid (Mh w1 mq (s.1 ++ [a]).length (mtF (s.1 ++ [a]))) := by
    rw [List.length_append, List.length_singleton]
    exact hM1
  have hlo := h.lo
  obtain ⟨nA, nC, hvn⟩ := row_slice h.row
  subst hvn
  obtain ⟨c0, c1, c2, lk⟩ := h.cells
  have HD : Hid (nds m = s.2) := h.nd
  clear hM hV G ho2 hv hg hM1 hgr1 hfr1 eS h5 ha h ho haT hn hl
  dsimp only
  generalize vls M (tI S.T.length) (s.1 ++ [a], s.2 ++ [(kdW S.T a, [])]) (shW S.T S.wt a) = R at *
  rw [← eL] at hlen
  clear eL
  generalize shG S.T S.wt a = SL at *
  obtain ⟨vs, s7⟩ := R
  dsimp only at *
  generalize kdW S.T a = kd at *
  generalize (S.T.getD a.toNat t0).2.1.length = fn at *
  generalize (l.fm a.toNat).1 = fa at *
  generalize (l.fm a.toNat).2 = fc at *
  generalize s.1.length = L at *
  subst hml
  obtain ⟨T1, T2, T3, T4, T5⟩ := TR
  obtain ⟨G1, G2, G3⟩ := KG.out w1 T5
  obtain ⟨_, G4, _⟩ := KG.out w1.drew T5.drew
  have FD : (Instr.field 80 (.agg #[.int .i64 kd, .slice fa fn fc]) 0).run Try.prog w1.drew = .ok (.int .i64 kd) w1.drew := by first | rfl | kernel_rfl | simp [go_sem]
  have y0 : w1.cell? ⟨kb, 0, none⟩ = some (.pointer (some ⟨gp, 0, none⟩)) := by simp [World.cell?, T2]
  have y2 : w1.cell? ⟨kb, 2, none⟩ = some (.slice nA m.length nC) := by simp [World.cell?, T2]
  have yf : w1.frozen? ⟨kb, 2, none⟩ = false := by simp [World.frozen?, T2]
  have lk1 : kb < w1.heap.size := lt_of_some T2
  have HT : Hid (_ ∧ _ ∧ _ ∧ _ ∧ _) := ⟨T1, T2, T3, T4, T5⟩
  have HK1 : Hid (Kvg w0 w m w1 m) := ⟨T1, fun k h => Or.inl h⟩
  have rn : some kb ≠ (Value.slice nA m.length nC).ownBlock := fun e => by
    obtain ⟨cur, hcur⟩ := row_type T3 kb e
    rw [T2] at hcur
    simp at hcur
  have hs1 : w0.heap.size ≤ w1.heap.size := T5.size
  clear T1 T2 T3 T4 T5 KG G2
  have hbd := ((Below.refl w1.heap.size w1).alloc (Nat.le_refl _) (.cells #[.int .i64 kd, .slice none 0 0] 44)).drew
  have HSd : Hid ((w1.alloc (.cells #[.int .i64 kd, .slice none 0 0] 44)).drew.ownsRow w0.heap.size 44 2 (.slice nA m.length nC) m.length (nv m)) := row_keep (row_alloc HT.out.2.2.1 _) (fun _ _ => rfl)
  go_enter Try.func71, Try.ntmps71
  go_wp2_with fail
  clear hrun c0 c1 c2 lk
  go_region_law (refine step_append_lies _ rfl (.tmp 22) (.tmp 34) 33 rfl w0.heap.size 44 i0 (.agg #[.int .i64 0, .slice none 0 0]) 2 32 Try.underlying33 hi hz0 hz1 hz2 rfl (by decide) (.slice nA m.length nC) m.length (nv m) (by simp [Act.eval]) HSd.out ⟨w1.heap.size, 0, none⟩ 1 1 [.int .i64 kd, .slice none 0 0] (by simp [Act.eval]) rfl ?_ ?_ (by decide) (by unfold maxLen; omega) (by omega) (by simp; omega) _ rfl ?_; (intro j u hj; match j, hj with | 0, hj => (simp at hj; subst hj; simp [Addr.add]) | 1, hj => (simp at hj; subst hj; simp [Addr.add])); (intro u hu; simp at hu; rcases hu with hu | hu <;> (subst hu; rfl)); intro b4 cap4 w4 hown4 hgrow4 hat4 hlt4; have d4 := hgrow4.cell (a := ⟨kb, 2, none⟩) (v := .slice nA m.length nC) ((hbd.cell (p := ⟨kb, 2, none⟩) lk1).trans y2) rn; have f4 : w4.frozen? ⟨kb, 2, none⟩ = false := (World.frozen?_of_block (a := ⟨kb, 2, none⟩) (hgrow4.block _ (Nat.lt_of_lt_of_le lk1 hbd.size) rn)).trans ((hbd.frozen (p := ⟨kb, 2, none⟩) lk1).trans yf))
  all_goals
    have WG := Wkg.grown HT.out.2.1 hlo N1.out HT.out.2.2.1 HD.out HT.out.2.2.2.1 HT.out.2.2.2.2 hbd hown4 hgrow4
    obtain ⟨WG1, WG2, _⟩ := WG
    have KK5 : Hid (Kvg w0 w m (w4.setCell ⟨kb, 2, none⟩ (.slice (some ⟨b4, 0, none⟩) (m.length + 1) cap4)) (m ++ [(kd, none, 0, [])])) := HK1.out.trans WG2
    have W5 : Hid (Wkg w0 (w4.setCell ⟨kb, 2, none⟩ (.slice (some ⟨b4, 0, none⟩) (m.length + 1) cap4)) kb mq gp (s.1 ++ [a], s.2 ++ [(kd, [])]) (.slice (some ⟨b4, 0, none⟩) (m.length + 1) cap4) (m ++ [(kd, none, 0, [])])) := WG1
    clear WG1 WG2 HK1 HSd hbd HT N1 HD hown4 hgrow4 hat4 hlt4 d4 f4 y0 y2 yf G1 G3 G4 FD
    go_wp2_with fail
    generalize w4.setCell ⟨kb, 2, none⟩ (.slice (some ⟨b4, 0, none⟩) (m.length + 1) cap4) = w5 at *
    refine (KS.out w5 W5.out.bel W5.out.cells.1).mono ?_
    clear KS
    rintro e w6 ⟨ad, cap, rfl, hl6, hb6⟩
    go_wp2_with fail
    refine (KV.out w6 _ _ ad cap (W5.out.below hb6) hl6).mono ?_
    clear KV
    rintro e w7 ⟨vn7, m7, a2, c7, rfl, hr7, hW7, hK7, hF7⟩
    have hm7 : m7.length = s7.1.length := hW7.len.trans hGk
    obtain ⟨g7, cap7, e7⟩ := row_shape hW7.row (by omega)
    subst e7
    have z2 := hW7.cells.2.2.1
    have hlt7 : m.length < m7.length := by omega
    obtain ⟨zc, zf⟩ := row_cell hW7.row ((nv_get m7 m.length _ (List.getElem?_eq_getElem hlt7)).2)
    rw [← hlen] at hr7
    have FI : Hid (_ ∧ _ ∧ _) := hW7.filled hGo hr7
    have K7 : Hid (Kvg w0 w m w7 m7) := (KK5.out.trans (Kvg.of hb6)).trans hK7
    have hs7 := ((KK5.out.trans (Kvg.of hb6)).1).size
    generalize (m7[m.length]).2.1 = q1 at zc
    generalize (m7[m.length]).2.2.2.length = q2 at zc
    generalize (m7[m.length]).2.2.1 = q3 at zc
    rw [hlen] at FI
    clear hl6 hb6 hr7 hW7 hK7 hF7 KK5 W5 hGo hlen
    go_wp2_with fail
    go_ret
    exact ⟨_, _, rfl, FI.out.1, K7.out.1.trans FI.out.2.1, fun k hk => (FI.out.2.2 k hk).elim (K7.out.2 k) (fun c => Or.inr (Nat.le_trans hs7 c))⟩

theorem meetG_any (hg : Gvy gp most grow l S w0) (hv : Wvw S.T S.wt) (h5 : ∀ i, Alv S.T i → (S.T.getD i t0).1 = 5 → (S.T.getD i t0).2.1 = []) : ∀ n, Mtg w0 kb mq gp S.T (met (tI S.T.length) (kdW S.T) (shW S.T S.wt) n) n
  | 0 => fun w s vn m a _ ho ha hn hl => by
    have h1 := ho.lt (tI_mem.2 ⟨ha.1, by have := ha.2.1; have := ha.1; omega⟩) hn
    rw [tI_len] at h1
    omega
  | n + 1 => meetG_next hg hv h5 n _ (meetG_any hg hv h5 n) (met_go n)
end

end Go.Proofs.Ytjhnhbeimjnloaa
