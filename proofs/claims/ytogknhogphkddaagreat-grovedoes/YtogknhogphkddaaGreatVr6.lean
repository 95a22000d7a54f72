/- The document's world: View: a thing that is met: a contract. -/
import Derived.Test.YtogknhogphkddaaGreatVr5
import Derived.Test.YtogknhogphkddaaGreatJ03
namespace Go.Proofs.YtogknhogphkddaaGreat.Vr4
open Go.RowKit W Kp Stl

structure Rd (w0 : World) (bb rp : Nat) (T : List Tw1) (wt : List En) : Prop where
  wg : Wg w0 rp T wt
  bx : w0.cell? ⟨bb, 0, none⟩ = some (.pointer (some ⟨rp, 0, none⟩))
theorem int_src {w : World} (x : Int) : ∀ ad, (some ⟨w.heap.size, 0, none⟩ : Option Addr) = some ad → ∀ k u, ([x].map (Value.int .i64))[k]? = some u → (w.alloc (.cells #[.int .i64 x] 3)).cell? (ad.add k) = some u := fun ad e k u hk => by
  have hsr := heap_alloc_new w (.cells #[.int .i64 x] 3)
  cases e
  have hlk : k < 1 := by
    have := (List.getElem?_eq_some_iff.1 hk).1
    simpa using this
  obtain rfl : k = 0 := by omega
  simp at hk
  subst hk
  show World.cell? _ ⟨w.heap.size, 0, none⟩ = _
  unfold World.cell?
  rw [hsr]
  rfl
theorem node_src {w : World} (x : Int) : ∀ ad, (some ⟨w.heap.size, 0, none⟩ : Option Addr) = some ad → ∀ k u, (nv [(x, none, 0, [])])[k]? = some u → (w.alloc (.cells #[.int .i64 x, .slice none 0 0] 80)).cell? (ad.add k) = some u := fun ad e k u hk => by
  have hsr := heap_alloc_new w (.cells #[.int .i64 x, .slice none 0 0] 80)
  cases e
  have hlk : k < 2 := by
    have := (List.getElem?_eq_some_iff.1 hk).1
    simpa [nv] using this
  rcases (show k = 0 ∨ k = 1 by omega) with rfl | rfl
  · simp [nv] at hk
    subst hk
    show World.cell? _ ⟨w.heap.size, 0, none⟩ = _
    unfold World.cell?
    rw [hsr]
    rfl
  · simp [nv] at hk
    subst hk
    show World.cell? _ ⟨w.heap.size, 1, none⟩ = _
    unfold World.cell?
    rw [hsr]
    rfl

theorem met_step {w0 wr wq w5 : World} {mb bb vb fb : Nat} {ms : List Int} {ns : List (Int × List (Int × Int))} {aM ra' : Option Addr} {cM rc' : Nat} {vn vr : Value} {m : List Vnd} (h : Wv w0 wr mb bb vb fb (ms, ns) (.slice aM ms.length cM) vn vr m) (a : Int) (hq : Below wr.heap.size wr wq) (hg : wq.grownBy w5 (Value.slice aM ms.length cM).ownBlock) (ho : w5.ownsRow w0.heap.size 3 1 (.slice ra' (ms.length + 1) rc') (ms.length + 1) (ms.map (Value.int .i64) ++ [a].map (Value.int .i64))) :
    Wv w0 (w5.setCell ⟨mb, 0, none⟩ (.slice ra' (ms.length + 1) rc')) mb bb vb fb (ms ++ [a], ns) (.slice ra' (ms.length + 1) rc') vn vr m ∧ Kw w0.heap.size wr (w5.setCell ⟨mb, 0, none⟩ (.slice ra' (ms.length + 1) rc')) ∧ w5.heap[mb]? = some (.cells #[.slice aM ms.length cM] 68 (0, 0)) := by
  have fr : Fr (fun k => some k = (Value.slice aM ms.length cM).ownBlock) wr w5 := (Fr.of hq).grown hg (fun k e => Or.inl (by simpa using e.symm))
  have h1 := h.meets a (va1 := .slice ra' (ms.length + 1) rc') fr (by
    have e1 : (ms ++ [a]).length = ms.length + 1 := by simp
    show w5.ownsRow w0.heap.size 3 1 _ (ms ++ [a]).length ((ms ++ [a]).map (Value.int .i64))
    rw [e1, List.map_append]
    exact ho)
  refine ⟨h1.1, h1.2, (fr.block mb (lt_of_some h.mc) (fun e => ?_)).trans h.mc⟩
  obtain ⟨cs, hc⟩ := row_type h.mr mb e
  rw [h.mc] at hc
  simp at hc
theorem node_step {w0 wr wq w5 : World} {mb bb vb fb : Nat} {s : Vst} {aN ra' : Option Addr} {cN rc' : Nat} {va vr : Value} {m : List Vnd} (h : Wv w0 wr mb bb vb fb s va (.slice aN m.length cN) vr m) (kd : Int) (hq : Below wr.heap.size wr wq) (hg : wq.grownBy w5 (Value.slice aN m.length cN).ownBlock) (ho : w5.ownsRow w0.heap.size 80 2 (.slice ra' (m.length + 1) rc') (m.length + 1) (nv m ++ nv [(kd, none, 0, [])])) :
    Wv w0 (w5.setCell ⟨vb, 1, none⟩ (.slice ra' (m.length + 1) rc')) mb bb vb fb (s.1, s.2 ++ [(kd, [])]) va (.slice ra' (m.length + 1) rc') vr (m ++ [(kd, none, 0, [])]) ∧ Kw w0.heap.size wr (w5.setCell ⟨vb, 1, none⟩ (.slice ra' (m.length + 1) rc')) ∧ w5.heap[vb]? = some (.cells #[vr, .slice aN m.length cN] 41 (0, 0)) := by
  have fr : Fr (fun k => some k = (Value.slice aN m.length cN).ownBlock) wr w5 := (Fr.of hq).grown hg (fun k e => Or.inl (by simpa using e.symm))
  have h1 := h.noded kd (vn1 := .slice ra' (m.length + 1) rc') fr (by
    have e1 : (m ++ [((kd, none, 0, []) : Vnd)]).length = m.length + 1 := by simp
    rw [e1, nv_append]
    exact ho)
  refine ⟨h1.1, h1.2, (fr.block vb (lt_of_some h.vc) (fun e => ?_)).trans h.vc⟩
  obtain ⟨cs, hc⟩ := row_type h.nr vb e
  rw [h.vc] at hc
  simp at hc

section
variable {w0 w : World} {mb bb vb fb rp : Nat} {s : Vst} {va vn vr : Value} {m : List Vnd} {T : List Tw1} {wt : List En} {n' : Nat}

set_option maxRecDepth 100000 in
set_option maxHeartbeats 8000000 in
theorem valueW_new (h : Wv w0 w mb bb vb fb s va vn vr m) (hR : Rd w0 bb rp T wt) (hw : Wvw T wt) (hO : VOk (tI T.length) s) (a : Nat) (hv : Alv T a) (hs : s.1.contains (a : Int) = false) (hI : Vals w0 mb bb vb fb T (met (tI T.length) (kdW T) (shW T wt) n') n') (hn : T.length ≤ s.1.length + (n' + 1)) :
    Calls Tryz.prog 34 (valA 3 a mb bb vb fb) w fun e w' => ∃ va' vn' m', e = .returned (.agg #[.int .i64 3, .int .i64 s.1.length]) ∧ Wv w0 w' mb bb vb fb (met (tI T.length) (kdW T) (shW T wt) (n' + 1) s a) va' vn' vr m' ∧ Kx w0 w m w' m' := by
  have ha : a < T.length := hv.1
  have hl : s.1.length ≤ 10000 := by
    have h1 := hO.le
    rw [tI_len] at h1
    have := hw.l1
    omega
  have hOn : s.2.length = s.1.length := hO.len
  have hO1 : VOk (tI T.length) (s.1 ++ [(a : Int)], s.2 ++ [(kdW T a, [])]) := hO.more (tI_mem.2 ⟨by omega, by omega⟩) (fun c => by rw [List.contains_iff_mem.2 c] at hs; cases hs) _
  have HME : Hid (met (tI T.length) (kdW T) (shW T wt) (n' + 1) s a = ((vls (met (tI T.length) (kdW T) (shW T wt) n') (tI T.length) (s.1 ++ [(a : Int)], s.2 ++ [(kdW T a, [])]) (shW T wt a)).2.1, (vls (met (tI T.length) (kdW T) (shW T wt) n') (tI T.length) (s.1 ++ [(a : Int)], s.2 ++ [(kdW T a, [])]) (shW T wt a)).2.2.set s.1.length (kdW T a, (vls (met (tI T.length) (kdW T) (shW T wt) n') (tI T.length) (s.1 ++ [(a : Int)], s.2 ++ [(kdW T a, [])]) (shW T wt a)).1))) := rfl
  have HM : Hid (Vmet (tI T.length) (kdW T) (shW T wt) n' (met (tI T.length) (kdW T) (shW T wt) n')) := met_go n'
  obtain ⟨ms, ns⟩ := s
  dsimp only at hl hs hOn hO1 HME hn ⊢
  generalize met (tI T.length) (kdW T) (shW T wt) (n' + 1) (ms, ns) a = sE at *
  generalize met (tI T.length) (kdW T) (shW T wt) n' = M at *
  have HO1 : Hid (VOk (tI T.length) (ms ++ [(a : Int)], ns ++ [(kdW T a, [])])) := hO1
  have HI : Hid (Vals w0 mb bb vb fb T M n') := hI
  have HW : Hid (Wvw T wt) := hw
  have HR : Hid (Rd w0 bb rp T wt) := hR
  have HWV : Hid (Wv w0 w mb bb vb fb (ms, ns) va vn vr m) := h
  obtain ⟨aM, cM, e0⟩ := row_slice h.mr
  subst e0
  have hb := ((Below.refl w.heap.size w).alloc (Nat.le_refl _) (.cells #[.int .i64 3, .int .i64 (a : Int)] 54)).alloc (by simp) (.cells #[.int .i64 0, .int .i64 0] 54)
  have HB : Hid (Below w.heap.size w ((w.alloc (.cells #[.int .i64 3, .int .i64 (a : Int)] 54)).alloc (.cells #[.int .i64 0, .int .i64 0] 54))) := hb
  have c0 := (hb.cell (p := ⟨mb, 0, none⟩) h.cells.2.2.2.1).trans h.cells.1
  have lmb := h.cells.2.2.2.1
  have hms : w.heap.size ≠ mb := by omega
  clear hb h hI hw hR hO1 hO
  go_enter Tryz.func34, Tryz.ntmps34
  go_wp2_with fail
  have HG : Hid (((w.alloc (.cells #[.int .i64 3, .int .i64 (a : Int)] 54)).alloc (.cells #[.int .i64 0, .int .i64 0] 54)).heap[w.heap.size + 1]? = some (.cells #[.int .i64 0, .int .i64 0] 54 (0, 0)) ∧ ((w.alloc (.cells #[.int .i64 3, .int .i64 (a : Int)] 54)).alloc (.cells #[.int .i64 0, .int .i64 0] 54)).heap[w.heap.size]? = some (.cells #[.int .i64 3, .int .i64 (a : Int)] 54 (0, 0)) ∧ ((w.alloc (.cells #[.int .i64 3, .int .i64 (a : Int)] 54)).alloc (.cells #[.int .i64 0, .int .i64 0] 54)).heap.size = w.heap.size + 2) := by
    refine ⟨?_, ?_, by simp⟩
    · have := heap_alloc_new (w.alloc (.cells #[.int .i64 3, .int .i64 (a : Int)] 54)) (.cells #[.int .i64 0, .int .i64 0] 54)
      have e : (w.alloc (.cells #[.int .i64 3, .int .i64 (a : Int)] 54)).heap.size = w.heap.size + 1 := by simp
      rw [e] at this
      exact this
    · have h1 := heap_alloc_new w (.cells #[.int .i64 3, .int .i64 (a : Int)] 54)
      have h2 := (Below.refl (w.alloc (.cells #[.int .i64 3, .int .i64 (a : Int)] 54)).heap.size (w.alloc (.cells #[.int .i64 3, .int .i64 (a : Int)] 54))).alloc (Nat.le_refl _) (.cells #[.int .i64 0, .int .i64 0] 54)
      exact (h2.block w.heap.size (by simp)).trans h1
  generalize (w.alloc (.cells #[.int .i64 3, .int .i64 (a : Int)] 54)).alloc (.cells #[.int .i64 0, .int .i64 0] 54) = W2 at *
  go_loopw [7] (fun iv wr => ∃ j : Nat, j ≤ ms.length ∧ iv = .int .i64 j ∧ Hid (Below W2.heap.size W2 wr)) (fun iv _ => ms.length - (intOf iv).toNat)
  case atStart => exact ⟨0, Nat.zero_le _, rfl, Below.refl _ _⟩
  case round =>
    obtain ⟨j, hj, rfl, HW2⟩ := hrel
    have lt2 : mb < W2.heap.size := World.block_lt_of_cell? W2 _ c0
    have z0 := (HW2.out.cell (p := ⟨mb, 0, none⟩) lt2).trans c0
    have hx1 := (HW2.out.block w.heap.size (lt_of_some HG.out.2.1)).trans HG.out.2.1
    have hx2 := (HW2.out.block (w.heap.size + 1) (lt_of_some HG.out.1)).trans HG.out.1
    have y1 : wr.cell? ⟨w.heap.size, 1, none⟩ = some (.int .i64 (a : Int)) := by simp [World.cell?, hx1]
    have hB4 : Below w.heap.size w wr := HB.out.trans (HW2.out.mono HB.out.size)
    have j0 : (0 : Int) ≤ (j : Int) := by omega
    by_cases hlt : j < ms.length
    · have hW4 := HWV.out.below hB4
      obtain ⟨ab, cb, e1⟩ := row_shape hW4.mr (by show 0 < ms.length; omega)
      obtain ⟨rfl, rfl⟩ : aM = some ⟨ab, 0, none⟩ ∧ cM = cb := by simpa using e1
      have z1 := (row_cell hW4.mr (i := j) (u := .int .i64 (ms.getD j 0)) (by
        show (ms.map (Value.int .i64))[j]? = _
        rw [List.getElem?_map, List.getElem?_eq_getElem hlt, List.getD_eq_getElem?_getD, List.getElem?_eq_getElem hlt]
        rfl)).1
      have hne : (ms.getD j 0 == (a : Int)) = false := by
        have hne : ms.getD j 0 ≠ (a : Int) := fun e => by
          have hm : (a : Int) ∈ ms := by rw [← e]; exact getD_in hlt
          rw [List.contains_iff_mem.2 hm] at hs
          cases hs
        simpa using hne
      have j1 : (j : Int) < (ms.length : Int) := by omega
      generalize ms.getD j 0 = y at *
      clear hx1 hx2 hW4 e1
      as_aux_lemma =>
      go_wp2_with fail
      go_quiet (fail)
      go_wp2_with fail
      go_roundw
      case rel => exact ⟨j + 1, by omega, by go_num, below_drewN HW2.out _⟩
      case measure => simp [intOf]; omega
    · obtain rfl : j = ms.length := by omega
      -- it is met
      have hW4 := HWV.out.below hB4
      have HX4 : Hid (wr.heap[w.heap.size]? = some (.cells #[.int .i64 3, .int .i64 (a : Int)] 54 (0, 0)) ∧ wr.heap[w.heap.size + 1]? = some (.cells #[.int .i64 0, .int .i64 0] 54 (0, 0)) ∧ w.heap.size + 2 ≤ wr.heap.size ∧ Below w.heap.size w wr) := ⟨hx1, hx2, by have h1 := HG.out.2.2; have h2 := HW2.out.size; omega, hB4⟩
      have f0 := hW4.cells.2.2.2.2.2.2.1 0
      have HW4 : Hid (Wv w0 wr mb bb vb fb (ms, ns) (.slice aM ms.length cM) vn vr m) := hW4
      obtain ⟨ii, hii, hzi0, hzi1, hzi2⟩ := info_parts infoInt
      have HBS : Hid (Below wr.heap.size wr (wr.alloc (.cells #[.int .i64 (a : Int)] 3))) := (Below.refl wr.heap.size wr).alloc (Nat.le_refl _) _
      have HSC : Hid (∀ ad, (some ⟨wr.heap.size, 0, none⟩ : Option Addr) = some ad → ∀ k u, ([(a : Int)].map (Value.int .i64))[k]? = some u → (wr.alloc (.cells #[.int .i64 (a : Int)] 3)).cell? (ad.add k) = some u) := int_src _
      have rx2 := row_keep hW4.mr (fun k e => HBS.out.block k (row_lt hW4.mr k e).2)
      dsimp only at rx2
      have hsz : Hid (w0.heap.size ≤ wr.heap.size) := hW4.bel.size
      have lmb4 : mb < wr.heap.size := lt_of_some hW4.mc
      clear hx1 hx2 hB4 hW4 HW2 HG c0 hms
      go_upto_region 10 with (at_builtin; refine wpList_append_src _ rfl _ _ 68 rfl w0.heap.size 3 ii (.int .i64 0) 1 8 Tryz.underlying68 hii hzi0 hzi1 hzi2 rfl (by decide) (.slice aM ms.length cM) ms.length (ms.map (Value.int .i64)) rfl rx2 (some ⟨wr.heap.size, 0, none⟩) 1 1 ([(a : Int)].map (Value.int .i64)) rfl rfl (fun e => by cases e) HSC.out (fun u hu => by simp at hu; subst hu; rfl) (by unfold maxLen; omega) (by omega) (by have := hsz.out; simp; omega) ?_; intro ra' rc' w5 hown5 hgrow5 _; have HM5 : Hid (Wv w0 (w5.setCell ⟨mb, 0, none⟩ (.slice ra' (ms.length + 1) rc')) mb bb vb fb (ms ++ [(a : Int)], ns) (.slice ra' (ms.length + 1) rc') vn vr m ∧ Kw w0.heap.size wr (w5.setCell ⟨mb, 0, none⟩ (.slice ra' (ms.length + 1) rc')) ∧ w5.heap[mb]? = some (.cells #[.slice aM ms.length cM] 68 (0, 0))) := (met_step HW4.out (a : Int) HBS.out hgrow5 hown5); have s0 : w5.cell? ⟨mb, 0, none⟩ = some (.slice aM ms.length cM) := (by simp [World.cell?, HM5.out.2.2]); have s1 : w5.frozen? ⟨mb, 0, none⟩ = false := (by simp [World.frozen?, HM5.out.2.2]))
      have HM6 : Hid (Wv w0 (w5.setCell ⟨mb, 0, none⟩ (.slice ra' (ms.length + 1) rc')) mb bb vb fb (ms ++ [(a : Int)], ns) (.slice ra' (ms.length + 1) rc') vn vr m ∧ Kw w0.heap.size wr (w5.setCell ⟨mb, 0, none⟩ (.slice ra' (ms.length + 1) rc'))) := ⟨HM5.out.1, HM5.out.2.1⟩
      clear HM5 s0 s1 hown5 hgrow5 rx2 HSC HBS hsz lmb4 f0 y1 z0
      generalize w5.setCell ⟨mb, 0, none⟩ (.slice ra' (ms.length + 1) rc') = W6 at *
      -- the thing is read
      have HX6 : Hid (W6.heap[w.heap.size]? = some (.cells #[.int .i64 3, .int .i64 (a : Int)] 54 (0, 0)) ∧ W6.heap[w.heap.size + 1]? = some (.cells #[.int .i64 0, .int .i64 0] 54 (0, 0)) ∧ w.heap.size + 2 ≤ W6.heap.size ∧ Kx w0 w m W6 m) := ⟨(HM6.out.2.oth _ _ _ _ HX4.out.1 (by unfold Tyw; decide)).trans HX4.out.1, (HM6.out.2.oth _ _ _ _ HX4.out.2.1 (by unfold Tyw; decide)).trans HX4.out.2.1, Nat.le_trans HX4.out.2.2.1 HM6.out.2.size, (Kx.of HX4.out.2.2.2).trans ⟨HM6.out.2, fun _ d => Or.inl d⟩⟩
      obtain ⟨aT, cT, hT0, hTx⟩ := HR.out.wg.th
      obtain ⟨t, ht⟩ : ∃ t, T[a]? = some t := ⟨_, List.getElem?_eq_getElem ha⟩
      obtain ⟨bT, ad, cp, rfl, t0', t1', t2', t3', hLt⟩ := hTx a t ht
      have HTT : Hid (T.getD ((a : Int)).toNat t0 = t) := by show _ = _; rw [Int.toNat_natCast, List.getD_eq_getElem?_getD, ht]; rfl
      have bel6 := HM6.out.1.bel
      have lo : ∀ {p : Addr} {v : Value}, w0.cell? p = some v → W6.cell? p = some v := fun {p v} e => (bel6.cell (p := p) (World.block_lt_of_cell? w0 _ e)).trans e
      have u0 := lo t0'
      have u1 := lo t1'
      have u2 := lo t2'
      have u3 := lo t3'
      have u4 := lo hT0
      have u5 := lo HR.out.bx
      have x1 : W6.cell? ⟨w.heap.size, 1, none⟩ = some (.int .i64 (a : Int)) := by simp [World.cell?, HX6.out.1]
      have HLT : Hid (Lp w0 ad t.2.1) := hLt
      have HU : Hid (w0.cell? ⟨bb, 0, none⟩ = some (.pointer (some ⟨rp, 0, none⟩))) := HR.out.bx
      have a0 : (0 : Int) ≤ (a : Int) := by omega
      have a1 : (a : Int) < (T.length : Int) := by omega
      have HKE : Hid (kdW T (a : Int) = t.1 ∧ shW T wt (a : Int) = t.2.1.map wI ++ if t.1 = 5 then (wt.filter (fun e => e.1 == (a : Int))).map (fun e => ew 3 e.2) else []) := ⟨by unfold kdW; rw [HTT.out], by unfold shW; rw [HTT.out]⟩
      have HFV : Hid ((∀ v ∈ t.2.1, Vq T v) ∧ t.2.1.length ≤ 12) := by
        have h1 := HW.out.fv a hv
        have h2 := HW.out.tl a
        have e : T.getD a t0 = t := by have := HTT.out; rwa [Int.toNat_natCast] at this
        rw [e] at h1 h2
        exact ⟨h1, h2⟩
      clear hTx hLt lo bel6 t0' t1' t2' t3' hT0
      obtain ⟨kd, fs, od, dd⟩ := t
      dsimp only at u0 u1 u2 u3 HLT HKE HFV
      go_region_held3 (fun w' => w'.cell? ⟨bb, 0, none⟩ = some (.pointer (some ⟨rp, 0, none⟩)) ∧ w'.cell? ⟨rp, 0, none⟩ = some (.slice (some ⟨bT, 0, none⟩) T.length cT) ∧ w'.cell? ⟨w.heap.size, 1, none⟩ = some (.int .i64 (a : Int)) ∧ w'.cell? ⟨bT, a * 4, none⟩ = some (.int .i64 kd) ∧ w'.cell? ⟨bT, a * 4 + 1, none⟩ = some (.slice ad fs.length cp) ∧ w'.cell? ⟨bT, a * 4 + 2, none⟩ = some (.bool od) ∧ w'.cell? ⟨bT, a * 4 + 3, none⟩ = some (.bool dd)) (go_keep) (fail)
      have HB7 : Hid (Below W6.heap.size W6 (W6.alloc (.cells #[.int .i64 kd, .slice ad fs.length cp, .bool od, .bool dd] 73)).drew) := ((Below.refl _ W6).alloc (Nat.le_refl _) _).drew
      have HT7 : Hid ((W6.alloc (.cells #[.int .i64 kd, .slice ad fs.length cp, .bool od, .bool dd] 73)).drew.heap[W6.heap.size]? = some (.cells #[.int .i64 kd, .slice ad fs.length cp, .bool od, .bool dd] 73 (0, 0))) := heap_alloc_new W6 _
      generalize (W6.alloc (.cells #[.int .i64 kd, .slice ad fs.length cp, .bool od, .bool dd] 73)).drew = W7 at *
      have hW7 := HM6.out.1.below HB7.out
      have HX7 : Hid (W7.heap[w.heap.size]? = some (.cells #[.int .i64 3, .int .i64 (a : Int)] 54 (0, 0)) ∧ W7.heap[w.heap.size + 1]? = some (.cells #[.int .i64 0, .int .i64 0] 54 (0, 0)) ∧ w.heap.size + 2 ≤ W7.heap.size ∧ Kx w0 w m W7 m) := ⟨(HB7.out.block _ (lt_of_some HX6.out.1)).trans HX6.out.1, (HB7.out.block _ (lt_of_some HX6.out.2.1)).trans HX6.out.2.1, Nat.le_trans HX6.out.2.2.1 HB7.out.size, HX6.out.2.2.2.trans (Kx.of HB7.out)⟩
      obtain ⟨aN, cN, eN⟩ := row_slice hW7.nr
      subst eN
      have v0 := hW7.cells.2.1
      have k0 : W7.cell? ⟨W6.heap.size, 0, none⟩ = some (.int .i64 kd) := by simp [World.cell?, HT7.out]
      have f1 := hW7.cells.2.2.2.2.2.2.2.1 1
      have hml : m.length ≤ 10000 := by
        have h1 := hW7.len
        have h1 : m.length = ns.length := h1
        have h2 : ns.length = ms.length := hOn
        omega
      obtain ⟨ij, hij, hzj0, hzj1, hzj2⟩ := info_parts infoNode
      have HBS : Hid (Below W7.heap.size W7 (W7.alloc (.cells #[.int .i64 kd, .slice none 0 0] 80))) := (Below.refl W7.heap.size W7).alloc (Nat.le_refl _) _
      have HSC : Hid (∀ ad, (some ⟨W7.heap.size, 0, none⟩ : Option Addr) = some ad → ∀ k u, (nv [(kd, none, 0, [])])[k]? = some u → (W7.alloc (.cells #[.int .i64 kd, .slice none 0 0] 80)).cell? (ad.add k) = some u) := node_src _
      have rx2 := row_keep hW7.nr (fun k e => HBS.out.block k (row_lt hW7.nr k e).2)
      have hsz : Hid (w0.heap.size ≤ W7.heap.size) := hW7.bel.size
      have HW7 : Hid (Wv w0 W7 mb bb vb fb (ms ++ [(a : Int)], ns) (.slice ra' (ms.length + 1) rc') (.slice aN m.length cN) vr m) := hW7
      have lvb : vb < W7.heap.size := lt_of_some hW7.vc
      clear u0 u1 u2 u3 u4 u5 x1 hW7
      go_upto_region 12 with (at_builtin; refine wpList_append_src _ rfl _ _ 39 rfl w0.heap.size 80 ij (.agg #[.int .i64 0, .slice none 0 0]) 2 32 Tryz.underlying39 hij hzj0 hzj1 hzj2 rfl (by decide) (.slice aN m.length cN) m.length (nv m) rfl rx2 (some ⟨W7.heap.size, 0, none⟩) 1 1 (nv [(kd, none, 0, [])]) rfl rfl (fun e => by cases e) HSC.out (fun u hu => by simp [nv] at hu; rcases hu with hu | hu <;> (subst hu; rfl)) (by unfold maxLen; omega) (by omega) (by have := hsz.out; simp; omega) ?_; intro rn' rk' w8 hown8 hgrow8 _; have HM8 : Hid (Wv w0 (w8.setCell ⟨vb, 1, none⟩ (.slice rn' (m.length + 1) rk')) mb bb vb fb (ms ++ [(a : Int)], ns ++ [(kd, [])]) (.slice ra' (ms.length + 1) rc') (.slice rn' (m.length + 1) rk') vr (m ++ [(kd, none, 0, [])]) ∧ Kw w0.heap.size W7 (w8.setCell ⟨vb, 1, none⟩ (.slice rn' (m.length + 1) rk')) ∧ w8.heap[vb]? = some (.cells #[vr, .slice aN m.length cN] 41 (0, 0))) := (node_step HW7.out kd HBS.out hgrow8 hown8); have s0 : w8.cell? ⟨vb, 1, none⟩ = some (.slice aN m.length cN) := (by simp [World.cell?, HM8.out.2.2]); have s1 : w8.frozen? ⟨vb, 1, none⟩ = false := (by simp [World.frozen?, HM8.out.2.2]))
      have HM9 : Hid (Wv w0 (w8.setCell ⟨vb, 1, none⟩ (.slice rn' (m.length + 1) rk')) mb bb vb fb (ms ++ [(a : Int)], ns ++ [(kd, [])]) (.slice ra' (ms.length + 1) rc') (.slice rn' (m.length + 1) rk') vr (m ++ [(kd, none, 0, [])]) ∧ Kw w0.heap.size W7 (w8.setCell ⟨vb, 1, none⟩ (.slice rn' (m.length + 1) rk'))) := ⟨HM8.out.1, HM8.out.2.1⟩
      clear HM8 s0 s1 hown8 hgrow8 rx2 HSC HBS hsz lvb f1 k0 v0
      generalize w8.setCell ⟨vb, 1, none⟩ (.slice rn' (m.length + 1) rk') = w3 at *
      have HOW : Hid (Own w3 w.heap.size (w.heap.size + 1) W6.heap.size (a : Int) kd (.slice ad fs.length cp) od dd) := ⟨(HM9.out.2.oth _ _ _ _ HX7.out.1 (by unfold Tyw; decide)).trans HX7.out.1, (HM9.out.2.oth _ _ _ _ HX7.out.2.1 (by unfold Tyw; decide)).trans HX7.out.2.1, (HM9.out.2.oth _ _ _ _ HT7.out (by unfold Tyw; decide)).trans HT7.out⟩
      have HK3 : Hid (Kx w0 w m w3 (m ++ [(kd, none, 0, [])]) ∧ w.heap.size + 2 ≤ w3.heap.size) := ⟨HX7.out.2.2.2.trans ⟨HM9.out.2, fun k hk => by
        obtain ⟨y, hy, hyl, o, e⟩ := hk
        rcases List.mem_append.1 hy with hy | hy
        · exact Or.inl ⟨y, hy, hyl, o, e⟩
        · rw [List.mem_singleton.1 hy] at hyl
          simp at hyl⟩, Nat.le_trans HX7.out.2.2.1 HM9.out.2.size⟩
      have HM3 : Hid (Wv w0 w3 mb bb vb fb (ms ++ [(a : Int)], ns ++ [(kd, [])]) (.slice ra' (ms.length + 1) rc') (.slice rn' (m.length + 1) rk') vr (m ++ [(kd, none, 0, [])])) := HM9.out.1
      rw [HKE.out.1] at HO1 HME
      rw [HKE.out.2] at HME
      have HN2' : T.length ≤ (ms ++ [(a : Int)]).length + n' := by simp; omega
      have HG : Hid (∀ l, Vgo (tI T.length) (kdW T) (shW T wt) (ms ++ [(a : Int)], ns ++ [(kd, [])]) (vls M (tI T.length) (ms ++ [(a : Int)], ns ++ [(kd, [])]) l).2 (vls M (tI T.length) (ms ++ [(a : Int)], ns ++ [(kd, [])]) l).1) := fun l => vls_go HM.out HO1.out (by rw [tI_len]; exact HN2') l
      have HNN : Hid (T.length ≤ (ms ++ [(a : Int)]).length + n') := HN2'
      have HND : Hid (ns.length = ms.length ∧ ns.length ≤ 10000) := ⟨hOn, by omega⟩
      obtain ⟨ie, hie, hze0, hze1, hze2⟩ := info_parts infoVal
      have hfl := HFV.out.2
      have HFB1 : Hid (¬ Fb (m ++ [(kd, none, 0, [])]) (w.heap.size + 1) ∧ w0.heap.size ≤ w.heap.size + 1) := ⟨fun hk => by
        obtain ⟨y, hy, hyl, o, e⟩ := hk
        rcases List.mem_append.1 hy with hy | hy
        · have := HWV.out.fbk (w.heap.size + 1) ⟨y, hy, hyl, o, e⟩
          omega
        · rw [List.mem_singleton.1 hy] at hyl
          simp at hyl, Nat.le_succ_of_le HWV.out.bel.size⟩
      clear HM6 HM9 HX4 HX6 HX7 HT7 HB7 HW7 HW4 HWV hij hzj0 hzj1 hzj2 hii hzi0 hzi1 hzi2 hn HN2' hOn
      generalize hsA : ((ms ++ [(a : Int)], ns ++ [(kd, [])]) : Vst) = sA at *
      generalize hm1 : (m ++ [((kd, none, 0, []) : Vnd)]) = m1 at *
      generalize W6.heap.size = tb at *
      go_wp2_with fail
      go_loopw [10, 11] (fun lv iv wr => ∃ (j : Nat) (P' : List (Int × Int) × Vst) (la' : Option Addr) (lc' : Nat) (va' vn' : Value) (m' : List Vnd), j ≤ fs.length ∧ lv = .slice la' P'.1.length lc' ∧ iv = .int .i64 j ∧ Hid (P' = vls M (tI T.length) sA ((fs.take j).map wI)) ∧ Hid (Lr w0 w3 wr mb bb vb fb vr m1 P' la' lc' va' vn' m')) (fun _ iv _ => fs.length - (intOf iv).toNat)
      case atStart => exact ⟨0, ([], sA), none, 0, _, _, m1, Nat.zero_le _, rfl, rfl, by show _ = _; rw [List.take_zero]; rfl, Lr.start (P := ([], sA)) HM3.out rfl⟩
      case round =>
        obtain ⟨j, P', la', lc', va', vn', m', hj, rfl, rfl, HP, HL⟩ := hrel
        have ow := HOW.out.kx HL.out.kx
        have t1 : wr.cell? ⟨tb, 1, none⟩ = some (.slice ad fs.length cp) := by simp [World.cell?, ow.t]
        have q0 : (0 : Int) ≤ (j : Int) := by omega
        clear ow
        by_cases hlt : j < fs.length
        · have q1 : (j : Int) < (fs.length : Int) := by omega
          obtain ⟨fb9, fo9, rfl, lfb, hfc⟩ := HLT.out (by omega)
          have hmem : fs.getD j (0, 0) ∈ fs := getD_in hlt
          have hvq := HFV.out.1 _ hmem
          obtain ⟨eg, et, hen⟩ : ∃ eg et, fs.getD j (0, 0) = (eg, et) := ⟨_, _, rfl⟩
          have HFC : Hid (∀ w', Below w0.heap.size w0 w' → w'.cell? ⟨fb9, fo9 + j * 2, none⟩ = some (.int .i64 eg) ∧ w'.cell? ⟨fb9, fo9 + j * 2 + 1, none⟩ = some (.int .i64 et)) := fun w' hb => by
            obtain ⟨p0, p1⟩ := hfc j hlt
            rw [hen] at p0 p1
            exact ⟨(hb.cell (p := ⟨fb9, fo9 + j * 2, none⟩) lfb).trans p0, (hb.cell (p := ⟨fb9, fo9 + j * 2 + 1, none⟩) lfb).trans p1⟩
          have HFN : Hid ((fs.take (j + 1)).map wI = (fs.take j).map wI ++ [wI (eg, et)]) := by
            show _ = _
            rw [take_snoc fs j hlt (0, 0), List.map_append, hen]
            rfl
          rw [hen] at hvq
          have hgo := HG.out ((fs.take j).map wI)
          rw [← HP.out] at hgo
          have HPC : Hid (∀ W : World, Lr w0 w3 W mb bb vb fb vr m1 P' la' lc' va' vn' m' → Calls Tryz.prog 34 (valA eg et mb bb vb fb) W fun e w' => ∃ va5 vn5 m5, e = .returned (.agg #[.int .i64 (vst M (tI T.length) P'.2 (wI (eg, et))).1.1, .int .i64 (vst M (tI T.length) P'.2 (wI (eg, et))).1.2]) ∧ Lr w0 w3 w' mb bb vb fb vr m1 (P'.1, (vst M (tI T.length) P'.2 (wI (eg, et))).2) la' lc' va5 vn5 m5 ∧ Kx w0 W m' w' m5) := fun W hL => by
            refine (HI.out W P'.2 va' vn' vr m' (eg, et) hL.wv hgo.ok hvq (by
              have h1 := hgo.le
              have h2 := HNN.out
              have h3 : sA.1.length = (ms ++ [(a : Int)]).length := by rw [← hsA]
              omega)).mono ?_
            rintro e w5 ⟨va5, vn5, m5, rfl, hW5, hK5⟩
            exact ⟨va5, vn5, m5, rfl, hL.call hW5 hK5, hK5⟩
          have HN2 : Hid ((P'.1 ++ [(vst M (tI T.length) P'.2 (wI (eg, et))).1], (vst M (tI T.length) P'.2 (wI (eg, et))).2) = vls M (tI T.length) sA ((fs.take (j + 1)).map wI)) := by
            show _ = _
            rw [HFN.out, vls_snoc, ← HP.out]
          have hPl : P'.1.length ≤ 100000 := by
            rw [HP.out, vls_len, List.length_map, List.length_take]
            omega
          have u1 := HL.out.wv.cells.2.2.1
          obtain ⟨u2, u3⟩ := HFC.out wr HL.out.wv.bel
          have u4 := t1
          generalize vst M (tI T.length) P'.2 (wI (eg, et)) = V at *
          obtain ⟨⟨v1, v2⟩, sB⟩ := V
          dsimp only at HPC HN2
          have HL1 := HL.out
          have n1 : wr.heap.size ≠ fb := by have : fb < wr.heap.size := World.block_lt_of_cell? wr _ u1; omega
          have n2 : wr.heap.size ≠ fb9 := by have : fb9 < wr.heap.size := World.block_lt_of_cell? wr _ u2; omega
          have n3 : wr.heap.size ≠ tb := by have : tb < wr.heap.size := World.block_lt_of_cell? wr _ u4; omega
          have n4 : True := trivial
          clear HFN HP hfc hmem hgo hvq HL hen t1
          go_wp2_with fail
          generalize hWW : wr = W at *
          clear hWW
          have PC := HPC.out W.drew (HL1.below (Below.refl _ W).drew)
          have PD := HPC.out (W.alloc (.cells #[.int .i64 0, .int .i64 0] 54)).drew (HL1.below ((Below.refl _ W).alloc (Nat.le_refl _) _).drew)
          have HL1 : Hid (Lr w0 w3 W mb bb vb fb vr m1 P' la' lc' va' vn' m') := HL1
          clear HPC
          go_region_held3 (fun w' => w'.cell? ⟨fb, 0, none⟩ = some (fnV mb bb vb fb) ∧ w'.cell? ⟨tb, 1, none⟩ = some (.slice (some ⟨fb9, fo9, none⟩) fs.length cp) ∧ w'.cell? ⟨fb9, fo9 + j * 2, none⟩ = some (.int .i64 eg) ∧ w'.cell? ⟨fb9, fo9 + j * 2 + 1, none⟩ = some (.int .i64 et)) (go_keep) (first | (go_at_call 34; refine PC.mono ?_; clear PC PD; rintro e w5 ⟨va5, vn5, m5, rfl, hL5, _⟩; have HL5 : Hid (Lr w0 w3 w5 mb bb vb fb vr m1 (P'.1, sB) la' lc' va5 vn5 m5) := hL5; obtain ⟨b1, b2⟩ := HFC.out w5 hL5.wv.bel; have b4 := hL5.wv.cells.2.2.1; have b5 : w5.cell? ⟨tb, 1, none⟩ = some (.slice (some ⟨fb9, fo9, none⟩) fs.length cp) := (by simp [World.cell?, (HOW.out.kx hL5.kx).t]); clear hL5) | (go_at_call 34; refine PD.mono ?_; clear PC PD; rintro e w5 ⟨va5, vn5, m5, rfl, hL5, hK5⟩; have hla := HL1.out.late hL5 (show Kx w0 (W.alloc (.cells #[.int .i64 0, .int .i64 0] 54)) m' w5 m5 from (Kx.of (Below.refl _ _).drew).trans hK5) v1 v2; have HL6 : Hid (Lr w0 w3 ((w5.setCell ⟨W.heap.size, 0, none⟩ (.int .i64 v1)).setCell ⟨W.heap.size, 1, none⟩ (.int .i64 v2)) mb bb vb fb vr m1 (P'.1, sB) la' lc' va5 vn5 m5 ∧ w5.heap[W.heap.size]? = some (.cells #[.int .i64 0, .int .i64 0] 54 (0, 0))) := ⟨hla.2, hla.1⟩; have c0 : w5.cell? ⟨W.heap.size, 0, none⟩ = some (.int .i64 0) := (by simp [World.cell?, hla.1]); have c1 : w5.cell? ⟨W.heap.size, 1, none⟩ = some (.int .i64 0) := (by simp [World.cell?, hla.1]); have c2 : w5.frozen? ⟨W.heap.size, 0, none⟩ = false := (by simp [World.frozen?, hla.1]); have c4 : w5.frozen? ⟨W.heap.size, 1, none⟩ = false := (by simp [World.frozen?, hla.1]); obtain ⟨b1, b2⟩ := HFC.out w5 hL5.wv.bel; have b4 := hL5.wv.cells.2.2.1; have b5 : w5.cell? ⟨tb, 1, none⟩ = some (.slice (some ⟨fb9, fo9, none⟩) fs.length cp) := (by simp [World.cell?, (HOW.out.kx hL5.kx).t]); clear hL5 hla hK5))
          all_goals
            first
            | (have HY : Hid (Lr w0 w3 (w5.alloc (.cells #[.int .i64 v1, .int .i64 v2] 54)) mb bb vb fb vr m1 (P'.1, sB) la' lc' va5 vn5 m5 ∧ (w5.alloc (.cells #[.int .i64 v1, .int .i64 v2] 54)).cell? ⟨w5.heap.size, 0, none⟩ = some (.int .i64 v1) ∧ (w5.alloc (.cells #[.int .i64 v1, .int .i64 v2] 54)).cell? ⟨w5.heap.size, 1, none⟩ = some (.int .i64 v2)) := ⟨HL5.out.below ((Below.refl _ w5).alloc (Nat.le_refl _) _), by have hh := heap_alloc_new w5 (.cells #[.int .i64 v1, .int .i64 v2] 54); unfold World.cell?; dsimp only; rw [hh]; rfl, by have hh := heap_alloc_new w5 (.cells #[.int .i64 v1, .int .i64 v2] 54); unfold World.cell?; dsimp only; rw [hh]; rfl⟩
               clear HL5 b1 b2 b4 b5
               generalize w5.alloc (.cells #[.int .i64 v1, .int .i64 v2] 54) = w6 at *
               generalize w5.heap.size = yb at *)
            | (have HY : Hid (Lr w0 w3 ((w5.setCell ⟨W.heap.size, 0, none⟩ (.int .i64 v1)).setCell ⟨W.heap.size, 1, none⟩ (.int .i64 v2)) mb bb vb fb vr m1 (P'.1, sB) la' lc' va5 vn5 m5 ∧ ((w5.setCell ⟨W.heap.size, 0, none⟩ (.int .i64 v1)).setCell ⟨W.heap.size, 1, none⟩ (.int .i64 v2)).cell? ⟨W.heap.size, 0, none⟩ = some (.int .i64 v1) ∧ ((w5.setCell ⟨W.heap.size, 0, none⟩ (.int .i64 v1)).setCell ⟨W.heap.size, 1, none⟩ (.int .i64 v2)).cell? ⟨W.heap.size, 1, none⟩ = some (.int .i64 v2)) := ⟨HL6.out.1, by rw [World.cell?_setCell_other _ _ _ _ (by simp)]; exact World.cell?_setCell_same _ _ _ (u := .int .i64 0) c0, World.cell?_setCell_same _ _ _ (u := .int .i64 0) ((World.cell?_setCell_other _ _ _ _ (by simp)).trans c1)⟩
               clear HL6 b1 b2 b4 b5 c0 c1 c2 c4
               generalize (w5.setCell ⟨W.heap.size, 0, none⟩ (.int .i64 v1)).setCell ⟨W.heap.size, 1, none⟩ (.int .i64 v2) = w6 at *
               clear u1 u2 u3 u4 n1 n2 n3 n4 HL1
               generalize W.heap.size = yb at *)
          all_goals
            have k1 := HY.out.2.1
            have k2 := HY.out.2.2
            have HBS : Hid (Below w6.heap.size w6 (w6.alloc (.cells #[.int .i64 v1, .int .i64 v2] 54))) := (Below.refl w6.heap.size w6).alloc (Nat.le_refl _) _
            have HSC : Hid (∀ a, (some ⟨w6.heap.size, 0, none⟩ : Option Addr) = some a → ∀ k u, (ev [(v1, v2)])[k]? = some u → (w6.alloc (.cells #[.int .i64 v1, .int .i64 v2] 54)).cell? (a.add k) = some u) := val_src v1 v2
            have rx2 := row_keep HY.out.1.row (fun k e => HBS.out.block k (row_lt HY.out.1.row k e).2)
            dsimp only at rx2
            have hsz : Hid (w3.heap.size ≤ w6.heap.size) := HY.out.1.kx.1.size
            go_upto_region 15 with (at_builtin; refine wpList_append_src _ rfl _ _ 38 rfl w3.heap.size 54 ie (.agg #[.int .i64 0, .int .i64 0]) 2 16 Tryz.underlying38 hie hze0 hze1 hze2 rfl (by decide) (.slice la' P'.1.length lc') P'.1.length (ev P'.1) rfl rx2 (some ⟨w6.heap.size, 0, none⟩) 1 1 (ev [(v1, v2)]) rfl rfl (fun e => by cases e) HSC.out (ev_one _) (by unfold maxLen; omega) (by omega) (by have := hsz.out; simp; omega) ?_; intro ra' rc' w10 hown10 hgrow10 hnb10; have HB10 : Hid (Lr w0 w3 w10 mb bb vb fb vr m1 (P'.1 ++ [(v1, v2)], sB) ra' rc' va5 vn5 m5) := (HY.out.1.push HBS.out hgrow10 hown10 hnb10))
            clear hown10 hgrow10 hnb10 rx2
            go_wp2_with fail
            go_roundw
            case rel => exact ⟨j + 1, (P'.1 ++ [(v1, v2)], sB), ra', rc', va5, vn5, m5, by omega, by simp, by go_num, HN2, HB10⟩
            case measure => simp [intOf]; omega
        · obtain rfl : j = fs.length := by omega
          have HPE : Hid (P' = vls M (tI T.length) sA (fs.map wI)) := by
            have h1 := HP.out
            rw [List.take_length] at h1
            exact h1
          have HNF : Hid (∀ P2 : List (Int × Int) × Vst, P2 = vls M (tI T.length) sA (fs.map wI ++ if kd = 5 then (wt.filter (fun e => e.1 == (a : Int))).map (fun e => ew 3 e.2) else []) → P2.2.2[ms.length]? = some (kd, []) ∧ P2.2.2.length ≤ 100000 ∧ P2.1.length ≤ 100000) := fun P2 hP2 => by
            have hgo := HG.out (fs.map wI ++ if kd = 5 then (wt.filter (fun e => e.1 == (a : Int))).map (fun e => ew 3 e.2) else [])
            have hll := vls_len M (tI T.length) sA (fs.map wI ++ if kd = 5 then (wt.filter (fun e => e.1 == (a : Int))).map (fun e => ew 3 e.2) else [])
            rw [← hP2] at hgo hll
            refine ⟨?_, ?_, ?_⟩
            · rw [hgo.old ms.length (by rw [← hsA]; simp), ← hsA]
              show (ns ++ [(kd, [])])[ms.length]? = _
              rw [← HND.out.1, List.getElem?_append_right (Nat.le_refl _)]
              simp
            · have h1 := hgo.ok.le
              rw [tI_len] at h1
              rw [hgo.ok.len]
              have := HW.out.l1
              omega
            · rw [hll, List.length_append, List.length_map]
              have h2 := HW.out.l2
              split
              · rw [List.length_map]
                have h3 := List.length_filter_le (fun e : En => e.1 == (a : Int)) wt
                omega
              · simp
                omega
          have HPL : Hid (∀ k, k ≤ wt.length → (vls M (tI T.length) sA (fs.map wI ++ ((wt.take k).filter (fun e => e.1 == (a : Int))).map (fun e => ew 3 e.2))).1.length ≤ 100000) := fun k hk => by
            rw [vls_len, List.length_append, List.length_map, List.length_map]
            have h2 := HW.out.l2
            have h3 := List.length_filter_le (fun e : En => e.1 == (a : Int)) (wt.take k)
            rw [List.length_take] at h3
            omega
          have hsl : T.length ≤ sA.1.length + n' := by
            have h2 := HNN.out
            have h3 : sA.1.length = (ms ++ [(a : Int)]).length := by rw [← hsA]
            omega
          clear HP
          iterate 20 go_step
          iterate 8 go_step
          refine tailB_wp (wb := w) (mB := m) (k0 := kd) (v0 := []) HL.out HPE.out HM.out HI.out HO1.out hsl HOW.out HW.out HU.out HR.out.wg.wa HNF.out HPL.out (by have := HK3.out.2; omega) HFB1.out.2 HFB1.out.1 (by omega) HK3.out.1 ?_
          intro a' w' va2 vn2 m2 P2 hP2 h6 hd c0 c1 hWv hKx
          simp only [Array.getD_eq_getD_getElem?] at h6
          refine bodyPost_ret (v := .agg #[.int .i64 3, .int .i64 ms.length]) (by simp [results, Tryz.results34, h6, go_sem, c0, c1]) hd ⟨va2, vn2, m2, rfl, ?_, hKx⟩
          rw [HME.out, ← hP2]
          exact hWv
end

end Go.Proofs.YtogknhogphkddaaGreat.Vr4
