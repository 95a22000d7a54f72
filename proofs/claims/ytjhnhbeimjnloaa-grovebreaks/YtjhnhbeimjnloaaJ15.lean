/- Joined: Gb9, Ms4. -/
import Derived.Test.YtjhnhbeimjnloaaGb8
import Derived.Test.YtjhnhbeimjnloaaJ04
import Derived.Test.YtjhnhbeimjnloaaJ08
import Derived.Test.YtjhnhbeimjnloaaJ09
/- GroveBreaks: told: a contract. -/
namespace Go.Proofs.Ytjhnhbeimjnloaa.Tld
open Go.RowKit W Kp Stl

theorem valt_all {w0 : World} {mb bb vb fb : Nat} {T : List Tw1} {na : Option Addr} {nc : Nat} (hR : Rt w0 bb na nc T) (hw : Wvw T []) (hal : ∀ i, i < T.length → Alv T i) : ∀ n, Valt w0 mb bb vb fb T (met (tI T.length) (kdW T) (shW T []) n) n := by
  intro n
  induction n with
  | zero =>
    intro w s va vn vr m v h hO hv hn
    have hl := hw.l1
    have hsl : s.1.length ≤ 100000 := by
      have h1 := hO.le
      rw [tI_len] at h1
      omega
    by_cases h3 : v.1 = 3
    · have e : tolA v.1 v.2 mb bb vb fb = tolA 3 v.2 mb bb vb fb := by rw [h3]
      rw [e]
      cases hs : s.1.contains v.2
      · exfalso
        have h1 := hO.lt (tI_mem.2 (hv.lt h3)) (fun c => by rw [List.contains_iff_mem.2 c] at hs; cases hs)
        rw [tI_len] at h1
        omega
      · rw [vst_met hv h3 hs]
        obtain ⟨g1, g2⟩ := hv.2 h3
        obtain ⟨a, ha⟩ := Int.eq_ofNat_of_zero_le g1
        rw [ha] at hs g2 ⊢
        refine (told_met h a (by omega) (by have := g2.1; omega) hs hsl).mono ?_
        rintro e w' ⟨rfl, hb⟩
        exact ⟨_, _, m, rfl, h.below hb, Kx.of hb⟩
    · rw [vst_o hv h3]
      refine (told_o w v.1 v.2 h3).mono ?_
      rintro e w' ⟨rfl, hb⟩
      exact ⟨_, _, m, rfl, h.below hb, Kx.of hb⟩
  | succ n ih =>
    intro w s va vn vr m v h hO hv hn
    have hl := hw.l1
    have hsl : s.1.length ≤ 100000 := by
      have h1 := hO.le
      rw [tI_len] at h1
      omega
    by_cases h3 : v.1 = 3
    · have e : tolA v.1 v.2 mb bb vb fb = tolA 3 v.2 mb bb vb fb := by rw [h3]
      rw [e]
      obtain ⟨g1, g2⟩ := hv.2 h3
      obtain ⟨a, ha⟩ := Int.eq_ofNat_of_zero_le g1
      have g3 : a < T.length := by have := g2.1; omega
      cases hs : s.1.contains v.2
      · rw [vst_new hv h3 hs]
        rw [ha] at hs ⊢
        exact told_new h hR hw hal hO a g3 hs ih hn
      · rw [vst_met hv h3 hs]
        rw [ha] at hs ⊢
        refine (told_met h a (by omega) g3 hs hsl).mono ?_
        rintro e w' ⟨rfl, hb⟩
        exact ⟨_, _, m, rfl, h.below hb, Kx.of hb⟩
    · rw [vst_o hv h3]
      refine (told_o w v.1 v.2 h3).mono ?_
      rintro e w' ⟨rfl, hb⟩
      exact ⟨_, _, m, rfl, h.below hb, Kx.of hb⟩

theorem wt_rooted {nn : Nat} {w0 w : World} {mb bb vb fb : Nat} {s : Vst} {va vn vr : Value} {m : List Vnd} (h : Wt nn w0 w mb bb vb fb s va vn vr m) (vr' : Value) : Wt nn w0 (w.setCell ⟨vb, 0, none⟩ vr') mb bb vb fb s va vn vr' m ∧ Kw w0.heap.size w (w.setCell ⟨vb, 0, none⟩ vr') := by
  have f2 : Fr (fun k => k = vb) w (w.setCell ⟨vb, 0, none⟩ vr') := (Fr.refl (fun k => k = vb) w).set vb _ _ rfl
  have hk : ∀ k cs e mm, w.heap[k]? = some (Obj.cells cs e mm) → e ≠ 35 → (w.setCell ⟨vb, 0, none⟩ vr').heap[k]? = w.heap[k]? := fun k cs e mm hk h2 => f2.block k (lt_of_some hk) (fun d => by
    have d : k = vb := d
    rw [d, h.vc] at hk
    simp at hk
    exact h2 hk.2.1.symm)
  have kw : Kw w0.heap.size w (w.setCell ⟨vb, 0, none⟩ vr') := Kw.fr f2 (fun k d => by
    have d : k = vb := d
    refine ⟨by rw [d]; exact h.lo.2.1, fun cs e mm hc => ?_⟩
    rw [d, h.vc] at hc
    simp at hc
    exact Or.inr (Or.inl hc.2.1.symm))
  refine ⟨⟨h.bel.trans (kw.below h.bel.size), h.lo, (hk _ _ _ _ h.fc (by decide)).trans h.fc, (hk _ _ _ _ h.mc (by decide)).trans h.mc, ?_, row_keep h.mr (fun k e1 => by
    obtain ⟨cs, hc⟩ := row_type h.mr k e1
    exact hk k _ _ _ hc (by decide)), row_keep h.nr (fun k e1 => by
    obtain ⟨cs, hc⟩ := row_type h.nr k e1
    exact hk k _ _ _ hc (by decide)), h.nd, fun x hx => (h.fl x hx).kw kw⟩, kw⟩
  simp only [World.setCell, Array.getElem?_modify, if_true, h.vc, Option.map_some]
  simp
theorem lt_rooted {nn : Nat} {w0 w3 wr : World} {mb bb vb fb : Nat} {vr va vn : Value} {m1 m' : List Vnd} {P : List (Int × Int) × Vst} {la : Option Addr} {lc : Nat} (h : Lt nn w0 w3 wr mb bb vb fb vr m1 P la lc va vn m') (vr' : Value) : Lt nn w0 w3 (wr.setCell ⟨vb, 0, none⟩ vr') mb bb vb fb vr' m1 P la lc va vn m' ∧ wr.heap[vb]? = some (.cells #[vr, vn] 35 (0, 0)) := by
  have h1 := wt_rooted h.wv vr'
  refine ⟨⟨h.hs, h1.1, h.kx.trans ⟨h1.2, fun _ d => Or.inl d⟩, row_keep h.row (fun k e => Below.heap_setCell _ _ _ _ (fun e' => ?_)), h.no⟩, h.wv.vc⟩
  obtain ⟨cs, hc⟩ := row_type h.row k e
  have e' : k = vb := by first | exact e' | exact e'.symm
  rw [e', h.wv.vc] at hc
  simp at hc
theorem made_rowI {w : World} {b k n : Nat} (h : w.ownsRow b 3 1 (.slice (some ⟨k, 0, none⟩) n n) n (madeCells (Value.int .i64 0).cells (n * 1)).toList) :
    w.ownsRow b 3 1 (.slice (some ⟨k, 0, none⟩) n n) n ((numL n []).map (Value.int .i64)) := by
  have e : (madeCells (Value.int .i64 0).cells (n * 1)).toList = (numL n []).map (Value.int .i64) := by
    show (madeCells #[Value.int .i64 0] (n * 1)).toList = _
    have e2 : numL n [] = List.replicate n 0 := by
      refine List.ext_getElem? (fun i => ?_)
      by_cases hi : i < n
      · rw [numL_at hi, List.getElem?_replicate, if_pos hi, if_neg (by simp)]
      · rw [List.getElem?_eq_none (by rw [numL_len]; omega), List.getElem?_eq_none (by rw [List.length_replicate]; omega)]
    rw [toList_madeCells_one, e2, List.map_replicate, Nat.mul_one]
  rwa [e] at h

section
variable {w : World} {T : List Tw1} {l : List (Int × Int)} {ra na : Option Addr} {rc nc : Nat}

set_option maxRecDepth 100000 in
set_option maxHeartbeats 8000000 in
theorem told_any (hl : Lp w ra l) (hnd : ∀ i, i < T.length → ∃ b o fa fc, na = some ⟨b, o, none⟩ ∧ b < w.heap.size ∧ w.cell? ⟨b, o + i * 2, none⟩ = some (.int .i64 (T.getD i t0).1) ∧ w.cell? ⟨b, o + i * 2 + 1, none⟩ = some (.slice fa (T.getD i t0).2.1.length fc) ∧ Lp w fa (T.getD i t0).2.1) (hm : l.length ≤ 100000) (hw : Wvw T []) (hal : ∀ i, i < T.length → Alv T i) (hv : ∀ v ∈ l, Vq T v) :
    Calls Try.prog 14 #[.agg #[.slice ra l.length rc, .slice na T.length nc]] w fun e w' => ∃ r2 d2 na nn nc, e = .returned (.agg #[.slice r2 l.length d2, .slice na nn nc]) ∧ LpN w' w.heap.size r2 (Vr4.vwW T [] l).1 ∧ LnN w' w.heap.size na (Vr4.vwW T [] l).2.2 ∧ nn = (Vr4.vwW T [] l).2.2.length ∧ Below w.heap.size w w' := by
  obtain ⟨w0, e0⟩ : ∃ w0, w0 = (w.alloc (.cells #[.slice ra l.length rc, .slice na T.length nc] 35)).alloc (.cells #[.slice none 0 0, .slice none 0 0] 35) := ⟨_, rfl⟩
  have b0 : Below w.heap.size w w0 := by rw [e0]; exact ((Below.refl w.heap.size w).alloc (Nat.le_refl _) _).alloc (by simp) _
  have s0 : w0.heap.size = w.heap.size + 1 + 1 := by rw [e0]; simp
  have k0 : w0.heap[w.heap.size]? = some (.cells #[.slice ra l.length rc, .slice na T.length nc] 35 (0, 0)) := by rw [e0]; exact (Below.heap_alloc _ _ _ (by simp)).trans (heap_alloc_new w _)
  have k1 : w0.heap[w.heap.size + 1]? = some (.cells #[.slice none 0 0, .slice none 0 0] 35 (0, 0)) := by rw [e0]; exact alloc_snd _ _ _
  have hR : Rt w0 w.heap.size na nc T := ⟨by simp [World.cell?, k0], fun i hi => by
    obtain ⟨b, o, fa, fc, e, lb, x1, x2, hL⟩ := hnd i hi
    exact ⟨b, o, fa, fc, e, Nat.lt_of_lt_of_le lb b0.size, (b0.cell (p := ⟨b, o + i * 2, none⟩) lb).trans x1, (b0.cell (p := ⟨b, o + i * 2 + 1, none⟩) lb).trans x2, hL.below b0⟩⟩
  have HLR : Hid (Lp w0 ra l) := hl.below b0
  have HIA : Hid (∀ mb vb fb, Valt w0 mb w.heap.size vb fb T (met (tI T.length) (kdW T) (shW T []) T.length) T.length) := fun mb vb fb => valt_all hR hw hal _
  have HM : Hid (Vmet (tI T.length) (kdW T) (shW T []) T.length (met (tI T.length) (kdW T) (shW T []) T.length)) := met_go _
  have HE : Hid (Vr4.vwW T [] l = vls (met (tI T.length) (kdW T) (shW T []) T.length) (tI T.length) ([], []) (l.map wI)) := rfl
  have HV : Hid (∀ v ∈ l, Vq T v) := hv
  have HW : Hid (Wvw T []) := hw
  have htl := hw.l1
  generalize Vr4.vwW T [] l = RR at *
  generalize met (tI T.length) (kdW T) (shW T []) T.length = M at *
  have HG : Hid (∀ l, Vgo (tI T.length) (kdW T) (shW T []) ([], []) (vls M (tI T.length) ([], []) l).2 (vls M (tI T.length) ([], []) l).1) := fun l => vls_go HM.out (VOk.start _) (by rw [tI_len]; simp) l
  have HBX : Hid (w0.cell? ⟨w.heap.size, 0, none⟩ = some (.slice ra l.length rc)) := by show _ = _; simp [World.cell?, k0]
  have HRB : Hid (w0.heap[w.heap.size + 1]? = some (.cells #[.slice none 0 0, .slice none 0 0] 35 (0, 0))) := k1
  have HBB : Hid (w.heap.size < w0.heap.size ∧ w.heap.size + 1 < w0.heap.size) := ⟨by omega, by omega⟩
  have HSZ : Hid (w.heap.size ≤ w0.heap.size ∧ Below w.heap.size w w0) := ⟨by omega, b0⟩
  have HS0 : Hid (w0.heap.size = w.heap.size + 1 + 1) := s0
  have cx1 : (w0.alloc (.cells #[.slice none 0 0, .slice none 0 0] 35)).cell? ⟨w.heap.size, 1, none⟩ = some (.slice na T.length nc) := by
    have := (((Below.refl w0.heap.size w0).alloc (Nat.le_refl _) (.cells #[.slice none 0 0, .slice none 0 0] 35)).block w.heap.size (by omega)).trans k0
    simp [World.cell?, this]
  obtain ⟨ie, hie, hze0, hze1, hze2⟩ := info_parts infoVal
  obtain ⟨i0, hi0, hz0, hz1, hz2⟩ := info_parts infoInt
  clear hnd hl hv hw hal hR k0 k1 b0
  go_enter Try.func14, Try.ntmps14
  go_upto_region 2 with fail
  rw [show (w.alloc (.cells #[.slice ra l.length rc, .slice na T.length nc] 35)).alloc (.cells #[.slice none 0 0, .slice none 0 0] 35) = w0 from e0.symm]
  clear e0
  go_wp2_with (at_make; refine wpList_make_full _ rfl _ _ 82 rfl w0.heap.size 3 i0 (.int .i64 0) 1 Try.underlying82 hi0 hz0 hz1 .i64 .i64 _ _ T.length rfl rfl (by omega) (by omega) (by rw [hz2]; omega) (by unfold maxLen; omega) (by simp) ?_; intro w1 hown hgrow)
  have hown := made_rowI hown
  have sa : (w0.alloc (.cells #[.slice none 0 0, .slice none 0 0] 35)).heap.size = w.heap.size + 1 + 1 + 1 := by rw [World.size_alloc, s0]
  rw [sa] at hown
  have b01 : Below w0.heap.size w0 w1 := ((Below.refl w0.heap.size w0).alloc (Nat.le_refl _) (.cells #[.slice none 0 0, .slice none 0 0] 35)).grown hgrow (by simp) (fun _ h => by cases h)
  have ko : w1.heap[w.heap.size + 1 + 1]? = some (.cells #[.slice none 0 0, .slice none 0 0] 35 (0, 0)) := (hgrow.block (w.heap.size + 1 + 1) (by rw [sa]; omega) (by simp)).trans (by
    have := heap_alloc_new w0 (.cells #[.slice none 0 0, .slice none 0 0] 35)
    rw [s0] at this
    exact this)
  have bb3 := ((Below.refl w1.heap.size w1).alloc (Nat.le_refl _) (.cells #[.slice (some ⟨w.heap.size + 1 + 1 + 1, 0, none⟩) T.length T.length] 82)).alloc (by simp) (.cells #[fnT w1.heap.size w.heap.size (w.heap.size + 1 + 1) (w1.heap.size + 1)] 83)
  have hmc : ((w1.alloc (.cells #[.slice (some ⟨w.heap.size + 1 + 1 + 1, 0, none⟩) T.length T.length] 82)).alloc (.cells #[fnT w1.heap.size w.heap.size (w.heap.size + 1 + 1) (w1.heap.size + 1)] 83)).heap[w1.heap.size]? = some (.cells #[.slice (some ⟨w.heap.size + 1 + 1 + 1, 0, none⟩) T.length T.length] 82 (0, 0)) := (Below.heap_alloc _ _ _ (by simp)).trans (heap_alloc_new w1 _)
  have hfc : ((w1.alloc (.cells #[.slice (some ⟨w.heap.size + 1 + 1 + 1, 0, none⟩) T.length T.length] 82)).alloc (.cells #[fnT w1.heap.size w.heap.size (w.heap.size + 1 + 1) (w1.heap.size + 1)] 83)).heap[w1.heap.size + 1]? = some (.cells #[fnT w1.heap.size w.heap.size (w.heap.size + 1 + 1) (w1.heap.size + 1)] 83 (0, 0)) := alloc_snd _ _ _
  have hz01 := b01.size
  have HST : Hid (Lt T.length w0 ((w1.alloc (.cells #[.slice (some ⟨w.heap.size + 1 + 1 + 1, 0, none⟩) T.length T.length] 82)).alloc (.cells #[fnT w1.heap.size w.heap.size (w.heap.size + 1 + 1) (w1.heap.size + 1)] 83)) ((w1.alloc (.cells #[.slice (some ⟨w.heap.size + 1 + 1 + 1, 0, none⟩) T.length T.length] 82)).alloc (.cells #[fnT w1.heap.size w.heap.size (w.heap.size + 1 + 1) (w1.heap.size + 1)] 83)) w1.heap.size w.heap.size (w.heap.size + 1 + 1) (w1.heap.size + 1) (.slice none 0 0) [] ([], ([], [])) none 0 (.slice (some ⟨w.heap.size + 1 + 1 + 1, 0, none⟩) T.length T.length) (.slice none 0 0) []) :=
    Lt.start (P := ([], ([], []))) ⟨b01.trans (bb3.mono hz01), ⟨hz01, by omega, by omega⟩, hfc, hmc, (bb3.block _ (lt_of_some ko)).trans ko, row_keep hown (fun k e => bb3.block k (row_lt hown k e).2), World.ownsRow_nil _ _ _ _, rfl, by simp⟩ rfl
  have HI : Hid (Valt w0 w1.heap.size w.heap.size (w.heap.size + 1 + 1) (w1.heap.size + 1) T M T.length) := HIA.out _ _ _
  have nrv : w.heap.size + 1 ≠ w.heap.size + 1 + 1 := by omega
  clear hown hgrow sa b01 ko bb3 hmc hfc hz01 HIA cx1 s0
  generalize ((w1.alloc (.cells #[.slice (some ⟨w.heap.size + 1 + 1 + 1, 0, none⟩) T.length T.length] 82)).alloc (.cells #[fnT w1.heap.size w.heap.size (w.heap.size + 1 + 1) (w1.heap.size + 1)] 83)) = w3 at *
  generalize w1.heap.size + 1 = fb at *
  generalize w1.heap.size = mb at *
  generalize w.heap.size + 1 + 1 + 1 = gb at *
  generalize hvb : w.heap.size + 1 + 1 = vb at *
  generalize hrb : w.heap.size + 1 = rb at *
  generalize hbb : w.heap.size = bb at *
  go_loopw [6] (fun iv wr => ∃ (j : Nat) (P' : List (Int × Int) × Vst) (la' : Option Addr) (lc' : Nat) (va' vn' : Value) (m' : List Vnd), j ≤ l.length ∧ iv = .int .i64 j ∧ Hid (P' = vls M (tI T.length) ([], []) ((l.take j).map wI)) ∧ Hid (Lt T.length w0 w3 wr mb bb vb fb (.slice la' P'.1.length lc') [] P' la' lc' va' vn' m')) (fun iv _ => l.length - (intOf iv).toNat)
  case atStart => exact ⟨0, ([], ([], [])), none, 0, _, _, [], Nat.zero_le _, rfl, by show _ = _; rw [List.take_zero]; rfl, HST.out⟩
  case round =>
    obtain ⟨j, P', la', lc', va', vn', m', hj, rfl, HP, HL⟩ := hrel
    have HLO : Hid (∀ w', Below w0.heap.size w0 w' → w'.cell? ⟨bb, 0, none⟩ = some (.slice ra l.length rc)) := fun w' hb => (hb.cell (p := ⟨bb, 0, none⟩) HBB.out.1).trans HBX.out
    have t1 := HLO.out wr HL.out.wv.bel
    have q0 : (0 : Int) ≤ (j : Int) := by omega
    by_cases hlt : j < l.length
    · have q1 : (j : Int) < (l.length : Int) := by omega
      obtain ⟨fb9, fo9, rfl, lfb, hfc⟩ := HLR.out (by omega)
      have hmem : l.getD j (0, 0) ∈ l := getD_in hlt
      have hvq := HV.out _ hmem
      obtain ⟨eg, et, hen⟩ : ∃ eg et, l.getD j (0, 0) = (eg, et) := ⟨_, _, rfl⟩
      have HFC : Hid (∀ w', Below w0.heap.size w0 w' → w'.cell? ⟨fb9, fo9 + j * 2, none⟩ = some (.int .i64 eg) ∧ w'.cell? ⟨fb9, fo9 + j * 2 + 1, none⟩ = some (.int .i64 et)) := fun w' hb => by
        obtain ⟨p0, p1⟩ := hfc j hlt
        rw [hen] at p0 p1
        exact ⟨(hb.cell (p := ⟨fb9, fo9 + j * 2, none⟩) lfb).trans p0, (hb.cell (p := ⟨fb9, fo9 + j * 2 + 1, none⟩) lfb).trans p1⟩
      have HFN : Hid ((l.take (j + 1)).map wI = (l.take j).map wI ++ [wI (eg, et)]) := by
        show _ = _
        rw [take_snoc l j hlt (0, 0), List.map_append, hen]
        rfl
      rw [hen] at hvq
      have hgo := HG.out ((l.take j).map wI)
      rw [← HP.out] at hgo
      have HPC : Hid (∀ W : World, Lt T.length w0 w3 W mb bb vb fb (.slice la' P'.1.length lc') [] P' la' lc' va' vn' m' → Calls Try.prog 33 (tolA eg et mb bb vb fb) W fun e w' => ∃ va5 vn5 m5, e = .returned (.agg #[.int .i64 (vst M (tI T.length) P'.2 (wI (eg, et))).1.1, .int .i64 (vst M (tI T.length) P'.2 (wI (eg, et))).1.2]) ∧ Lt T.length w0 w3 w' mb bb vb fb (.slice la' P'.1.length lc') [] (P'.1, (vst M (tI T.length) P'.2 (wI (eg, et))).2) la' lc' va5 vn5 m5 ∧ Kx w0 W m' w' m5) := fun W hL => by
        refine (HI.out W P'.2 va' vn' (.slice la' P'.1.length lc') m' (eg, et) hL.wv hgo.ok hvq (by omega)).mono ?_
        rintro e w5 ⟨va5, vn5, m5, rfl, hW5, hK5⟩
        exact ⟨va5, vn5, m5, rfl, hL.call hW5 hK5, hK5⟩
      have HN2 : Hid ((P'.1 ++ [(vst M (tI T.length) P'.2 (wI (eg, et))).1], (vst M (tI T.length) P'.2 (wI (eg, et))).2) = vls M (tI T.length) ([], []) ((l.take (j + 1)).map wI)) := by
        show _ = _
        rw [HFN.out, vls_snoc, ← HP.out]
      have hPl : P'.1.length ≤ 100000 := by
        rw [HP.out, vls_len, List.length_map, List.length_take]
        omega
      have u1 := HL.out.wv.cells.2.2.1
      obtain ⟨u2, u3⟩ := HFC.out wr HL.out.wv.bel
      generalize vst M (tI T.length) P'.2 (wI (eg, et)) = V at *
      obtain ⟨⟨v1, v2⟩, sB⟩ := V
      dsimp only at HPC HN2
      have HL1 := HL.out
      have n1 : wr.heap.size ≠ fb := by have : fb < wr.heap.size := World.block_lt_of_cell? wr _ u1; omega
      have n2 : wr.heap.size ≠ fb9 := by have : fb9 < wr.heap.size := World.block_lt_of_cell? wr _ u2; omega
      have n3 : wr.heap.size ≠ bb := by have : bb < wr.heap.size := World.block_lt_of_cell? wr _ t1; omega
      clear HFN HP hfc hmem hgo hvq HL hen
      go_wp2_with fail
      generalize hWW : wr = W at *
      clear hWW
      have PC := HPC.out W.drew (HL1.below (Below.refl _ W).drew)
      have PD := HPC.out (W.alloc (.cells #[.int .i64 0, .int .i64 0] 41)).drew (HL1.below ((Below.refl _ W).alloc (Nat.le_refl _) _).drew)
      have HL1 : Hid (Lt T.length w0 w3 W mb bb vb fb (.slice la' P'.1.length lc') [] P' la' lc' va' vn' m') := HL1
      clear HPC
      go_region_held3 (fun w' => w'.cell? ⟨fb, 0, none⟩ = some (fnT mb bb vb fb) ∧ w'.cell? ⟨bb, 0, none⟩ = some (.slice (some ⟨fb9, fo9, none⟩) l.length rc) ∧ w'.cell? ⟨fb9, fo9 + j * 2, none⟩ = some (.int .i64 eg) ∧ w'.cell? ⟨fb9, fo9 + j * 2 + 1, none⟩ = some (.int .i64 et)) (go_keep) (first | (go_at_call 33; refine PC.mono ?_; clear PC PD; rintro e w5 ⟨va5, vn5, m5, rfl, hL5, _⟩; have HL5 : Hid (Lt T.length w0 w3 w5 mb bb vb fb (.slice la' P'.1.length lc') [] (P'.1, sB) la' lc' va5 vn5 m5) := hL5; obtain ⟨b1, b2⟩ := HFC.out w5 hL5.wv.bel; have b4 := hL5.wv.cells.2.2.1; have b5 := HLO.out w5 hL5.wv.bel; clear hL5) | (go_at_call 33; refine PD.mono ?_; clear PC PD; rintro e w5 ⟨va5, vn5, m5, rfl, hL5, hK5⟩; have hla := HL1.out.late hL5 (show Kx w0 (W.alloc (.cells #[.int .i64 0, .int .i64 0] 41)) m' w5 m5 from (Kx.of (Below.refl _ _).drew).trans hK5) v1 v2; have HL6 : Hid (Lt T.length w0 w3 ((w5.setCell ⟨W.heap.size, 0, none⟩ (.int .i64 v1)).setCell ⟨W.heap.size, 1, none⟩ (.int .i64 v2)) mb bb vb fb (.slice la' P'.1.length lc') [] (P'.1, sB) la' lc' va5 vn5 m5 ∧ w5.heap[W.heap.size]? = some (.cells #[.int .i64 0, .int .i64 0] 41 (0, 0))) := ⟨hla.2, hla.1⟩; have c0 : w5.cell? ⟨W.heap.size, 0, none⟩ = some (.int .i64 0) := (by simp [World.cell?, hla.1]); have c1 : w5.cell? ⟨W.heap.size, 1, none⟩ = some (.int .i64 0) := (by simp [World.cell?, hla.1]); have c2 : w5.frozen? ⟨W.heap.size, 0, none⟩ = false := (by simp [World.frozen?, hla.1]); have c4 : w5.frozen? ⟨W.heap.size, 1, none⟩ = false := (by simp [World.frozen?, hla.1]); obtain ⟨b1, b2⟩ := HFC.out w5 hL5.wv.bel; have b4 := hL5.wv.cells.2.2.1; have b5 := HLO.out w5 hL5.wv.bel; clear hL5 hla hK5))
      all_goals
        first
        | (have HY : Hid (Lt T.length w0 w3 (w5.alloc (.cells #[.int .i64 v1, .int .i64 v2] 41)) mb bb vb fb (.slice la' P'.1.length lc') [] (P'.1, sB) la' lc' va5 vn5 m5 ∧ (w5.alloc (.cells #[.int .i64 v1, .int .i64 v2] 41)).cell? ⟨w5.heap.size, 0, none⟩ = some (.int .i64 v1) ∧ (w5.alloc (.cells #[.int .i64 v1, .int .i64 v2] 41)).cell? ⟨w5.heap.size, 1, none⟩ = some (.int .i64 v2)) := ⟨HL5.out.below ((Below.refl _ w5).alloc (Nat.le_refl _) _), by have hh := heap_alloc_new w5 (.cells #[.int .i64 v1, .int .i64 v2] 41); unfold World.cell?; dsimp only; rw [hh]; rfl, by have hh := heap_alloc_new w5 (.cells #[.int .i64 v1, .int .i64 v2] 41); unfold World.cell?; dsimp only; rw [hh]; rfl⟩
           clear HL5 b1 b2 b4 b5
           generalize w5.alloc (.cells #[.int .i64 v1, .int .i64 v2] 41) = w6 at *
           generalize w5.heap.size = yb at *)
        | (have HY : Hid (Lt T.length w0 w3 ((w5.setCell ⟨W.heap.size, 0, none⟩ (.int .i64 v1)).setCell ⟨W.heap.size, 1, none⟩ (.int .i64 v2)) mb bb vb fb (.slice la' P'.1.length lc') [] (P'.1, sB) la' lc' va5 vn5 m5 ∧ ((w5.setCell ⟨W.heap.size, 0, none⟩ (.int .i64 v1)).setCell ⟨W.heap.size, 1, none⟩ (.int .i64 v2)).cell? ⟨W.heap.size, 0, none⟩ = some (.int .i64 v1) ∧ ((w5.setCell ⟨W.heap.size, 0, none⟩ (.int .i64 v1)).setCell ⟨W.heap.size, 1, none⟩ (.int .i64 v2)).cell? ⟨W.heap.size, 1, none⟩ = some (.int .i64 v2)) := ⟨HL6.out.1, by rw [World.cell?_setCell_other _ _ _ _ (by simp)]; exact World.cell?_setCell_same _ _ _ (u := .int .i64 0) c0, World.cell?_setCell_same _ _ _ (u := .int .i64 0) ((World.cell?_setCell_other _ _ _ _ (by simp)).trans c1)⟩
           clear HL6 b1 b2 b4 b5 c0 c1 c2 c4
           generalize (w5.setCell ⟨W.heap.size, 0, none⟩ (.int .i64 v1)).setCell ⟨W.heap.size, 1, none⟩ (.int .i64 v2) = w6 at *
           clear u1 u2 u3 n1 n2 n3 t1 HL1
           generalize W.heap.size = yb at *)
      all_goals
        have k1 := HY.out.2.1
        have k2 := HY.out.2.2
        have k3 := HY.out.1.wv.cells.2.2.2.2.2.2.2.2
        have lvb : vb < w6.heap.size := World.block_lt_of_cell? w6 _ k3
        have HBS : Hid (Below w6.heap.size w6 (w6.alloc (.cells #[.int .i64 v1, .int .i64 v2] 41))) := (Below.refl w6.heap.size w6).alloc (Nat.le_refl _) _
        have HSC : Hid (∀ a, (some ⟨w6.heap.size, 0, none⟩ : Option Addr) = some a → ∀ k u, (ev [(v1, v2)])[k]? = some u → (w6.alloc (.cells #[.int .i64 v1, .int .i64 v2] 41)).cell? (a.add k) = some u) := val_src v1 v2
        have rx2 := row_keep HY.out.1.row (fun k e => HBS.out.block k (row_lt HY.out.1.row k e).2)
        dsimp only at rx2
        have hsz : Hid (w3.heap.size ≤ w6.heap.size) := HY.out.1.kx.1.size
        go_upto_region 7 with (at_builtin; refine wpList_append_src _ rfl _ _ 32 rfl w3.heap.size 41 ie (.agg #[.int .i64 0, .int .i64 0]) 2 16 Try.underlying32 hie hze0 hze1 hze2 rfl (by decide) (.slice la' P'.1.length lc') P'.1.length (ev P'.1) rfl rx2 (some ⟨w6.heap.size, 0, none⟩) 1 1 (ev [(v1, v2)]) rfl rfl (fun e => by cases e) HSC.out (ev_one _) (by unfold maxLen; omega) (by omega) (by have := hsz.out; simp; omega) ?_; intro ra' rc' w10 hown10 hgrow10 hnb10; have HB9 : Hid (Lt T.length w0 w3 w10 mb bb vb fb (.slice la' P'.1.length lc') [] (P'.1 ++ [(v1, v2)], sB) ra' rc' va5 vn5 m5) := (HY.out.1.push HBS.out hgrow10 hown10 hnb10); have HB10 : Hid (Lt T.length w0 w3 (w10.setCell ⟨vb, 0, none⟩ (.slice ra' (P'.1.length + 1) rc')) mb bb vb fb (.slice ra' (P'.1.length + 1) rc') [] (P'.1 ++ [(v1, v2)], sB) ra' rc' va5 vn5 m5 ∧ w10.heap[vb]? = some (.cells #[.slice la' P'.1.length lc', vn5] 35 (0, 0))) := (lt_rooted HB9.out _); have s0 : w10.cell? ⟨vb, 0, none⟩ = some (.slice la' P'.1.length lc') := (by simp [World.cell?, HB10.out.2]); have s1 : w10.frozen? ⟨vb, 0, none⟩ = false := (by simp [World.frozen?, HB10.out.2]))
        clear hown10 hgrow10 hnb10 rx2
        go_wp2_with fail
        go_roundw
        case rel => exact ⟨j + 1, (P'.1 ++ [(v1, v2)], sB), ra', rc', va5, vn5, m5, by omega, by go_num, HN2, by rw [show (P'.1 ++ [(v1, v2)], sB).1.length = P'.1.length + 1 by simp]; exact HB10.out.1⟩
        case measure => simp [intOf]; omega
    · obtain rfl : j = l.length := by omega
      have HPE : Hid (P' = RR) := by
        have h1 := HP.out
        rw [List.take_length] at h1
        exact h1.trans HE.out.symm
      have hPl : P'.1.length = l.length := by rw [HP.out, vls_len, List.length_map, List.length_take]; simp
      obtain ⟨na, nc, e2⟩ := row_slice HL.out.wv.nr
      subst e2
      have z1 := HL.out.wv.cells.2.1
      have z0 := HL.out.wv.cells.2.2.2.2.2.2.2.2
      have hr3 := (HL.out.wv.bel.block rb HBB.out.2).trans HRB.out
      have y0 : wr.cell? ⟨rb, 0, none⟩ = some (.slice none 0 0) := by simp [World.cell?, hr3]
      have y1 : wr.cell? ⟨rb, 1, none⟩ = some (.slice none 0 0) := by simp [World.cell?, hr3]
      have f0 : wr.frozen? ⟨rb, 0, none⟩ = false := by simp [World.frozen?, hr3]
      have f1 : wr.frozen? ⟨rb, 1, none⟩ = false := by simp [World.frozen?, hr3]
      have HR3 : Hid (_ = _) := hr3
      clear hr3 HP
      go_wp2_with fail
      obtain ⟨W0, hW0⟩ : ∃ W0, W0 = (wr.setCell ⟨rb, 0, none⟩ (.slice la' l.length lc')).setCell ⟨rb, 1, none⟩ (.slice na m'.length nc) := ⟨_, rfl⟩
      rw [← hW0]
      have g0 : W0.cell? ⟨rb, 0, none⟩ = some (.slice la' l.length lc') := by
        rw [hW0, World.cell?_setCell_other _ _ _ _ (by simp)]
        exact World.cell?_setCell_same _ _ _ y0
      have g1 : W0.cell? ⟨rb, 1, none⟩ = some (.slice na m'.length nc) := by
        rw [hW0]
        exact World.cell?_setCell_same _ _ _ ((World.cell?_setCell_other wr ⟨rb, 0, none⟩ ⟨rb, 1, none⟩ _ (by simp)).trans y1)
      have hF : Fr (fun k => k = rb) wr W0 := by rw [hW0]; exact ((Fr.refl (fun k => k = rb) wr).set rb 0 _ rfl).set rb 1 _ rfl
      clear hW0
      have hW2 := HL.out.wv
      have hr2 := HL.out.row
      have hsw : w.heap.size ≤ w3.heap.size := Nat.le_trans (by have := HSZ.out.1; omega) HL.out.hs
      have eL : ∀ {ad : Option Addr} {L : List (Int × Int)}, Lv wr ad L → Lp W0 ad L := fun {ad L} h => h.1.keep hF.size (fun hp b e => by
        obtain ⟨b0, o0, cs, e0, hb⟩ := h.2 hp
        rw [e0] at e
        cases e
        refine hF.block _ (lt_of_some hb) (fun c => ?_)
        have c : b0 = rb := c
        rw [c, HR3.out] at hb
        simp at hb)
      have hbl : Below w.heap.size w W0 := by
        rw [hbb]
        refine (HSZ.out.2.trans (hW2.bel.mono HSZ.out.1)).trans (hF.below ?_ (fun k e => ?_))
        · exact Nat.le_trans HSZ.out.1 hW2.bel.size
        · have e : k = rb := e
          omega
      rw [← HPE.out]
      refine bodyPost_ret (v := .agg #[.slice la' l.length lc', .slice na m'.length nc]) (by simp [results, Try.results14, go_sem, g0, g1]) rfl ⟨la', lc', na, m'.length, nc, rfl, ⟨eL (Lv.of hr2), fun hp => ?_⟩, ⟨m', hW2.nd, fun x hx => eL (hW2.fl x hx), fun k hk => ?_, fun hp => ?_⟩, hW2.len, hbl⟩
      · obtain ⟨b, cap, e⟩ := row_shape hr2 hp
        cases e
        exact ⟨b, 0, rfl, Nat.le_trans hsw (row_lt hr2 b rfl).1⟩
      · rcases HL.out.kx.2 k hk with ⟨x, hx, _⟩ | d
        · cases hx
        · exact Nat.le_trans hsw d
      · obtain ⟨b, cap, e⟩ := row_shape hW2.nr hp
        cases e
        have hbs := (row_lt hW2.nr b rfl).1
        obtain ⟨cur, hcur⟩ := row_type hW2.nr b rfl
        have hne : b ≠ rb := fun c => by
          rw [c, HR3.out] at hcur
          simp at hcur
        refine ⟨b, 0, rfl, by have := HSZ.out.1; omega, Nat.lt_of_lt_of_le (lt_of_some hcur) hF.size, fun i x hx => ?_⟩
        obtain ⟨n1, n2⟩ := nv_get m' i x hx
        rw [Nat.zero_add]
        exact ⟨(World.cell?_of_block (a := ⟨b, i * 2, none⟩) (hF.block b (lt_of_some hcur) hne)).trans (row_cell hW2.nr n1).1, (World.cell?_of_block (a := ⟨b, i * 2 + 1, none⟩) (hF.block b (lt_of_some hcur) hne)).trans (row_cell hW2.nr n2).1⟩
end

end Go.Proofs.Ytjhnhbeimjnloaa.Tld

/- Size of a view: a contract. -/
namespace Go.Proofs.Ytjhnhbeimjnloaa
open Go.RowKit W Kp Stl

set_option maxRecDepth 100000 in
set_option maxHeartbeats 1000000 in
theorem size_any {ns : List (Int × List (Int × Int))} (r na : Option Addr) (rl rc nc : Nat) (w : World) (hl : ns.length ≤ 100000) (hf : ∀ nd ∈ ns, nd.2.length ≤ 1000) (h : Ln w na ns) :
    Calls Try.prog 15 #[.agg #[.slice r rl rc, .slice na ns.length nc]] w fun e w' => e = .returned (.int .i64 (szV ns)) ∧ Below w.heap.size w w' := by
  have hb0 := (Below.refl w.heap.size w).alloc (Nat.le_refl _) (.cells #[.slice r rl rc, .slice na ns.length nc] 35)
  have hx0 := heap_alloc_new w (.cells #[.slice r rl rc, .slice na ns.length nc] 35)
  have HL : Hid (Ln (w.alloc (.cells #[.slice r rl rc, .slice na ns.length nc] 35)) na ns) := h.below hb0
  have HF : Hid (∀ nd ∈ ns, nd.2.length ≤ 1000) := hf
  clear h hf
  go_enter Try.func15, Try.ntmps15
  go_wp2_with fail
  have HB0 : Hid (Below w.heap.size w (w.alloc (.cells #[.slice r rl rc, .slice na ns.length nc] 35))) := hb0
  clear hb0
  generalize w.alloc (.cells #[.slice r rl rc, .slice na ns.length nc] 35) = w1 at *
  obtain ⟨B, hB⟩ : ∃ B, w.heap.size = B := ⟨_, rfl⟩
  rw [hB] at hx0 ⊢
  have z1 : w1.cell? ⟨B, 1, none⟩ = some (.slice na ns.length nc) := by simp [World.cell?, hx0]
  clear hx0
  go_loopw [3, 4] (fun nv iv wr => ∃ i : Nat, i ≤ ns.length ∧ iv = .int .i64 i ∧ nv = .int .i64 (szV (ns.take i)) ∧ wr = w1) (fun _ iv _ => ns.length - (intOf iv).toNat)
  case atStart => exact ⟨0, Nat.zero_le _, rfl, rfl, rfl⟩
  case round =>
    obtain ⟨i, hi, rfl, rfl, rfl⟩ := hrel
    by_cases hlt : i < ns.length
    · obtain ⟨b, oo, fa, fc, e, lb, x1, x2, _⟩ := HL.out.at hlt
      subst e
      have hs := szV_snoc ns i hlt
      have hle := szV_le (ns.take i) (fun nd hnd => HF.out nd (List.mem_of_mem_take hnd))
      rw [List.length_take] at hle
      have hfl : (ns.getD i (0, [])).2.length ≤ 1000 := HF.out _ (by rw [List.getD_eq_getElem?_getD, List.getElem?_eq_getElem hlt]; exact List.getElem_mem hlt)
      have hle2 : szV (ns.take i) ≤ 200000000 := by omega
      have i0 : (0 : Int) ≤ (i : Int) := by omega
      have i1 : (i : Int) < (ns.length : Int) := by omega
      generalize szV (ns.take i) = z at *
      generalize (ns.getD i (0, [])).1 = kk at *
      generalize (ns.getD i (0, [])).2.length = ff at *
      clear hle
      by_cases h5 : kk = 5
      · subst h5
        rw [if_pos rfl] at hs
        have HZ : Hid (szV (ns.take (i + 1)) = z + (1 + 0)) := hs
        clear hs
        go_wp2_with fail
        go_roundw
        case rel => exact ⟨i + 1, by omega, by go_num, by rw [HZ.out]; go_num, trivial⟩
        case measure => simp [intOf]; omega
      · rw [if_neg h5] at hs
        have HZ : Hid (szV (ns.take (i + 1)) = z + (1 + ff)) := hs
        clear hs
        go_wp2_with fail
        go_roundw
        case rel => exact ⟨i + 1, by omega, by go_num, by rw [HZ.out]; go_num, trivial⟩
        case measure => simp [intOf]; omega
    · obtain rfl : i = ns.length := by omega
      rw [List.take_length]
      go_wp2_with fail
      go_ret
      exact ⟨rfl, HB0.out⟩

end Go.Proofs.Ytjhnhbeimjnloaa
