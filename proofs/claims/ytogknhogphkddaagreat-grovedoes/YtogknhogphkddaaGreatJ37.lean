/- Joined: Vr7, Gw3. -/
import Derived.Test.YtogknhogphkddaaGreatVr6
import Derived.Laws.EntriesVeiled
import Derived.Test.YtogknhogphkddaaGreatJ26
import Derived.Deep.DeepCutAuto
/- The document's world: View: a contract. -/
namespace Go.Proofs.YtogknhogphkddaaGreat.Vr4
open Go.RowKit W Kp Stl

theorem vals_all {w0 : World} {mb bb vb fb rp : Nat} {T : List Tw1} {wt : List En} (hR : Rd w0 bb rp T wt) (hw : Wvw T wt) : ∀ n, Vals w0 mb bb vb fb T (met (tI T.length) (kdW T) (shW T wt) n) n := by
  intro n
  induction n with
  | zero =>
    intro w s va vn vr m v h hO hv hn
    have hl : s.1.length ≤ 100000 := by
      have h1 := hO.le
      rw [tI_len] at h1
      have := hw.l1
      omega
    by_cases h3 : v.1 = 3
    · cases hs : s.1.contains v.2
      · exfalso
        have h1 := hO.lt (tI_mem.2 (hv.lt h3)) (fun c => by rw [List.contains_iff_mem.2 c] at hs; cases hs)
        rw [tI_len] at h1
        omega
      · rw [vst_met hv h3 hs]
        have e : valA v.1 v.2 mb bb vb fb = valA 3 v.2 mb bb vb fb := by rw [h3]
        rw [e]
        refine (valueW_met h v.2 hl hs).mono ?_
        rintro e w' ⟨rfl, hb⟩
        exact ⟨_, _, m, rfl, h.below hb, Kx.of hb⟩
    · rw [vst_o hv h3]
      refine (valueW_o w v.1 v.2 h3).mono ?_
      rintro e w' ⟨rfl, hb⟩
      exact ⟨_, _, m, rfl, h.below hb, Kx.of hb⟩
  | succ n ih =>
    intro w s va vn vr m v h hO hv hn
    have hl : s.1.length ≤ 100000 := by
      have h1 := hO.le
      rw [tI_len] at h1
      have := hw.l1
      omega
    by_cases h3 : v.1 = 3
    · have e : valA v.1 v.2 mb bb vb fb = valA 3 v.2 mb bb vb fb := by rw [h3]
      rw [e]
      cases hs : s.1.contains v.2
      · rw [vst_new hv h3 hs]
        obtain ⟨g1, g2⟩ := hv.2 h3
        obtain ⟨a, ha⟩ := Int.eq_ofNat_of_zero_le g1
        rw [ha] at hs g2 ⊢
        rw [Int.toNat_natCast] at g2
        exact valueW_new h hR hw hO a g2 hs ih hn
      · rw [vst_met hv h3 hs]
        refine (valueW_met h v.2 hl hs).mono ?_
        rintro e w' ⟨rfl, hb⟩
        exact ⟨_, _, m, rfl, h.below hb, Kx.of hb⟩
    · rw [vst_o hv h3]
      refine (valueW_o w v.1 v.2 h3).mono ?_
      rintro e w' ⟨rfl, hb⟩
      exact ⟨_, _, m, rfl, h.below hb, Kx.of hb⟩

theorem wv_rooted {w0 w : World} {mb bb vb fb : Nat} {s : Vst} {va vn vr : Value} {m : List Vnd} (h : Wv w0 w mb bb vb fb s va vn vr m) (vr' : Value) : Wv w0 (w.setCell ⟨vb, 0, none⟩ vr') mb bb vb fb s va vn vr' m ∧ Kw w0.heap.size w (w.setCell ⟨vb, 0, none⟩ vr') := by
  have f2 : Fr (fun k => k = vb) w (w.setCell ⟨vb, 0, none⟩ vr') := (Fr.refl (fun k => k = vb) w).set vb _ _ rfl
  have hk : ∀ k cs e mm, w.heap[k]? = some (Obj.cells cs e mm) → e ≠ 41 → (w.setCell ⟨vb, 0, none⟩ vr').heap[k]? = w.heap[k]? := fun k cs e mm hk h2 => f2.block k (lt_of_some hk) (fun d => by
    have d : k = vb := d
    rw [d, h.vc] at hk
    simp at hk
    exact h2 hk.2.1.symm)
  have kw : Kw w0.heap.size w (w.setCell ⟨vb, 0, none⟩ vr') := Kw.fr f2 (fun k d => by
    have d : k = vb := d
    refine ⟨by rw [d]; exact h.lo.2.1, fun cs e mm hc => ?_⟩
    rw [d, h.vc] at hc
    simp at hc
    exact Or.inr (Or.inl hc.2.1.symm))
  refine ⟨⟨h.bel.trans (kw.below h.bel.size), h.lo, (hk _ _ _ _ h.fc (by decide)).trans h.fc, (hk _ _ _ _ h.mc (by decide)).trans h.mc, ?_, row_keep h.mr (fun k e1 => by
    obtain ⟨cs, hc⟩ := row_type h.mr k e1
    exact hk k _ _ _ hc (by decide)), row_keep h.nr (fun k e1 => by
    obtain ⟨cs, hc⟩ := row_type h.nr k e1
    exact hk k _ _ _ hc (by decide)), h.nd, fun x hx => (h.fl x hx).kw kw⟩, kw⟩
  simp only [World.setCell, Array.getElem?_modify, if_true, h.vc, Option.map_some]
  simp
theorem lr_rooted {w0 w3 wr : World} {mb bb vb fb : Nat} {vr va vn : Value} {m1 m' : List Vnd} {P : List (Int × Int) × Vst} {la : Option Addr} {lc : Nat} (h : Lr w0 w3 wr mb bb vb fb vr m1 P la lc va vn m') (vr' : Value) : Lr w0 w3 (wr.setCell ⟨vb, 0, none⟩ vr') mb bb vb fb vr' m1 P la lc va vn m' ∧ wr.heap[vb]? = some (.cells #[vr, vn] 41 (0, 0)) := by
  have h1 := wv_rooted h.wv vr'
  refine ⟨⟨h.hs, h1.1, h.kx.trans ⟨h1.2, fun _ d => Or.inl d⟩, row_keep h.row (fun k e => Below.heap_setCell _ _ _ _ (fun e' => ?_)), h.no⟩, h.wv.vc⟩
  obtain ⟨cs, hc⟩ := row_type h.row k e
  have e' : k = vb := by first | exact e' | exact e'.symm
  rw [e', h.wv.vc] at hc
  simp at hc


section
variable {w : World} {rp : Nat} {T : List Tw1} {wt : List En} {l : List (Int × Int)} {ra : Option Addr} {rc : Nat}

theorem view_start (hg : Wg w rp T wt) : ∃ w0 w3 : World, w0 = ((w.alloc (.cells #[.pointer (some ⟨rp, 0, none⟩)] 30)).alloc (.cells #[.slice none 0 0, .slice none 0 0] 41)) ∧ w3 = (((w0.alloc (.cells #[.slice none 0 0, .slice none 0 0] 41)).alloc (.cells #[.slice none 0 0] 68)).alloc (.cells #[(fnV (w.heap.size + 1 + 1 + 1) w.heap.size (w.heap.size + 1 + 1) (w.heap.size + 1 + 1 + 1 + 1))] 86)) ∧
    (Rd w0 w.heap.size rp T wt ∧ w0.heap.size = w.heap.size + 1 + 1 ∧ w0.heap[w.heap.size + 1]? = some (.cells #[.slice none 0 0, .slice none 0 0] 41 (0, 0)) ∧ Below w.heap.size w w0 ∧
    Lr w0 w3 w3 (w.heap.size + 1 + 1 + 1) w.heap.size (w.heap.size + 1 + 1) (w.heap.size + 1 + 1 + 1 + 1) (.slice none 0 0) [] ([], ([], [])) none 0 (.slice none 0 0) (.slice none 0 0) []) := by
  obtain ⟨w1, e1⟩ : ∃ w1, w1 = (w.alloc (.cells #[.pointer (some ⟨rp, 0, none⟩)] 30)) := ⟨_, rfl⟩
  obtain ⟨w0, e0⟩ : ∃ w0, w0 = w1.alloc (.cells #[.slice none 0 0, .slice none 0 0] 41) := ⟨_, rfl⟩
  obtain ⟨wa, ea⟩ : ∃ wa, wa = w0.alloc (.cells #[.slice none 0 0, .slice none 0 0] 41) := ⟨_, rfl⟩
  obtain ⟨wb, eb⟩ : ∃ wb, wb = wa.alloc (.cells #[.slice none 0 0] 68) := ⟨_, rfl⟩
  obtain ⟨wc, ec⟩ : ∃ wc, wc = wb.alloc (.cells #[(fnV (w.heap.size + 1 + 1 + 1) w.heap.size (w.heap.size + 1 + 1) (w.heap.size + 1 + 1 + 1 + 1))] 86) := ⟨_, rfl⟩
  have s1 : w1.heap.size = w.heap.size + 1 := by rw [e1]; simp
  have s0 : w0.heap.size = w.heap.size + 1 + 1 := by rw [e0]; simp [s1]
  have sa : wa.heap.size = w.heap.size + 1 + 1 + 1 := by rw [ea]; simp [s0]
  have sb : wb.heap.size = w.heap.size + 1 + 1 + 1 + 1 := by rw [eb]; simp [sa]
  have n1 : w1.heap[w.heap.size]? = some (.cells #[.pointer (some ⟨rp, 0, none⟩)] 30 (0, 0)) := by rw [e1]; exact heap_alloc_new w _
  have n0 : w0.heap[w1.heap.size]? = some (.cells #[.slice none 0 0, .slice none 0 0] 41 (0, 0)) := by rw [e0]; exact heap_alloc_new w1 _
  have na : wa.heap[w0.heap.size]? = some (.cells #[.slice none 0 0, .slice none 0 0] 41 (0, 0)) := by rw [ea]; exact heap_alloc_new w0 _
  have nb : wb.heap[wa.heap.size]? = some (.cells #[.slice none 0 0] 68 (0, 0)) := by rw [eb]; exact heap_alloc_new wa _
  have nc : wc.heap[wb.heap.size]? = some (.cells #[(fnV (w.heap.size + 1 + 1 + 1) w.heap.size (w.heap.size + 1 + 1) (w.heap.size + 1 + 1 + 1 + 1))] 86 (0, 0)) := by rw [ec]; exact heap_alloc_new wb _
  have b1 : Below w.heap.size w w1 := by rw [e1]; exact (Below.refl _ _).alloc (Nat.le_refl _) _
  have b0 : Below w1.heap.size w1 w0 := by rw [e0]; exact (Below.refl _ _).alloc (Nat.le_refl _) _
  have ba : Below w0.heap.size w0 wa := by rw [ea]; exact (Below.refl _ _).alloc (Nat.le_refl _) _
  have bb : Below wa.heap.size wa wb := by rw [eb]; exact (Below.refl _ _).alloc (Nat.le_refl _) _
  have bc : Below wb.heap.size wb wc := by rw [ec]; exact (Below.refl _ _).alloc (Nat.le_refl _) _
  have b3 : Below w0.heap.size w0 wc := (ba.trans (bb.mono ba.size)).trans (bc.mono (by omega))
  have hb0 := (b0.block w.heap.size (by omega)).trans n1
  refine ⟨w0, wc, by rw [e0, e1], by rw [ec, eb, ea], ⟨hg.below (b1.trans (b0.mono b1.size)), by simp [World.cell?, hb0]⟩, s0, by rw [← s1]; exact n0, b1.trans (b0.mono b1.size), Lr.start (P := ([], ([], []))) ⟨b3, ⟨by omega, by omega, by omega⟩, by rw [sb] at nc; exact nc, ?_, ?_, World.ownsRow_nil _ _ _ _, World.ownsRow_nil _ _ _ _, rfl, by simp⟩ rfl⟩
  · rw [← sa]; exact (bc.block _ (by omega)).trans nb
  · rw [← s0]; exact (bc.block _ (by omega)).trans ((bb.block _ (by omega)).trans na)

set_option maxRecDepth 100000 in
set_option maxHeartbeats 8000000 in
theorem vwW_any (hg : Wg w rp T wt) (c1 : w.cell? ⟨rp, 1, none⟩ = some (.slice ra l.length rc)) (hl : Lp w ra l) (hm : l.length ≤ 100000) (hw : Wvw T wt) (hv : ∀ v ∈ l, Vq T v) :
    Calls Tryz.prog 14 #[.pointer (some ⟨rp, 0, none⟩)] w fun e w' => ∃ r2 d2 na nn nc, e = .returned (.agg #[.slice r2 l.length d2, .slice na nn nc]) ∧ LpN w' w.heap.size r2 (vwW T wt l).1 ∧ LnN w' w.heap.size na (vwW T wt l).2.2 ∧ nn = (vwW T wt l).2.2.length ∧ Below w.heap.size w w' := by
  obtain ⟨w0, w3, e0, e3, HS⟩ := view_start (w := w) hg
  have HS : Hid (_) := HS
  have HLR : Hid (Lp w0 ra l) := hl.below HS.out.2.2.2.1
  have HC1 : Hid (w0.cell? ⟨rp, 1, none⟩ = some (.slice ra l.length rc)) := (HS.out.2.2.2.1.cell (p := ⟨rp, 1, none⟩) (World.block_lt_of_cell? w _ c1)).trans c1
  have HI : Hid (Vals w0 (w.heap.size + 1 + 1 + 1) w.heap.size (w.heap.size + 1 + 1) (w.heap.size + 1 + 1 + 1 + 1) T (met (tI T.length) (kdW T) (shW T wt) T.length) T.length) := vals_all HS.out.1 hw _
  have HM : Hid (Vmet (tI T.length) (kdW T) (shW T wt) T.length (met (tI T.length) (kdW T) (shW T wt) T.length)) := met_go _
  have HE : Hid (vwW T wt l = vls (met (tI T.length) (kdW T) (shW T wt) T.length) (tI T.length) ([], []) (l.map wI)) := rfl
  have HV : Hid (∀ v ∈ l, Vq T v) := hv
  have HW : Hid (Wvw T wt) := hw
  generalize vwW T wt l = RR at *
  generalize met (tI T.length) (kdW T) (shW T wt) T.length = M at *
  have HG : Hid (∀ l, Vgo (tI T.length) (kdW T) (shW T wt) ([], []) (vls M (tI T.length) ([], []) l).2 (vls M (tI T.length) ([], []) l).1) := fun l => vls_go HM.out (VOk.start _) (by rw [tI_len]; simp) l
  clear hg c1 hl hv hw
  go_enter Tryz.func14, Tryz.ntmps14
  go_wp2_with fail
  rw [show (((w.alloc (.cells #[.pointer (some ⟨rp, 0, none⟩)] 30))).alloc (.cells #[.slice none 0 0, .slice none 0 0] 41)) = w0 from e0.symm, show (((w0.alloc (.cells #[.slice none 0 0, .slice none 0 0] 41)).alloc (.cells #[.slice none 0 0] 68)).alloc (.cells #[(fnV (w.heap.size + 1 + 1 + 1) w.heap.size (w.heap.size + 1 + 1) (w.heap.size + 1 + 1 + 1 + 1))] 86)) = w3 from e3.symm]
  obtain ⟨ie, hie, hze0, hze1, hze2⟩ := info_parts infoVal
  have HBB : Hid (w.heap.size < w0.heap.size ∧ w.heap.size + 1 < w0.heap.size) := by have := HS.out.2.1; exact ⟨by omega, by omega⟩
  have HSZ : Hid (w.heap.size ≤ w0.heap.size ∧ Below w.heap.size w w0) := ⟨by have := HBB.out.1; omega, HS.out.2.2.2.1⟩
  have HBX : Hid (w0.cell? ⟨w.heap.size, 0, none⟩ = some (.pointer (some ⟨rp, 0, none⟩))) := HS.out.1.bx
  have HRB : Hid (w0.heap[w.heap.size + 1]? = some (.cells #[.slice none 0 0, .slice none 0 0] 41 (0, 0))) := HS.out.2.2.1
  have HST : Hid (Lr w0 w3 w3 (w.heap.size + 1 + 1 + 1) w.heap.size (w.heap.size + 1 + 1) (w.heap.size + 1 + 1 + 1 + 1) (.slice none 0 0) [] ([], ([], [])) none 0 (.slice none 0 0) (.slice none 0 0) []) := HS.out.2.2.2.2
  have nrv : w.heap.size + 1 ≠ w.heap.size + 1 + 1 := by omega
  clear HS e0 e3
  generalize hmb : w.heap.size + 1 + 1 + 1 = mb at *
  generalize hfb : mb + 1 = fb at *
  generalize hvb : w.heap.size + 1 + 1 = vb at *
  generalize hrb : w.heap.size + 1 = rb at *
  generalize hbb : w.heap.size = bb at *
  go_loopw [6] (fun iv wr => ∃ (j : Nat) (P' : List (Int × Int) × Vst) (la' : Option Addr) (lc' : Nat) (va' vn' : Value) (m' : List Vnd), j ≤ l.length ∧ iv = .int .i64 j ∧ Hid (P' = vls M (tI T.length) ([], []) ((l.take j).map wI)) ∧ Hid (Lr w0 w3 wr mb bb vb fb (.slice la' P'.1.length lc') [] P' la' lc' va' vn' m')) (fun iv _ => l.length - (intOf iv).toNat)
  case atStart => exact ⟨0, ([], ([], [])), none, 0, _, _, [], Nat.zero_le _, rfl, by show _ = _; rw [List.take_zero]; rfl, HST.out⟩
  case round =>
    obtain ⟨j, P', la', lc', va', vn', m', hj, rfl, HP, HL⟩ := hrel
    have HLO : Hid (∀ w', Below w0.heap.size w0 w' → w'.cell? ⟨bb, 0, none⟩ = some (.pointer (some ⟨rp, 0, none⟩)) ∧ w'.cell? ⟨rp, 1, none⟩ = some (.slice ra l.length rc)) := fun w' hb => ⟨(hb.cell (p := ⟨bb, 0, none⟩) HBB.out.1).trans HBX.out, (hb.cell (p := ⟨rp, 1, none⟩) (World.block_lt_of_cell? w0 _ HC1.out)).trans HC1.out⟩
    obtain ⟨t1, t2⟩ := HLO.out wr HL.out.wv.bel
    have q0 : (0 : Int) ≤ (j : Int) := by omega
    by_cases hlt : j < l.length
    · have q1 : (j : Int) < (l.length : Int) := by omega
      obtain ⟨fb9, fo9, rfl, lfb, hfc⟩ := HLR.out (by omega)
      have hmem : l.getD j (0, 0) ∈ l := getD_in hlt
      have hvq := HV.out _ hmem
      obtain ⟨eg, et, hen⟩ : ∃ eg et, l.getD j (0, 0) = (eg, et) := ⟨_, _, rfl⟩
      have HFC : Hid (∀ w', Below w0.heap.size w0 w' → w'.cell? ⟨fb9, fo9 + j * 2, none⟩ = some (.int .i64 eg) ∧ w'.cell? ⟨fb9, fo9 + j * 2 + 1, none⟩ = some (.int .i64 et)) := fun w' hb => by
        obtain ⟨p0, p1⟩ := hfc j hlt
        rw [hen] at p0 p1
        exact ⟨(hb.cell (p := ⟨fb9, fo9 + j * 2, none⟩) lfb).trans p0, (hb.cell (p := ⟨fb9, fo9 + j * 2 + 1, none⟩) lfb).trans p1⟩
      have HFN : Hid ((l.take (j + 1)).map wI = (l.take j).map wI ++ [wI (eg, et)]) := by
        show _ = _
        rw [take_snoc l j hlt (0, 0), List.map_append, hen]
        rfl
      rw [hen] at hvq
      have hgo := HG.out ((l.take j).map wI)
      rw [← HP.out] at hgo
      have HPC : Hid (∀ W : World, Lr w0 w3 W mb bb vb fb (.slice la' P'.1.length lc') [] P' la' lc' va' vn' m' → Calls Tryz.prog 34 (valA eg et mb bb vb fb) W fun e w' => ∃ va5 vn5 m5, e = .returned (.agg #[.int .i64 (vst M (tI T.length) P'.2 (wI (eg, et))).1.1, .int .i64 (vst M (tI T.length) P'.2 (wI (eg, et))).1.2]) ∧ Lr w0 w3 w' mb bb vb fb (.slice la' P'.1.length lc') [] (P'.1, (vst M (tI T.length) P'.2 (wI (eg, et))).2) la' lc' va5 vn5 m5 ∧ Kx w0 W m' w' m5) := fun W hL => by
        refine (HI.out W P'.2 va' vn' (.slice la' P'.1.length lc') m' (eg, et) hL.wv hgo.ok hvq (by omega)).mono ?_
        rintro e w5 ⟨va5, vn5, m5, rfl, hW5, hK5⟩
        exact ⟨va5, vn5, m5, rfl, hL.call hW5 hK5, hK5⟩
      have HN2 : Hid ((P'.1 ++ [(vst M (tI T.length) P'.2 (wI (eg, et))).1], (vst M (tI T.length) P'.2 (wI (eg, et))).2) = vls M (tI T.length) ([], []) ((l.take (j + 1)).map wI)) := by
        show _ = _
        rw [HFN.out, vls_snoc, ← HP.out]
      have hPl : P'.1.length ≤ 100000 := by
        rw [HP.out, vls_len, List.length_map, List.length_take]
        omega
      have u1 := HL.out.wv.cells.2.2.1
      obtain ⟨u2, u3⟩ := HFC.out wr HL.out.wv.bel
      generalize vst M (tI T.length) P'.2 (wI (eg, et)) = V at *
      obtain ⟨⟨v1, v2⟩, sB⟩ := V
      dsimp only at HPC HN2
      have HL1 := HL.out
      have n1 : wr.heap.size ≠ fb := by have : fb < wr.heap.size := World.block_lt_of_cell? wr _ u1; omega
      have n2 : wr.heap.size ≠ fb9 := by have : fb9 < wr.heap.size := World.block_lt_of_cell? wr _ u2; omega
      have n3 : wr.heap.size ≠ bb := by have : bb < wr.heap.size := World.block_lt_of_cell? wr _ t1; omega
      have n4 : wr.heap.size ≠ rp := by have : rp < wr.heap.size := World.block_lt_of_cell? wr _ t2; omega
      clear HFN HP hfc hmem hgo hvq HL hen
      go_wp2_with fail
      generalize hWW : wr = W at *
      clear hWW
      have PC := HPC.out W.drew (HL1.below (Below.refl _ W).drew)
      have PD := HPC.out (W.alloc (.cells #[.int .i64 0, .int .i64 0] 54)).drew (HL1.below ((Below.refl _ W).alloc (Nat.le_refl _) _).drew)
      have HL1 : Hid (Lr w0 w3 W mb bb vb fb (.slice la' P'.1.length lc') [] P' la' lc' va' vn' m') := HL1
      clear HPC
      go_region_held3 (fun w' => w'.cell? ⟨fb, 0, none⟩ = some (fnV mb bb vb fb) ∧ w'.cell? ⟨bb, 0, none⟩ = some (.pointer (some ⟨rp, 0, none⟩)) ∧ w'.cell? ⟨rp, 1, none⟩ = some (.slice (some ⟨fb9, fo9, none⟩) l.length rc) ∧ w'.cell? ⟨fb9, fo9 + j * 2, none⟩ = some (.int .i64 eg) ∧ w'.cell? ⟨fb9, fo9 + j * 2 + 1, none⟩ = some (.int .i64 et)) (go_keep) (first | (go_at_call 34; refine PC.mono ?_; clear PC PD; rintro e w5 ⟨va5, vn5, m5, rfl, hL5, _⟩; have HL5 : Hid (Lr w0 w3 w5 mb bb vb fb (.slice la' P'.1.length lc') [] (P'.1, sB) la' lc' va5 vn5 m5) := hL5; obtain ⟨b1, b2⟩ := HFC.out w5 hL5.wv.bel; have b4 := hL5.wv.cells.2.2.1; obtain ⟨b5, b6⟩ := HLO.out w5 hL5.wv.bel; clear hL5) | (go_at_call 34; refine PD.mono ?_; clear PC PD; rintro e w5 ⟨va5, vn5, m5, rfl, hL5, hK5⟩; have hla := HL1.out.late hL5 (show Kx w0 (W.alloc (.cells #[.int .i64 0, .int .i64 0] 54)) m' w5 m5 from (Kx.of (Below.refl _ _).drew).trans hK5) v1 v2; have HL6 : Hid (Lr w0 w3 ((w5.setCell ⟨W.heap.size, 0, none⟩ (.int .i64 v1)).setCell ⟨W.heap.size, 1, none⟩ (.int .i64 v2)) mb bb vb fb (.slice la' P'.1.length lc') [] (P'.1, sB) la' lc' va5 vn5 m5 ∧ w5.heap[W.heap.size]? = some (.cells #[.int .i64 0, .int .i64 0] 54 (0, 0))) := ⟨hla.2, hla.1⟩; have c0 : w5.cell? ⟨W.heap.size, 0, none⟩ = some (.int .i64 0) := (by simp [World.cell?, hla.1]); have c1 : w5.cell? ⟨W.heap.size, 1, none⟩ = some (.int .i64 0) := (by simp [World.cell?, hla.1]); have c2 : w5.frozen? ⟨W.heap.size, 0, none⟩ = false := (by simp [World.frozen?, hla.1]); have c4 : w5.frozen? ⟨W.heap.size, 1, none⟩ = false := (by simp [World.frozen?, hla.1]); obtain ⟨b1, b2⟩ := HFC.out w5 hL5.wv.bel; have b4 := hL5.wv.cells.2.2.1; obtain ⟨b5, b6⟩ := HLO.out w5 hL5.wv.bel; clear hL5 hla hK5))
      all_goals
        first
        | (have HY : Hid (Lr w0 w3 (w5.alloc (.cells #[.int .i64 v1, .int .i64 v2] 54)) mb bb vb fb (.slice la' P'.1.length lc') [] (P'.1, sB) la' lc' va5 vn5 m5 ∧ (w5.alloc (.cells #[.int .i64 v1, .int .i64 v2] 54)).cell? ⟨w5.heap.size, 0, none⟩ = some (.int .i64 v1) ∧ (w5.alloc (.cells #[.int .i64 v1, .int .i64 v2] 54)).cell? ⟨w5.heap.size, 1, none⟩ = some (.int .i64 v2)) := ⟨HL5.out.below ((Below.refl _ w5).alloc (Nat.le_refl _) _), by have hh := heap_alloc_new w5 (.cells #[.int .i64 v1, .int .i64 v2] 54); unfold World.cell?; dsimp only; rw [hh]; rfl, by have hh := heap_alloc_new w5 (.cells #[.int .i64 v1, .int .i64 v2] 54); unfold World.cell?; dsimp only; rw [hh]; rfl⟩
           clear HL5 b1 b2 b4 b5 b6
           generalize w5.alloc (.cells #[.int .i64 v1, .int .i64 v2] 54) = w6 at *
           generalize w5.heap.size = yb at *)
        | (have HY : Hid (Lr w0 w3 ((w5.setCell ⟨W.heap.size, 0, none⟩ (.int .i64 v1)).setCell ⟨W.heap.size, 1, none⟩ (.int .i64 v2)) mb bb vb fb (.slice la' P'.1.length lc') [] (P'.1, sB) la' lc' va5 vn5 m5 ∧ ((w5.setCell ⟨W.heap.size, 0, none⟩ (.int .i64 v1)).setCell ⟨W.heap.size, 1, none⟩ (.int .i64 v2)).cell? ⟨W.heap.size, 0, none⟩ = some (.int .i64 v1) ∧ ((w5.setCell ⟨W.heap.size, 0, none⟩ (.int .i64 v1)).setCell ⟨W.heap.size, 1, none⟩ (.int .i64 v2)).cell? ⟨W.heap.size, 1, none⟩ = some (.int .i64 v2)) := ⟨HL6.out.1, by rw [World.cell?_setCell_other _ _ _ _ (by simp)]; exact World.cell?_setCell_same _ _ _ (u := .int .i64 0) c0, World.cell?_setCell_same _ _ _ (u := .int .i64 0) ((World.cell?_setCell_other _ _ _ _ (by simp)).trans c1)⟩
           clear HL6 b1 b2 b4 b5 b6 c0 c1 c2 c4
           generalize (w5.setCell ⟨W.heap.size, 0, none⟩ (.int .i64 v1)).setCell ⟨W.heap.size, 1, none⟩ (.int .i64 v2) = w6 at *
           clear u1 u2 u3 n1 n2 n3 n4 t1 t2 HL1
           generalize W.heap.size = yb at *)
      all_goals
        have k1 := HY.out.2.1
        have k2 := HY.out.2.2
        have k3 := HY.out.1.wv.cells.2.2.2.2.2.2.2.2
        have lvb : vb < w6.heap.size := World.block_lt_of_cell? w6 _ k3
        have HBS : Hid (Below w6.heap.size w6 (w6.alloc (.cells #[.int .i64 v1, .int .i64 v2] 54))) := (Below.refl w6.heap.size w6).alloc (Nat.le_refl _) _
        have HSC : Hid (∀ a, (some ⟨w6.heap.size, 0, none⟩ : Option Addr) = some a → ∀ k u, (ev [(v1, v2)])[k]? = some u → (w6.alloc (.cells #[.int .i64 v1, .int .i64 v2] 54)).cell? (a.add k) = some u) := val_src v1 v2
        have rx2 := row_keep HY.out.1.row (fun k e => HBS.out.block k (row_lt HY.out.1.row k e).2)
        dsimp only at rx2
        have hsz : Hid (w3.heap.size ≤ w6.heap.size) := HY.out.1.kx.1.size
        go_upto_region 7 with (at_builtin; refine wpList_append_src _ rfl _ _ 38 rfl w3.heap.size 54 ie (.agg #[.int .i64 0, .int .i64 0]) 2 16 Tryz.underlying38 hie hze0 hze1 hze2 rfl (by decide) (.slice la' P'.1.length lc') P'.1.length (ev P'.1) rfl rx2 (some ⟨w6.heap.size, 0, none⟩) 1 1 (ev [(v1, v2)]) rfl rfl (fun e => by cases e) HSC.out (ev_one _) (by unfold maxLen; omega) (by omega) (by have := hsz.out; simp; omega) ?_; intro ra' rc' w10 hown10 hgrow10 hnb10; have HB9 : Hid (Lr w0 w3 w10 mb bb vb fb (.slice la' P'.1.length lc') [] (P'.1 ++ [(v1, v2)], sB) ra' rc' va5 vn5 m5) := (HY.out.1.push HBS.out hgrow10 hown10 hnb10); have HB10 : Hid (Lr w0 w3 (w10.setCell ⟨vb, 0, none⟩ (.slice ra' (P'.1.length + 1) rc')) mb bb vb fb (.slice ra' (P'.1.length + 1) rc') [] (P'.1 ++ [(v1, v2)], sB) ra' rc' va5 vn5 m5 ∧ w10.heap[vb]? = some (.cells #[.slice la' P'.1.length lc', vn5] 41 (0, 0))) := (lr_rooted HB9.out _); have s0 : w10.cell? ⟨vb, 0, none⟩ = some (.slice la' P'.1.length lc') := (by simp [World.cell?, HB10.out.2]); have s1 : w10.frozen? ⟨vb, 0, none⟩ = false := (by simp [World.frozen?, HB10.out.2]))
        clear hown10 hgrow10 hnb10 rx2
        go_wp2_with fail
        go_roundw
        case rel => exact ⟨j + 1, (P'.1 ++ [(v1, v2)], sB), ra', rc', va5, vn5, m5, by omega, by go_num, HN2, by rw [show (P'.1 ++ [(v1, v2)], sB).1.length = P'.1.length + 1 by simp]; exact HB10.out.1⟩
        case measure => simp [intOf]; omega
    · obtain rfl : j = l.length := by omega
      have HPE : Hid (P' = RR) := by
        have h1 := HP.out
        rw [List.take_length] at h1
        exact h1.trans HE.out.symm
      have hPl : P'.1.length = l.length := by rw [HP.out, vls_len, List.length_map, List.length_take]; simp
      obtain ⟨na, nc, e2⟩ := row_slice HL.out.wv.nr
      subst e2
      have z1 := HL.out.wv.cells.2.1
      have z0 := HL.out.wv.cells.2.2.2.2.2.2.2.2
      have hr3 := (HL.out.wv.bel.block rb HBB.out.2).trans HRB.out
      have y0 : wr.cell? ⟨rb, 0, none⟩ = some (.slice none 0 0) := by simp [World.cell?, hr3]
      have y1 : wr.cell? ⟨rb, 1, none⟩ = some (.slice none 0 0) := by simp [World.cell?, hr3]
      have f0 : wr.frozen? ⟨rb, 0, none⟩ = false := by simp [World.frozen?, hr3]
      have f1 : wr.frozen? ⟨rb, 1, none⟩ = false := by simp [World.frozen?, hr3]
      have HR3 : Hid (_ = _) := hr3
      clear hr3 HP
      go_wp2_with fail
      obtain ⟨W0, hW0⟩ : ∃ W0, W0 = (wr.setCell ⟨rb, 0, none⟩ (.slice la' l.length lc')).setCell ⟨rb, 1, none⟩ (.slice na m'.length nc) := ⟨_, rfl⟩
      rw [← hW0]
      have g0 : W0.cell? ⟨rb, 0, none⟩ = some (.slice la' l.length lc') := by
        rw [hW0, World.cell?_setCell_other _ _ _ _ (by simp)]
        exact World.cell?_setCell_same _ _ _ y0
      have g1 : W0.cell? ⟨rb, 1, none⟩ = some (.slice na m'.length nc) := by
        rw [hW0]
        exact World.cell?_setCell_same _ _ _ ((World.cell?_setCell_other wr ⟨rb, 0, none⟩ ⟨rb, 1, none⟩ _ (by simp)).trans y1)
      have hF : Fr (fun k => k = rb) wr W0 := by rw [hW0]; exact ((Fr.refl (fun k => k = rb) wr).set rb 0 _ rfl).set rb 1 _ rfl
      clear hW0
      have hW2 := HL.out.wv
      have hr2 := HL.out.row
      have hsw : w.heap.size ≤ w3.heap.size := Nat.le_trans (by have := HSZ.out.1; omega) HL.out.hs
      have eL : ∀ {ad : Option Addr} {L : List (Int × Int)}, Lv wr ad L → Lp W0 ad L := fun {ad L} h => h.1.keep hF.size (fun hp b e => by
        obtain ⟨b0, o0, cs, e0, hb⟩ := h.2 hp
        rw [e0] at e
        cases e
        refine hF.block _ (lt_of_some hb) (fun c => ?_)
        have c : b0 = rb := c
        rw [c, HR3.out] at hb
        simp at hb)
      have hbl : Below w.heap.size w W0 := by
        rw [hbb]
        refine (HSZ.out.2.trans (hW2.bel.mono HSZ.out.1)).trans (hF.below ?_ (fun k e => ?_))
        · exact Nat.le_trans HSZ.out.1 hW2.bel.size
        · have e : k = rb := e
          omega
      rw [← HPE.out]
      refine bodyPost_ret (v := .agg #[.slice la' l.length lc', .slice na m'.length nc]) (by simp [results, Tryz.results14, go_sem, g0, g1]) rfl ⟨la', lc', na, m'.length, nc, rfl, ⟨eL (Lv.of hr2), fun hp => ?_⟩, ⟨m', hW2.nd, fun x hx => eL (hW2.fl x hx), fun k hk => ?_, fun hp => ?_⟩, hW2.len, hbl⟩
      · obtain ⟨b, cap, e⟩ := row_shape hr2 hp
        cases e
        exact ⟨b, 0, rfl, Nat.le_trans hsw (row_lt hr2 b rfl).1⟩
      · rcases HL.out.kx.2 k hk with ⟨x, hx, _⟩ | d
        · cases hx
        · exact Nat.le_trans hsw d
      · obtain ⟨b, cap, e⟩ := row_shape hW2.nr hp
        cases e
        have hbs := (row_lt hW2.nr b rfl).1
        obtain ⟨cur, hcur⟩ := row_type hW2.nr b rfl
        have hne : b ≠ rb := fun c => by
          rw [c, HR3.out] at hcur
          simp at hcur
        refine ⟨b, 0, rfl, by have := HSZ.out.1; omega, Nat.lt_of_lt_of_le (lt_of_some hcur) hF.size, fun i x hx => ?_⟩
        obtain ⟨n1, n2⟩ := nv_get m' i x hx
        rw [Nat.zero_add]
        exact ⟨(World.cell?_of_block (a := ⟨b, i * 2, none⟩) (hF.block b (lt_of_some hcur) hne)).trans (row_cell hW2.nr n1).1, (World.cell?_of_block (a := ⟨b, i * 2 + 1, none⟩) (hF.block b (lt_of_some hcur) hne)).trans (row_cell hW2.nr n2).1⟩
end

end Go.Proofs.YtogknhogphkddaaGreat.Vr4

/- A grove's walk: node, values over whatever meets: contracts. -/
namespace Go.Proofs.YtogknhogphkddaaGreat
open Go.RowKit W Kp Stl

def Mtg (w0 : World) (kb mq gp : Nat) (T : List Tw1) (M : Vst → Int → Vst) (n : Nat) : Prop :=
  ∀ (w : World) (s : Vst) (vn : Value) (m : List Vnd) (a : Int), Wkg w0 w kb mq gp s vn m → VOk (tI T.length) s → 0 ≤ a ∧ Alv T a.toNat → a ∉ s.1 → T.length ≤ s.1.length + n →
    Calls Tryz.prog 77 #[.pointer (some ⟨kb, 0, none⟩), .int .i64 a] w fun e w' => ∃ vn' m', e = .returned (.int .i64 s.1.length) ∧ Wkg w0 w' kb mq gp (M s a) vn' m' ∧ Kvg w0 w m w' m'

def nXg (s : Vst) (a : Int) : Int := if s.1.contains a = true then (s.1.idxOf a : Int) else s.1.length
def nSg (M : Vst → Int → Vst) (s : Vst) (a : Int) : Vst := if s.1.contains a = true then s else M s a
theorem vst_w {T : List Tw1} {M : Vst → Int → Vst} {s : Vst} {v : Int × Int} (h : Vq T v) (h3 : v.1 = 3) : vst M (tI T.length) s (wI v) = ((3, nXg s v.2), nSg M s v.2) := by
  unfold nXg nSg
  cases hs : s.1.contains v.2
  · rw [vst_new h h3 hs, if_neg (by simp), if_neg (by simp)]
  · rw [vst_met h h3 hs, if_pos rfl, if_pos rfl]
theorem zeroL (w : World) : (zeroValue 2).run Tryz.prog w = .ok (.int .i64 0) w := by kernel_rfl

section
variable {w0 w : World} {kb mq gp n : Nat} {T : List Tw1} {kd : Int → Int} {sh : Int → List Int} {M : Vst → Int → Vst} {s : Vst} {vn : Value} {m : List Vnd}

set_option maxRecDepth 100000 in
set_option maxHeartbeats 1000000 in
theorem nodeG_any (hM : Mtg w0 kb mq gp T M n) (h : Wkg w0 w kb mq gp s vn m) (ho : VOk (tI T.length) s) (hn : T.length ≤ s.1.length + n) (a : Int) (ha : 0 ≤ a ∧ Alv T a.toNat) (hT : T.length ≤ 10000) :
    Calls Tryz.prog 55 #[.pointer (some ⟨kb, 0, none⟩), .int .i64 a] w fun e w' => ∃ vn' m', e = .returned (.int .i64 (nXg s a)) ∧ Wkg w0 w' kb mq gp (nSg M s a) vn' m' ∧ Kvg w0 w m w' m' := by
  have H : Hid (Wkg w0 w kb mq gp s vn m) := h
  have HM : Hid (Mtg w0 kb mq gp T M n) := hM
  obtain ⟨c0, c1, c2, lk⟩ := h.cells
  have al : a < 10000 := by have := ha.2.1; omega
  have L := h.mp.look_ok (t := 82) (e := 2) Tryz.underlying82 (zeroL w) (x := a) ha.1 (by omega)
  clear h hM
  by_cases hms : a ∈ s.1
  · rw [mtF_yes hms] at L
    dsimp only [Option.getD_some, Option.isSome_some] at L
    have f1 : nXg s a = (s.1.idxOf a : Int) := by unfold nXg; rw [if_pos (by simpa using hms)]
    have f2 : nSg M s a = s := by unfold nSg; rw [if_pos (by simpa using hms)]
    rw [f1, f2]
    clear HM ho hn hms f1 f2 ha
    generalize s.1.idxOf a = j at L ⊢
    go_enter Tryz.func55, Tryz.ntmps55
    go_wp2_with fail
    go_ret
    exact ⟨vn, m, rfl, H.out, Kvg.refl _ _ _⟩
  · rw [mtF_no hms] at L
    dsimp only [Option.getD_none, Option.isSome_none] at L
    have f1 : nXg s a = s.1.length := by unfold nXg; rw [if_neg (by simpa using hms)]
    have f2 : nSg M s a = M s a := by unfold nSg; rw [if_neg (by simpa using hms)]
    rw [f1, f2]
    have P := HM.out w s vn m a H.out ho ha hms hn
    clear HM ho hn hms f1 f2 ha
    generalize M s a = s' at P ⊢
    generalize s.1.length = j at P ⊢
    go_enter Tryz.func55, Tryz.ntmps55
    go_wp2_with fail
    refine P.mono ?_
    clear P
    rintro e w1 ⟨vn', m', rfl, h1, k1⟩
    have H1 : Hid (_ ∧ _) := ⟨h1, k1⟩
    clear h1 k1 c0 c1 c2 L
    go_wp2_with fail
    go_ret
    exact ⟨vn', m', rfl, H1.out.1, H1.out.2⟩

set_option maxRecDepth 100000 in
set_option maxHeartbeats 2000000 in
theorem valuesG_any (hM : Mtg w0 kb mq gp T M n) (hV : Vmet (tI T.length) kd sh n M) (h : Wkg w0 w kb mq gp s vn m) (ho : VOk (tI T.length) s) (hn : T.length ≤ s.1.length + n) (hT : T.length ≤ 10000) (l : List (Int × Int)) (hq : ∀ v ∈ l, Vq T v) (ad : Option Addr) (cap : Nat) (hl : Lv w ad l) (hm : l.length ≤ 100000) :
    Calls Tryz.prog 33 #[.pointer (some ⟨kb, 0, none⟩), .slice ad l.length cap] w fun e w' => ∃ vn' m' a2 c2, e = .returned (.slice a2 l.length c2) ∧ w'.ownsRow w.heap.size 54 2 (.slice a2 l.length c2) l.length (ev (vls M (tI T.length) s (l.map wI)).1) ∧ Wkg w0 w' kb mq gp (vls M (tI T.length) s (l.map wI)).2 vn' m' ∧ Kvg w0 w m w' m' ∧ (∀ k, Fb m' k → some k ≠ (Value.slice a2 l.length c2).ownBlock) := by
  obtain ⟨i0, hi, hz0, hz1, hz2⟩ := info_parts infoVn
  have HM : Hid (Mtg w0 kb mq gp T M n) := hM
  have HV : Hid (Vmet (tI T.length) kd sh n M) := hV
  have HL : Hid (Lv w ad l) := hl
  have HW : Hid (Wkg w0 w kb mq gp s vn m) := h
  have HO : Hid (VOk (tI T.length) s ∧ T.length ≤ s.1.length + n) := ⟨ho, hn⟩
  have HQ : Hid (∀ v ∈ l, Vq T v) := hq
  have HT : Hid (T.length ≤ 10000) := hT
  clear hM hV hl h ho hq hn hT
  go_enter Tryz.func33, Tryz.ntmps33
  go_wp2_with (at_make; refine wpList_make_own _ rfl _ _ 38 rfl w.heap.size 54 i0 (.agg #[.int .i64 0, .int .i64 0]) 2 Tryz.underlying38 hi hz0 hz1 .i64 .i64 _ l.length rfl rfl rfl (by rw [hz2]; omega) (by unfold maxLen; omega) (Nat.le_refl _) ?_; intro w1 hown1 hgrow1)
  have hb1 : Below w.heap.size w w1 := (Below.refl w.heap.size w).grown hgrow1 (Nat.le_refl _) (fun k e => by cases e)
  go_loopw [5, 13] (fun tv iv wr => ∃ (j : Nat) (V : List (Int × Int)) (s1 : Vst) (vn1 : Value) (m1 : List Vnd) (a2 : Option Addr) (c2 : Nat), j ≤ l.length ∧ iv = .int .i64 j ∧ Hid (vls M (tI T.length) s ((l.take j).map wI) = (V, s1)) ∧ tv = .slice a2 j c2 ∧ wr.ownsRow w.heap.size 54 2 (.slice a2 j c2) j (ev V) ∧ Hid (Wkg w0 wr kb mq gp s1 vn1 m1) ∧ Hid (Kvg w0 w m wr m1) ∧ Hid (∀ k, Fb m1 k → some k ≠ (Value.slice a2 j c2).ownBlock) ∧ Hid (VOk (tI T.length) s1 ∧ T.length ≤ s1.1.length + n)) (fun _ iv _ => l.length - (intOf iv).toNat)
  case atStart => exact ⟨0, [], s, vn, m, _, _, Nat.zero_le _, rfl, rfl, rfl, hown1, HW.out.below hb1, Kvg.of hb1, fun k hk e => by
    have := HW.out.fb k hk
    simp [Value.ownBlock] at e
    omega, HO.out⟩
  case round =>
    obtain ⟨j, V, s1, vn1, m1, a2, c2, hj, rfl, HE, rfl, hR, HW1, HK1, HF1, HO1⟩ := hrel
    clear hown1 hgrow1 hb1
    by_cases hlt : j < l.length
    · obtain ⟨b0, o0, e0, hb0, hc⟩ := (HL.out.kg HK1.out.1).1 (by omega)
      obtain ⟨x0, x1⟩ := hc j hlt
      subst e0
      clear hc
      have hvq := HQ.out _ (getD_in (x := (0, 0)) hlt)
      have HS := vls_snoc M (tI T.length) s ((l.take j).map wI) (wI (l.getD j (0, 0)))
      rw [HE.out] at HS
      have EV : (l.take (j + 1)).map wI = (l.take j).map wI ++ [wI (l.getD j (0, 0))] := by
        rw [take_snoc l j hlt (0, 0), List.map_append]
        rfl
      rw [← EV] at HS
      have G := vst_go HV.out HO1.out.1 (by rw [tI_len]; exact HO1.out.2) (wI (l.getD j (0, 0)))
      have HO2 : Hid (VOk (tI T.length) (vst M (tI T.length) s1 (wI (l.getD j (0, 0)))).2 ∧ T.length ≤ (vst M (tI T.length) s1 (wI (l.getD j (0, 0)))).2.1.length + n) := ⟨G.ok, by have := G.le; have := HO1.out.2; omega⟩
      have HS : Hid (vls M (tI T.length) s ((l.take (j + 1)).map wI) = (V ++ [(vst M (tI T.length) s1 (wI (l.getD j (0, 0)))).1], (vst M (tI T.length) s1 (wI (l.getD j (0, 0)))).2)) := HS
      clear G EV
      generalize l.getD j (0, 0) = v at *
      obtain ⟨v0, v1⟩ := v
      dsimp only at x0 x1
      have n3 : IntKind.i64.wrap ((j : Int) + 1) = (j : Int) + 1 := by rw [IntKind.wrap_i64]; omega
      have hba := (Below.refl wr.heap.size wr).alloc (Nat.le_refl _) (.cells #[.int .i64 v0, .int .i64 v1] 54)
      have hx0 := heap_alloc_new wr (.cells #[.int .i64 v0, .int .i64 v1] 54)
      have hszr := HK1.out.1.size
      by_cases h3 : v0 = 3
      · subst h3
        have e2 := vst_w (M := M) (s := s1) hvq rfl
        rw [e2] at HS HO2
        dsimp only at HS HO2
        have P := nodeG_any HM.out (HW1.out.below hba) HO1.out.1 HO1.out.2 v1 (hvq.2 rfl) HT.out
        clear e2 hvq
        generalize nXg s1 v1 = z at *
        generalize nSg M s1 v1 = s2 at *
        go_wp2_with fail
        refine P.mono ?_
        clear P
        rintro e w2 ⟨vn2, m2, rfl, hW2, hK2⟩
        have hx2 := (hK2.1.oth _ _ _ _ hx0 (by decide) (by decide)).trans hx0
        obtain ⟨y0, y1, yf, ly⟩ := two_cells hx2
        have hR2 := row_keep hR (fun k hk => by
          obtain ⟨cs, hcs⟩ := row_type hR k hk
          have e1 := hba.block k (row_lt hR k hk).2
          exact (hK2.1.oth k _ _ _ (e1.trans hcs) (by decide) (by decide)).trans e1)
        have HF2 : Hid (∀ k, Fb m2 k → some k ≠ (Value.slice a2 j c2).ownBlock) := fun k hk e => (hK2.2 k hk).elim (fun c => HF1.out k c e) (fun c => by have := (row_lt hR k e).2; simp at c; omega)
        have hK3 : Kvg w0 wr m1 w2 m2 := (Kvg.of hba).trans hK2
        have hnf : ¬ Fb m2 wr.heap.size := fun c => (hK2.2 _ c).elim (fun c => by have := HW1.out.fb _ c; omega) (fun c => by simp at c; omega)
        have f1 : Fr (fun k => k = wr.heap.size) w2 (w2.setCell ⟨wr.heap.size, 1, none⟩ (.int .i64 z)) := (Fr.refl (fun k => k = wr.heap.size) w2).set wr.heap.size 1 _ rfl
        have HW3 : Hid (Wkg w0 (w2.setCell ⟨wr.heap.size, 1, none⟩ (.int .i64 z)) kb mq gp s2 vn2 m2) := hW2.but f1 (fun k _ e => by
          have e : k = wr.heap.size := e
          rw [e]
          exact ⟨⟨_, hx2⟩, hnf, by have := HW1.out.bel.size; omega⟩)
        have HK3 : Hid (Kvg w0 w m (w2.setCell ⟨wr.heap.size, 1, none⟩ (.int .i64 z)) m2) := HK1.out.trans (hK3.new f1 (fun k e => by have e : k = wr.heap.size := e; omega))
        have hR3 : (w2.setCell ⟨wr.heap.size, 1, none⟩ (.int .i64 z)).ownsRow w.heap.size 54 2 (.slice a2 j c2) j (ev V) := row_keep hR2 (fun k hk => f1.block k (row_lt hR2 k hk).2 (fun c => by have c : k = wr.heap.size := c; have := (row_lt hR k hk).2; omega))
        have q0 : (w2.setCell ⟨wr.heap.size, 1, none⟩ (.int .i64 z)).cell? ⟨wr.heap.size, 0, none⟩ = some (.int .i64 3) := (World.cell?_setCell_other w2 ⟨wr.heap.size, 1, none⟩ ⟨wr.heap.size, 0, none⟩ _ (by simp)).trans y0
        have q1 : (w2.setCell ⟨wr.heap.size, 1, none⟩ (.int .i64 z)).cell? ⟨wr.heap.size, 1, none⟩ = some (.int .i64 z) := World.cell?_setCell_same _ _ _ y1
        have sz3 : (w2.setCell ⟨wr.heap.size, 1, none⟩ (.int .i64 z)).heap.size = w2.heap.size := by simp [World.setCell]
        have yf1 := yf 1
        have hs3 := hK3.1.size
        clear hR hR2 hK2 hK3 HK1 HF1 HW1 HO1 x0 x1 hW2 f1 hnf hx2 hx0 hba y0 yf
        go_upto_region 7 with fail
        generalize w2.setCell ⟨wr.heap.size, 1, none⟩ (.int .i64 z) = w3 at *
        have HR3 : Hid (w3.ownsRow w.heap.size 54 2 (.slice a2 j c2) j (ev V)) := hR3
        have hs4 : w.heap.size ≤ w3.heap.size := by omega
        clear y1 yf1 ly sz3 hs3
        go_wp2_with (at_builtin; refine wpList_append_own_at _ rfl _ _ 38 rfl w.heap.size 54 i0 (.agg #[.int .i64 0, .int .i64 0]) 2 16 Tryz.underlying38 hi hz0 hz1 hz2 rfl (by decide) (.slice a2 j c2) j (ev V) rfl (row_alloc hR3 _) ⟨w3.heap.size, 0, none⟩ 1 1 [.int .i64 3, .int .i64 z] rfl rfl ?_ ?_ ?_ ?_ ?_ ?_; (intro j u hj; match j, hj with | 0, hj => (simp at hj; subst hj; simp [Addr.add]) | 1, hj => (simp at hj; subst hj; simp [Addr.add])); (intro u hu; simp at hu; rcases hu with hu | hu <;> (subst hu; rfl)); (unfold maxLen; omega); omega; (simp; omega); intro v' w4 hown4 hgrow4 _ hloc4; obtain ⟨b4, cap4, ev4⟩ := row_shape hown4 (Nat.succ_pos _); subst ev4)
        have hT4 : w4.ownsRow w.heap.size 54 2 (.slice (some ⟨b4, 0, none⟩) (j + 1) cap4) (j + 1) (ev (V ++ [(3, z)])) := by
          rw [ev_append]
          simpa [ev] using hown4
        have hba := (Below.refl w3.heap.size w3).alloc (Nat.le_refl _) (.cells #[.int .i64 3, .int .i64 z] 54)
        have hfr : Fr (fun k => some k = (Value.slice a2 j c2).ownBlock) (w3.alloc (.cells #[.int .i64 3, .int .i64 z] 54)) w4 := (Fr.refl _ _).grown hgrow4 (fun k e => Or.inl e.symm)
        have HW4 : Hid (Wkg w0 w4 kb mq gp s2 vn2 m2) := (HW3.out.below hba).but hfr (fun k _ e => by
          obtain ⟨cs, hcs⟩ := row_type HR3.out k e
          exact ⟨⟨cs, (hba.block k (row_lt HR3.out k e).2).trans hcs⟩, fun c => HF2.out k c e, Nat.le_trans HW.out.bel.size (row_lt HR3.out k e).1⟩)
        have HK4 : Hid (Kvg w0 w m w4 m2) := (HK3.out.trans (Kvg.of hba)).new hfr (fun k e => (row_lt HR3.out k e).1)
        have hbl4 : some b4 = (Value.slice a2 j c2).ownBlock ∨ b4 = w3.heap.size + 1 := hloc4.imp id (fun e => by simpa [Value.ownBlock] using e)
        have HF4 : Hid (∀ k, Fb m2 k → some k ≠ some b4) := fun k hk e => hbl4.elim (fun c => HF2.out k hk (e.trans c)) (fun c => by have := HW3.out.fb k hk; simp at e; omega)
        clear hown4 hgrow4 hloc4 hbl4 hba hfr HR3 hR3 HF2 HK3 HW3 q0 q1
        go_wp2_with fail
        go_roundw
        case rel => exact ⟨j + 1, V ++ [(3, z)], s2, vn2, m2, some ⟨b4, 0, none⟩, cap4, by omega, by go_num, HS, rfl, hT4, HW4, HK4, HF4, HO2⟩
        case measure => simp [intOf]; omega
      · have e2 := vst_o (M := M) (s := s1) hvq h3
        rw [e2] at HS HO2
        dsimp only at HS HO2
        have h3b : (v0 == 3) = false := by simpa using h3
        have HW3 : Hid (Wkg w0 (wr.alloc (.cells #[.int .i64 v0, .int .i64 v1] 54)) kb mq gp s1 vn1 m1) := HW1.out.below hba
        have HK3 : Hid (Kvg w0 w m (wr.alloc (.cells #[.int .i64 v0, .int .i64 v1] 54)) m1) := HK1.out.trans (Kvg.of hba)
        have hR3 := row_keep hR (fun k hk => hba.block k (row_lt hR k hk).2)
        obtain ⟨q0, q1, _, _⟩ := two_cells hx0
        clear e2 hvq h3 hR HK1 HW1 HO1 hx0 hba
        go_upto_region 7 with fail
        generalize wr.alloc (.cells #[.int .i64 v0, .int .i64 v1] 54) = w3 at *
        have HR3 : Hid (w3.ownsRow w.heap.size 54 2 (.slice a2 j c2) j (ev V)) := hR3
        have hs4 : w.heap.size ≤ w3.heap.size := HK3.out.1.size
        clear x0 x1
        go_wp2_with (at_builtin; refine wpList_append_own_at _ rfl _ _ 38 rfl w.heap.size 54 i0 (.agg #[.int .i64 0, .int .i64 0]) 2 16 Tryz.underlying38 hi hz0 hz1 hz2 rfl (by decide) (.slice a2 j c2) j (ev V) rfl (row_alloc hR3 _) ⟨w3.heap.size, 0, none⟩ 1 1 [.int .i64 v0, .int .i64 v1] rfl rfl ?_ ?_ ?_ ?_ ?_ ?_; (intro j u hj; match j, hj with | 0, hj => (simp at hj; subst hj; simp [Addr.add]) | 1, hj => (simp at hj; subst hj; simp [Addr.add])); (intro u hu; simp at hu; rcases hu with hu | hu <;> (subst hu; rfl)); (unfold maxLen; omega); omega; (simp; omega); intro v' w4 hown4 hgrow4 _ hloc4; obtain ⟨b4, cap4, ev4⟩ := row_shape hown4 (Nat.succ_pos _); subst ev4)
        have hT4 : w4.ownsRow w.heap.size 54 2 (.slice (some ⟨b4, 0, none⟩) (j + 1) cap4) (j + 1) (ev (V ++ [(v0, v1)])) := by
          rw [ev_append]
          simpa [ev] using hown4
        have hba := (Below.refl w3.heap.size w3).alloc (Nat.le_refl _) (.cells #[.int .i64 v0, .int .i64 v1] 54)
        have hfr : Fr (fun k => some k = (Value.slice a2 j c2).ownBlock) (w3.alloc (.cells #[.int .i64 v0, .int .i64 v1] 54)) w4 := (Fr.refl _ _).grown hgrow4 (fun k e => Or.inl e.symm)
        have HW4 : Hid (Wkg w0 w4 kb mq gp s1 vn1 m1) := (HW3.out.below hba).but hfr (fun k _ e => by
          obtain ⟨cs, hcs⟩ := row_type HR3.out k e
          exact ⟨⟨cs, (hba.block k (row_lt HR3.out k e).2).trans hcs⟩, fun c => HF1.out k c e, Nat.le_trans HW.out.bel.size (row_lt HR3.out k e).1⟩)
        have HK4 : Hid (Kvg w0 w m w4 m1) := (HK3.out.trans (Kvg.of hba)).new hfr (fun k e => (row_lt HR3.out k e).1)
        have hbl4 : some b4 = (Value.slice a2 j c2).ownBlock ∨ b4 = w3.heap.size + 1 := hloc4.imp id (fun e => by simpa [Value.ownBlock] using e)
        have HF4 : Hid (∀ k, Fb m1 k → some k ≠ some b4) := fun k hk e => hbl4.elim (fun c => HF1.out k hk (e.trans c)) (fun c => by have := HW3.out.fb k hk; simp at e; omega)
        clear hown4 hgrow4 hloc4 hbl4 hba hfr HR3 hR3 HF1 HK3 HW3 q0 q1
        go_wp2_with fail
        go_roundw
        case rel => exact ⟨j + 1, V ++ [(v0, v1)], s1, vn1, m1, some ⟨b4, 0, none⟩, cap4, by omega, by go_num, HS, rfl, hT4, HW4, HK4, HF4, HO2⟩
        case measure => simp [intOf]; omega
    · obtain rfl : j = l.length := by omega
      rw [List.take_length] at HE
      go_wp2_with fail
      go_ret
      rw [HE.out]
      exact ⟨vn1, m1, a2, c2, rfl, hR, HW1.out, HK1.out, HF1.out⟩
end

end Go.Proofs.YtogknhogphkddaaGreat
