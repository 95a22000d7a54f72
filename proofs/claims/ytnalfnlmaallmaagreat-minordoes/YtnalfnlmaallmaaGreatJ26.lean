/- Joined: Vr7, Mj14, Mj15, Mj16, Mn10, Mj17, Mj18, Mj19, Mj20, Mj21, Mn16. -/
import Derived.Test.YtnalfnlmaallmaaGreatVr6
import Derived.Test.YtnalfnlmaallmaaGreatJ20
import Derived.Test.YtnalfnlmaallmaaGreatJ19
import Derived.Test.YtnalfnlmaallmaaGreatJ18
import Derived.Test.YtnalfnlmaallmaaGreatJ02
import Derived.Test.YtnalfnlmaallmaaGreatJ03
namespace Go.Proofs.YtnalfnlmaallmaaGreat.Vr4
set_option maxRecDepth 100000
set_option maxHeartbeats 8000000
open Go.RowKit W Kp Stl
theorem vals_all {w0 : World} {mb bb vb fb rp : Nat} {T : List Tw1} {wt : List En} (hR : Rd w0 bb rp T wt) (hw : Wvw T wt) : ∀ n, Vals w0 mb bb vb fb T (met (tI T.length) (kdW T) (shW T wt) n) n := by
 intro n
 induction n with
 | zero =>
  intro w s va vn vr m v h hO hv hn
  have hl : s.1.length <= 100000 := by
   have h1 := hO.le
   rw [tI_len] at h1
   have := hw.l1
   omega
  by_cases h3 : v.1 = 3
  ·cases hs : s.1.contains v.2
   ·exfalso
    have h1 := hO.lt (tI_mem.2 (hv.lt h3)) (fun c => by rw [List.contains_iff_mem.2 c] at hs; cases hs)
    rw [tI_len] at h1
    omega
   ·rw [vst_met hv h3 hs]
    have e : valA v.1 v.2 mb bb vb fb = valA 3 v.2 mb bb vb fb := by rw [h3]
    rw [e]
    refine (valueW_met h v.2 hl hs).mono ?_
    rintro e w' ⟨rfl, hb⟩
    exact ⟨_, _, m, rfl, h.below hb, Kx.of hb⟩
  ·rw [vst_o hv h3]
   refine (valueW_o w v.1 v.2 h3).mono ?_
   rintro e w' ⟨rfl, hb⟩
   exact ⟨_, _, m, rfl, h.below hb, Kx.of hb⟩
 | succ n ih =>
  intro w s va vn vr m v h hO hv hn
  have hl : s.1.length <= 100000 := by
   have h1 := hO.le
   rw [tI_len] at h1
   have := hw.l1
   omega
  by_cases h3 : v.1 = 3
  ·have e : valA v.1 v.2 mb bb vb fb = valA 3 v.2 mb bb vb fb := by rw [h3]
   rw [e]
   cases hs : s.1.contains v.2
   ·rw [vst_new hv h3 hs]
    obtain ⟨g1, g2⟩ := hv.2 h3
    obtain ⟨a, ha⟩ := Int.eq_ofNat_of_zero_le g1
    rw [ha] at hs g2 ⊢
    rw [Int.toNat_natCast] at g2
    exact valueW_new h hR hw hO a g2 hs ih hn
   ·rw [vst_met hv h3 hs]
    refine (valueW_met h v.2 hl hs).mono ?_
    rintro e w' ⟨rfl, hb⟩
    exact ⟨_, _, m, rfl, h.below hb, Kx.of hb⟩
  ·rw [vst_o hv h3]
   refine (valueW_o w v.1 v.2 h3).mono ?_
   rintro e w' ⟨rfl, hb⟩
   exact ⟨_, _, m, rfl, h.below hb, Kx.of hb⟩
theorem wv_rooted {w0 w : World} {mb bb vb fb : Nat} {s : Vst} {va vn vr : Value} {m : List Vnd} (h : Wv w0 w mb bb vb fb s va vn vr m) (vr' : Value) : Wv w0 (w.setCell ⟨vb, 0, none⟩ vr') mb bb vb fb s va vn vr' m /\ Kw w0.heap.size w (w.setCell ⟨vb, 0, none⟩ vr') := by
 have f2 : Fr (fun k => k = vb) w (w.setCell ⟨vb, 0, none⟩ vr') := (Fr.refl (fun k => k = vb) w).set vb _ _ rfl
 have hk : ∀ k cs e mm, w.heap[k]? = some (Obj.cells cs e mm) -> e ≠ 65 -> (w.setCell ⟨vb, 0, none⟩ vr').heap[k]? = w.heap[k]? := fun k cs e mm hk h2 => f2.block k (lt_of_some hk) (fun d => by
  have d : k = vb := d
  rw [d, h.vc] at hk
  simp at hk
  exact h2 hk.2.1.symm)
 have kw : Kw w0.heap.size w (w.setCell ⟨vb, 0, none⟩ vr') := Kw.fr f2 (fun k d => by
  have d : k = vb := d
  refine ⟨by rw [d]; exact h.lo.2.1, fun cs e mm hc => ?_⟩
  rw [d, h.vc] at hc
  simp at hc
  exact Or.inr (Or.inl hc.2.1.symm))
 refine ⟨⟨h.bel.trans (kw.below h.bel.size), h.lo, (hk _ _ _ _ h.fc (by decide)).trans h.fc, (hk _ _ _ _ h.mc (by decide)).trans h.mc, ?_, row_keep h.mr (fun k e1 => by
  obtain ⟨cs, hc⟩ := row_type h.mr k e1
  exact hk k _ _ _ hc (by decide)), row_keep h.nr (fun k e1 => by
  obtain ⟨cs, hc⟩ := row_type h.nr k e1
  exact hk k _ _ _ hc (by decide)), h.nd, fun x hx => (h.fl x hx).kw kw⟩, kw⟩
 simp only [World.setCell, Array.getElem?_modify, if_true, h.vc, Option.map_some]
 simp
theorem lr_rooted {w0 w3 wr : World} {mb bb vb fb : Nat} {vr va vn : Value} {m1 m' : List Vnd} {P : List (Int × Int) × Vst} {la : Option Addr} {lc : Nat} (h : Lr w0 w3 wr mb bb vb fb vr m1 P la lc va vn m') (vr' : Value) : Lr w0 w3 (wr.setCell ⟨vb, 0, none⟩ vr') mb bb vb fb vr' m1 P la lc va vn m' /\ wr.heap[vb]? = some (.cells #[vr, vn] 65 (0, 0)) := by
 have h1 := wv_rooted h.wv vr'
 refine ⟨⟨h.hs, h1.1, h.kx.trans ⟨h1.2, fun _ d => Or.inl d⟩, row_keep h.row (fun k e => Below.heap_setCell _ _ _ _ (fun e' => ?_)), h.no⟩, h.wv.vc⟩
 obtain ⟨cs, hc⟩ := row_type h.row k e
 have e' : k = vb := by first | exact e' | exact e'.symm
 rw [e', h.wv.vc] at hc
 simp at hc
def vwW (T : List Tw1) (wt : List En) (l : List (Int × Int)) : List (Int × Int) × Vst := vls (met (tI T.length) (kdW T) (shW T wt) T.length) (tI T.length) ([], []) (l.map wI)
section
variable {w : World} {rp : Nat} {T : List Tw1} {wt : List En} {l : List (Int × Int)} {ra : Option Addr} {rc : Nat}
theorem view_start (hg : Wg w rp T wt) : ∃ w0 w3 : World, w0 = ((w.alloc (.cells #[.pointer (some ⟨rp, 0, none⟩)] 35)).alloc (.cells #[.slice none 0 0, .slice none 0 0] 65)) /\ w3 = (((w0.alloc (.cells #[.slice none 0 0, .slice none 0 0] 65)).alloc (.cells #[.slice none 0 0] 81)).alloc (.cells #[(fnV (w.heap.size + 1 + 1 + 1) w.heap.size (w.heap.size + 1 + 1) (w.heap.size + 1 + 1 + 1 + 1))] 149)) /\
  (Rd w0 w.heap.size rp T wt /\ w0.heap.size = w.heap.size + 1 + 1 /\ w0.heap[w.heap.size + 1]? = some (.cells #[.slice none 0 0, .slice none 0 0] 65 (0, 0)) /\ Below w.heap.size w w0 /\
  Lr w0 w3 w3 (w.heap.size + 1 + 1 + 1) w.heap.size (w.heap.size + 1 + 1) (w.heap.size + 1 + 1 + 1 + 1) (.slice none 0 0) [] ([], ([], [])) none 0 (.slice none 0 0) (.slice none 0 0) []) := by
 obtain ⟨w1, e1⟩ : ∃ w1, w1 = (w.alloc (.cells #[.pointer (some ⟨rp, 0, none⟩)] 35)) := ⟨_, rfl⟩
 obtain ⟨w0, e0⟩ : ∃ w0, w0 = w1.alloc (.cells #[.slice none 0 0, .slice none 0 0] 65) := ⟨_, rfl⟩
 obtain ⟨wa, ea⟩ : ∃ wa, wa = w0.alloc (.cells #[.slice none 0 0, .slice none 0 0] 65) := ⟨_, rfl⟩
 obtain ⟨wb, eb⟩ : ∃ wb, wb = wa.alloc (.cells #[.slice none 0 0] 81) := ⟨_, rfl⟩
 obtain ⟨wc, ec⟩ : ∃ wc, wc = wb.alloc (.cells #[(fnV (w.heap.size + 1 + 1 + 1) w.heap.size (w.heap.size + 1 + 1) (w.heap.size + 1 + 1 + 1 + 1))] 149) := ⟨_, rfl⟩
 have s1 : w1.heap.size = w.heap.size + 1 := by rw [e1]; simp
 have s0 : w0.heap.size = w.heap.size + 1 + 1 := by rw [e0]; simp [s1]
 have sa : wa.heap.size = w.heap.size + 1 + 1 + 1 := by rw [ea]; simp [s0]
 have sb : wb.heap.size = w.heap.size + 1 + 1 + 1 + 1 := by rw [eb]; simp [sa]
 have n1 : w1.heap[w.heap.size]? = some (.cells #[.pointer (some ⟨rp, 0, none⟩)] 35 (0, 0)) := by rw [e1]; exact heap_alloc_new w _
 have n0 : w0.heap[w1.heap.size]? = some (.cells #[.slice none 0 0, .slice none 0 0] 65 (0, 0)) := by rw [e0]; exact heap_alloc_new w1 _
 have na : wa.heap[w0.heap.size]? = some (.cells #[.slice none 0 0, .slice none 0 0] 65 (0, 0)) := by rw [ea]; exact heap_alloc_new w0 _
 have nb : wb.heap[wa.heap.size]? = some (.cells #[.slice none 0 0] 81 (0, 0)) := by rw [eb]; exact heap_alloc_new wa _
 have nc : wc.heap[wb.heap.size]? = some (.cells #[(fnV (w.heap.size + 1 + 1 + 1) w.heap.size (w.heap.size + 1 + 1) (w.heap.size + 1 + 1 + 1 + 1))] 149 (0, 0)) := by rw [ec]; exact heap_alloc_new wb _
 have b1 : Below w.heap.size w w1 := by rw [e1]; exact (Below.refl _ _).alloc (Nat.le_refl _) _
 have b0 : Below w1.heap.size w1 w0 := by rw [e0]; exact (Below.refl _ _).alloc (Nat.le_refl _) _
 have ba : Below w0.heap.size w0 wa := by rw [ea]; exact (Below.refl _ _).alloc (Nat.le_refl _) _
 have bb : Below wa.heap.size wa wb := by rw [eb]; exact (Below.refl _ _).alloc (Nat.le_refl _) _
 have bc : Below wb.heap.size wb wc := by rw [ec]; exact (Below.refl _ _).alloc (Nat.le_refl _) _
 have b3 : Below w0.heap.size w0 wc := (ba.trans (bb.mono ba.size)).trans (bc.mono (by omega))
 have hb0 := (b0.block w.heap.size (by omega)).trans n1
 refine ⟨w0, wc, by rw [e0, e1], by rw [ec, eb, ea], ⟨hg.below (b1.trans (b0.mono b1.size)), by simp [World.cell?, hb0]⟩, s0, by rw [<- s1]; exact n0, b1.trans (b0.mono b1.size), Lr.start (P := ([], ([], []))) ⟨b3, ⟨by omega, by omega, by omega⟩, by rw [sb] at nc; exact nc, ?_, ?_, World.ownsRow_nil _ _ _ _, World.ownsRow_nil _ _ _ _, rfl, by simp⟩ rfl⟩
 ·rw [<- sa]; exact (bc.block _ (by omega)).trans nb
 ·rw [<- s0]; exact (bc.block _ (by omega)).trans ((bb.block _ (by omega)).trans na)
theorem viewW_any (hg : Wg w rp T wt) (c1 : w.cell? ⟨rp, 1, none⟩ = some (.slice ra l.length rc)) (hl : Lp w ra l) (hm : l.length <= 100000) (hw : Wvw T wt) (hv : ∀ v ∈ l, Vq T v) :
    Calls Tryz.prog 31 #[.pointer (some ⟨rp, 0, none⟩)] w fun e w' => ∃ r2 d2 na nn nc, e = .returned (.agg #[.slice r2 l.length d2, .slice na nn nc]) /\ LpN w' w.heap.size r2 (vwW T wt l).1 /\ LnN w' w.heap.size na (vwW T wt l).2.2 /\ nn = (vwW T wt l).2.2.length /\ Below w.heap.size w w' := by
  obtain ⟨w0, w3, e0, e3, HS⟩ := view_start (w := w) hg
  have HS : Hid (_) := HS
  have HLR : Hid (Lp w0 ra l) := hl.below HS.out.2.2.2.1
  have HC1 : Hid (w0.cell? ⟨rp, 1, none⟩ = some (.slice ra l.length rc)) := (HS.out.2.2.2.1.cell (p := ⟨rp, 1, none⟩) (World.block_lt_of_cell? w _ c1)).trans c1
  have HI : Hid (Vals w0 (w.heap.size + 1 + 1 + 1) w.heap.size (w.heap.size + 1 + 1) (w.heap.size + 1 + 1 + 1 + 1) T (met (tI T.length) (kdW T) (shW T wt) T.length) T.length) := vals_all HS.out.1 hw _
  have HM : Hid (Vmet (tI T.length) (kdW T) (shW T wt) T.length (met (tI T.length) (kdW T) (shW T wt) T.length)) := met_go _
  have HE : Hid (vwW T wt l = vls (met (tI T.length) (kdW T) (shW T wt) T.length) (tI T.length) ([], []) (l.map wI)) := rfl
  have HV : Hid (∀ v ∈ l, Vq T v) := hv
  have HW : Hid (Wvw T wt) := hw
  generalize vwW T wt l = RR at *
  generalize met (tI T.length) (kdW T) (shW T wt) T.length = M at *
  have HG : Hid (∀ l, Vgo (tI T.length) (kdW T) (shW T wt) ([], []) (vls M (tI T.length) ([], []) l).2 (vls M (tI T.length) ([], []) l).1) := fun l => vls_go HM.out (VOk.start _) (by rw [tI_len]; simp) l
  clear hg c1 hl hv hw
  go_enter Tryz.func31, Tryz.ntmps31
  go_wp2_with fail
  rw [show (((w.alloc (.cells #[.pointer (some ⟨rp, 0, none⟩)] 35))).alloc (.cells #[.slice none 0 0, .slice none 0 0] 65)) = w0 from e0.symm, show (((w0.alloc (.cells #[.slice none 0 0, .slice none 0 0] 65)).alloc (.cells #[.slice none 0 0] 81)).alloc (.cells #[(fnV (w.heap.size + 1 + 1 + 1) w.heap.size (w.heap.size + 1 + 1) (w.heap.size + 1 + 1 + 1 + 1))] 149)) = w3 from e3.symm]
  obtain ⟨ie, hie, hze0, hze1, hze2⟩ := info_parts infoVal
  have HBB : Hid (w.heap.size < w0.heap.size /\ w.heap.size + 1 < w0.heap.size) := by have := HS.out.2.1; exact ⟨by omega, by omega⟩
  have HSZ : Hid (w.heap.size <= w0.heap.size /\ Below w.heap.size w w0) := ⟨by have := HBB.out.1; omega, HS.out.2.2.2.1⟩
  have HBX : Hid (w0.cell? ⟨w.heap.size, 0, none⟩ = some (.pointer (some ⟨rp, 0, none⟩))) := HS.out.1.bx
  have HRB : Hid (w0.heap[w.heap.size + 1]? = some (.cells #[.slice none 0 0, .slice none 0 0] 65 (0, 0))) := HS.out.2.2.1
  have HST : Hid (Lr w0 w3 w3 (w.heap.size + 1 + 1 + 1) w.heap.size (w.heap.size + 1 + 1) (w.heap.size + 1 + 1 + 1 + 1) (.slice none 0 0) [] ([], ([], [])) none 0 (.slice none 0 0) (.slice none 0 0) []) := HS.out.2.2.2.2
  have nrv : w.heap.size + 1 ≠ w.heap.size + 1 + 1 := by omega
  clear HS e0 e3
  generalize hmb : w.heap.size + 1 + 1 + 1 = mb at *
  generalize hfb : mb + 1 = fb at *
  generalize hvb : w.heap.size + 1 + 1 = vb at *
  generalize hrb : w.heap.size + 1 = rb at *
  generalize hbb : w.heap.size = bb at *
  go_loopw [6] (fun iv wr => ∃ (j : Nat) (P' : List (Int × Int) × Vst) (la' : Option Addr) (lc' : Nat) (va' vn' : Value) (m' : List Vnd), j <= l.length /\ iv = .int .i64 j /\ Hid (P' = vls M (tI T.length) ([], []) ((l.take j).map wI)) /\ Hid (Lr w0 w3 wr mb bb vb fb (.slice la' P'.1.length lc') [] P' la' lc' va' vn' m')) (fun iv _ => l.length - (intOf iv).toNat)
  case atStart => exact ⟨0, ([], ([], [])), none, 0, _, _, [], Nat.zero_le _, rfl, by show _ = _; rw [List.take_zero]; rfl, HST.out⟩
  case round =>
    obtain ⟨j, P', la', lc', va', vn', m', hj, rfl, HP, HL⟩ := hrel
    have HLO : Hid (∀ w', Below w0.heap.size w0 w' -> w'.cell? ⟨bb, 0, none⟩ = some (.pointer (some ⟨rp, 0, none⟩)) /\ w'.cell? ⟨rp, 1, none⟩ = some (.slice ra l.length rc)) := fun w' hb => ⟨(hb.cell (p := ⟨bb, 0, none⟩) HBB.out.1).trans HBX.out, (hb.cell (p := ⟨rp, 1, none⟩) (World.block_lt_of_cell? w0 _ HC1.out)).trans HC1.out⟩
    obtain ⟨t1, t2⟩ := HLO.out wr HL.out.wv.bel
    have q0 : (0 : Int) <= (j : Int) := by omega
    by_cases hlt : j < l.length
    · have q1 : (j : Int) < (l.length : Int) := by omega
      obtain ⟨fb9, fo9, rfl, lfb, hfc⟩ := HLR.out (by omega)
      have hmem : l.getD j (0, 0) ∈ l := getD_in hlt
      have hvq := HV.out _ hmem
      obtain ⟨eg, et, hen⟩ : ∃ eg et, l.getD j (0, 0) = (eg, et) := ⟨_, _, rfl⟩
      have HFC : Hid (∀ w', Below w0.heap.size w0 w' -> w'.cell? ⟨fb9, fo9 + j * 2, none⟩ = some (.int .i64 eg) /\ w'.cell? ⟨fb9, fo9 + j * 2 + 1, none⟩ = some (.int .i64 et)) := fun w' hb => by
        obtain ⟨p0, p1⟩ := hfc j hlt
        rw [hen] at p0 p1
        exact ⟨(hb.cell (p := ⟨fb9, fo9 + j * 2, none⟩) lfb).trans p0, (hb.cell (p := ⟨fb9, fo9 + j * 2 + 1, none⟩) lfb).trans p1⟩
      have HFN : Hid ((l.take (j + 1)).map wI = (l.take j).map wI ++ [wI (eg, et)]) := by
        show _ = _
        rw [take_snoc l j hlt (0, 0), List.map_append, hen]
        rfl
      rw [hen] at hvq
      have hgo := HG.out ((l.take j).map wI)
      rw [<- HP.out] at hgo
      have HPC : Hid (∀ W : World, Lr w0 w3 W mb bb vb fb (.slice la' P'.1.length lc') [] P' la' lc' va' vn' m' -> Calls Tryz.prog 87 (valA eg et mb bb vb fb) W fun e w' => ∃ va5 vn5 m5, e = .returned (.agg #[.int .i64 (vst M (tI T.length) P'.2 (wI (eg, et))).1.1, .int .i64 (vst M (tI T.length) P'.2 (wI (eg, et))).1.2]) /\ Lr w0 w3 w' mb bb vb fb (.slice la' P'.1.length lc') [] (P'.1, (vst M (tI T.length) P'.2 (wI (eg, et))).2) la' lc' va5 vn5 m5 /\ Kx w0 W m' w' m5) := fun W hL => by
        refine (HI.out W P'.2 va' vn' (.slice la' P'.1.length lc') m' (eg, et) hL.wv hgo.ok hvq (by omega)).mono ?_
        rintro e w5 ⟨va5, vn5, m5, rfl, hW5, hK5⟩
        exact ⟨va5, vn5, m5, rfl, hL.call hW5 hK5, hK5⟩
      have HN2 : Hid ((P'.1 ++ [(vst M (tI T.length) P'.2 (wI (eg, et))).1], (vst M (tI T.length) P'.2 (wI (eg, et))).2) = vls M (tI T.length) ([], []) ((l.take (j + 1)).map wI)) := by
        show _ = _
        rw [HFN.out, vls_snoc, <- HP.out]
      have hPl : P'.1.length <= 100000 := by
        rw [HP.out, vls_len, List.length_map, List.length_take]
        omega
      have u1 := HL.out.wv.cells.2.2.1
      obtain ⟨u2, u3⟩ := HFC.out wr HL.out.wv.bel
      generalize vst M (tI T.length) P'.2 (wI (eg, et)) = V at *
      obtain ⟨⟨v1, v2⟩, sB⟩ := V
      dsimp only at HPC HN2
      have HL1 := HL.out
      have n1 : wr.heap.size ≠ fb := by have : fb < wr.heap.size := World.block_lt_of_cell? wr _ u1; omega
      have n2 : wr.heap.size ≠ fb9 := by have : fb9 < wr.heap.size := World.block_lt_of_cell? wr _ u2; omega
      have n3 : wr.heap.size ≠ bb := by have : bb < wr.heap.size := World.block_lt_of_cell? wr _ t1; omega
      have n4 : wr.heap.size ≠ rp := by have : rp < wr.heap.size := World.block_lt_of_cell? wr _ t2; omega
      clear HFN HP hfc hmem hgo hvq HL hen
      go_wp2_with fail
      generalize hWW : wr = W at *
      clear hWW
      have PC := HPC.out W.drew (HL1.below (Below.refl _ W).drew)
      have PD := HPC.out (W.alloc (.cells #[.int .i64 0, .int .i64 0] 100)).drew (HL1.below ((Below.refl _ W).alloc (Nat.le_refl _) _).drew)
      have HL1 : Hid (Lr w0 w3 W mb bb vb fb (.slice la' P'.1.length lc') [] P' la' lc' va' vn' m') := HL1
      clear HPC
      go_region_held3 (fun w' => w'.cell? ⟨fb, 0, none⟩ = some (fnV mb bb vb fb) /\ w'.cell? ⟨bb, 0, none⟩ = some (.pointer (some ⟨rp, 0, none⟩)) /\ w'.cell? ⟨rp, 1, none⟩ = some (.slice (some ⟨fb9, fo9, none⟩) l.length rc) /\ w'.cell? ⟨fb9, fo9 + j * 2, none⟩ = some (.int .i64 eg) /\ w'.cell? ⟨fb9, fo9 + j * 2 + 1, none⟩ = some (.int .i64 et)) (go_keep) (first | (go_at_call 87; refine PC.mono ?_; clear PC PD; rintro e w5 ⟨va5, vn5, m5, rfl, hL5, _⟩; have HL5 : Hid (Lr w0 w3 w5 mb bb vb fb (.slice la' P'.1.length lc') [] (P'.1, sB) la' lc' va5 vn5 m5) := hL5; obtain ⟨b1, b2⟩ := HFC.out w5 hL5.wv.bel; have b4 := hL5.wv.cells.2.2.1; obtain ⟨b5, b6⟩ := HLO.out w5 hL5.wv.bel; clear hL5) | (go_at_call 87; refine PD.mono ?_; clear PC PD; rintro e w5 ⟨va5, vn5, m5, rfl, hL5, hK5⟩; have hla := HL1.out.late hL5 (show Kx w0 (W.alloc (.cells #[.int .i64 0, .int .i64 0] 100)) m' w5 m5 from (Kx.of (Below.refl _ _).drew).trans hK5) v1 v2; have HL6 : Hid (Lr w0 w3 ((w5.setCell ⟨W.heap.size, 0, none⟩ (.int .i64 v1)).setCell ⟨W.heap.size, 1, none⟩ (.int .i64 v2)) mb bb vb fb (.slice la' P'.1.length lc') [] (P'.1, sB) la' lc' va5 vn5 m5 /\ w5.heap[W.heap.size]? = some (.cells #[.int .i64 0, .int .i64 0] 100 (0, 0))) := ⟨hla.2, hla.1⟩; have c0 : w5.cell? ⟨W.heap.size, 0, none⟩ = some (.int .i64 0) := (by simp [World.cell?, hla.1]); have c1 : w5.cell? ⟨W.heap.size, 1, none⟩ = some (.int .i64 0) := (by simp [World.cell?, hla.1]); have c2 : w5.frozen? ⟨W.heap.size, 0, none⟩ = false := (by simp [World.frozen?, hla.1]); have c4 : w5.frozen? ⟨W.heap.size, 1, none⟩ = false := (by simp [World.frozen?, hla.1]); obtain ⟨b1, b2⟩ := HFC.out w5 hL5.wv.bel; have b4 := hL5.wv.cells.2.2.1; obtain ⟨b5, b6⟩ := HLO.out w5 hL5.wv.bel; clear hL5 hla hK5))
      all_goals
        first
        | (have HY : Hid (Lr w0 w3 (w5.alloc (.cells #[.int .i64 v1, .int .i64 v2] 100)) mb bb vb fb (.slice la' P'.1.length lc') [] (P'.1, sB) la' lc' va5 vn5 m5 /\ (w5.alloc (.cells #[.int .i64 v1, .int .i64 v2] 100)).cell? ⟨w5.heap.size, 0, none⟩ = some (.int .i64 v1) /\ (w5.alloc (.cells #[.int .i64 v1, .int .i64 v2] 100)).cell? ⟨w5.heap.size, 1, none⟩ = some (.int .i64 v2)) := ⟨HL5.out.below ((Below.refl _ w5).alloc (Nat.le_refl _) _), by have hh := heap_alloc_new w5 (.cells #[.int .i64 v1, .int .i64 v2] 100); unfold World.cell?; dsimp only; rw [hh]; rfl, by have hh := heap_alloc_new w5 (.cells #[.int .i64 v1, .int .i64 v2] 100); unfold World.cell?; dsimp only; rw [hh]; rfl⟩
           clear HL5 b1 b2 b4 b5 b6
           generalize w5.alloc (.cells #[.int .i64 v1, .int .i64 v2] 100) = w6 at *
           generalize w5.heap.size = yb at *)
        | (have HY : Hid (Lr w0 w3 ((w5.setCell ⟨W.heap.size, 0, none⟩ (.int .i64 v1)).setCell ⟨W.heap.size, 1, none⟩ (.int .i64 v2)) mb bb vb fb (.slice la' P'.1.length lc') [] (P'.1, sB) la' lc' va5 vn5 m5 /\ ((w5.setCell ⟨W.heap.size, 0, none⟩ (.int .i64 v1)).setCell ⟨W.heap.size, 1, none⟩ (.int .i64 v2)).cell? ⟨W.heap.size, 0, none⟩ = some (.int .i64 v1) /\ ((w5.setCell ⟨W.heap.size, 0, none⟩ (.int .i64 v1)).setCell ⟨W.heap.size, 1, none⟩ (.int .i64 v2)).cell? ⟨W.heap.size, 1, none⟩ = some (.int .i64 v2)) := ⟨HL6.out.1, by rw [World.cell?_setCell_other _ _ _ _ (by simp)]; exact World.cell?_setCell_same _ _ _ (u := .int .i64 0) c0, World.cell?_setCell_same _ _ _ (u := .int .i64 0) ((World.cell?_setCell_other _ _ _ _ (by simp)).trans c1)⟩
           clear HL6 b1 b2 b4 b5 b6 c0 c1 c2 c4
           generalize (w5.setCell ⟨W.heap.size, 0, none⟩ (.int .i64 v1)).setCell ⟨W.heap.size, 1, none⟩ (.int .i64 v2) = w6 at *
           clear u1 u2 u3 n1 n2 n3 n4 t1 t2 HL1
           generalize W.heap.size = yb at *)
      all_goals
        have k1 := HY.out.2.1
        have k2 := HY.out.2.2
        have k3 := HY.out.1.wv.cells.2.2.2.2.2.2.2.2
        have lvb : vb < w6.heap.size := World.block_lt_of_cell? w6 _ k3
        have HBS : Hid (Below w6.heap.size w6 (w6.alloc (.cells #[.int .i64 v1, .int .i64 v2] 100))) := (Below.refl w6.heap.size w6).alloc (Nat.le_refl _) _
        have HSC : Hid (∀ a, (some ⟨w6.heap.size, 0, none⟩ : Option Addr) = some a -> ∀ k u, (ev [(v1, v2)])[k]? = some u -> (w6.alloc (.cells #[.int .i64 v1, .int .i64 v2] 100)).cell? (a.add k) = some u) := val_src v1 v2
        have rx2 := row_keep HY.out.1.row (fun k e => HBS.out.block k (row_lt HY.out.1.row k e).2)
        dsimp only at rx2
        have hsz : Hid (w3.heap.size <= w6.heap.size) := HY.out.1.kx.1.size
        go_upto_region 7 with (at_builtin; refine wpList_append_src _ rfl _ _ 62 rfl w3.heap.size 100 ie (.agg #[.int .i64 0, .int .i64 0]) 2 16 Tryz.underlying62 hie hze0 hze1 hze2 rfl (by decide) (.slice la' P'.1.length lc') P'.1.length (ev P'.1) rfl rx2 (some ⟨w6.heap.size, 0, none⟩) 1 1 (ev [(v1, v2)]) rfl rfl (fun e => by cases e) HSC.out (ev_one _) (by unfold maxLen; omega) (by omega) (by have := hsz.out; simp; omega) ?_; intro ra' rc' w10 hown10 hgrow10 hnb10; have HB9 : Hid (Lr w0 w3 w10 mb bb vb fb (.slice la' P'.1.length lc') [] (P'.1 ++ [(v1, v2)], sB) ra' rc' va5 vn5 m5) := (HY.out.1.push HBS.out hgrow10 hown10 hnb10); have HB10 : Hid (Lr w0 w3 (w10.setCell ⟨vb, 0, none⟩ (.slice ra' (P'.1.length + 1) rc')) mb bb vb fb (.slice ra' (P'.1.length + 1) rc') [] (P'.1 ++ [(v1, v2)], sB) ra' rc' va5 vn5 m5 /\ w10.heap[vb]? = some (.cells #[.slice la' P'.1.length lc', vn5] 65 (0, 0))) := (lr_rooted HB9.out _); have s0 : w10.cell? ⟨vb, 0, none⟩ = some (.slice la' P'.1.length lc') := (by simp [World.cell?, HB10.out.2]); have s1 : w10.frozen? ⟨vb, 0, none⟩ = false := (by simp [World.frozen?, HB10.out.2]))
        clear hown10 hgrow10 hnb10 rx2
        go_wp2_with fail
        go_roundw
        case rel => exact ⟨j + 1, (P'.1 ++ [(v1, v2)], sB), ra', rc', va5, vn5, m5, by omega, by go_num, HN2, by rw [show (P'.1 ++ [(v1, v2)], sB).1.length = P'.1.length + 1 by simp]; exact HB10.out.1⟩
        case measure => simp [intOf]; omega
    · obtain rfl : j = l.length := by omega
      have HPE : Hid (P' = RR) := by
        have h1 := HP.out
        rw [List.take_length] at h1
        exact h1.trans HE.out.symm
      have hPl : P'.1.length = l.length := by rw [HP.out, vls_len, List.length_map, List.length_take]; simp
      obtain ⟨na, nc, e2⟩ := row_slice HL.out.wv.nr
      subst e2
      have z1 := HL.out.wv.cells.2.1
      have z0 := HL.out.wv.cells.2.2.2.2.2.2.2.2
      have hr3 := (HL.out.wv.bel.block rb HBB.out.2).trans HRB.out
      have y0 : wr.cell? ⟨rb, 0, none⟩ = some (.slice none 0 0) := by simp [World.cell?, hr3]
      have y1 : wr.cell? ⟨rb, 1, none⟩ = some (.slice none 0 0) := by simp [World.cell?, hr3]
      have f0 : wr.frozen? ⟨rb, 0, none⟩ = false := by simp [World.frozen?, hr3]
      have f1 : wr.frozen? ⟨rb, 1, none⟩ = false := by simp [World.frozen?, hr3]
      have HR3 : Hid (_ = _) := hr3
      clear hr3 HP
      go_wp2_with fail
      obtain ⟨W0, hW0⟩ : ∃ W0, W0 = (wr.setCell ⟨rb, 0, none⟩ (.slice la' l.length lc')).setCell ⟨rb, 1, none⟩ (.slice na m'.length nc) := ⟨_, rfl⟩
      rw [<- hW0]
      have g0 : W0.cell? ⟨rb, 0, none⟩ = some (.slice la' l.length lc') := by
        rw [hW0, World.cell?_setCell_other _ _ _ _ (by simp)]
        exact World.cell?_setCell_same _ _ _ y0
      have g1 : W0.cell? ⟨rb, 1, none⟩ = some (.slice na m'.length nc) := by
        rw [hW0]
        exact World.cell?_setCell_same _ _ _ ((World.cell?_setCell_other wr ⟨rb, 0, none⟩ ⟨rb, 1, none⟩ _ (by simp)).trans y1)
      have hF : Fr (fun k => k = rb) wr W0 := by rw [hW0]; exact ((Fr.refl (fun k => k = rb) wr).set rb 0 _ rfl).set rb 1 _ rfl
      clear hW0
      have hW2 := HL.out.wv
      have hr2 := HL.out.row
      have hsw : w.heap.size <= w3.heap.size := Nat.le_trans (by have := HSZ.out.1; omega) HL.out.hs
      have eL : ∀ {ad : Option Addr} {L : List (Int × Int)}, Lv wr ad L -> Lp W0 ad L := fun {ad L} h => h.1.keep hF.size (fun hp b e => by
        obtain ⟨b0, o0, cs, e0, hb⟩ := h.2 hp
        rw [e0] at e
        cases e
        refine hF.block _ (lt_of_some hb) (fun c => ?_)
        have c : b0 = rb := c
        rw [c, HR3.out] at hb
        simp at hb)
      have hbl : Below w.heap.size w W0 := by
        rw [hbb]
        refine (HSZ.out.2.trans (hW2.bel.mono HSZ.out.1)).trans (hF.below ?_ (fun k e => ?_))
        · exact Nat.le_trans HSZ.out.1 hW2.bel.size
        · have e : k = rb := e
          omega
      rw [<- HPE.out]
      refine bodyPost_ret (v := .agg #[.slice la' l.length lc', .slice na m'.length nc]) (by simp [results, Tryz.results31, go_sem, g0, g1]) rfl ⟨la', lc', na, m'.length, nc, rfl, ⟨eL (Lv.of hr2), fun hp => ?_⟩, ⟨m', hW2.nd, fun x hx => eL (hW2.fl x hx), fun k hk => ?_, fun hp => ?_⟩, hW2.len, hbl⟩
      · obtain ⟨b, cap, e⟩ := row_shape hr2 hp
        cases e
        exact ⟨b, 0, rfl, Nat.le_trans hsw (row_lt hr2 b rfl).1⟩
      · rcases HL.out.kx.2 k hk with ⟨x, hx, _⟩ | d
        · cases hx
        · exact Nat.le_trans hsw d
      · obtain ⟨b, cap, e⟩ := row_shape hW2.nr hp
        cases e
        have hbs := (row_lt hW2.nr b rfl).1
        obtain ⟨cur, hcur⟩ := row_type hW2.nr b rfl
        have hne : b ≠ rb := fun c => by
          rw [c, HR3.out] at hcur
          simp at hcur
        refine ⟨b, 0, rfl, by have := HSZ.out.1; omega, Nat.lt_of_lt_of_le (lt_of_some hcur) hF.size, fun i x hx => ?_⟩
        obtain ⟨n1, n2⟩ := nv_get m' i x hx
        rw [Nat.zero_add]
        exact ⟨(World.cell?_of_block (a := ⟨b, i * 2, none⟩) (hF.block b (lt_of_some hcur) hne)).trans (row_cell hW2.nr n1).1, (World.cell?_of_block (a := ⟨b, i * 2 + 1, none⟩) (hF.block b (lt_of_some hcur) hne)).trans (row_cell hW2.nr n2).1⟩
end
end Go.Proofs.YtnalfnlmaallmaaGreat.Vr4

namespace Go.Proofs.YtnalfnlmaallmaaGreat
open Go.RowKit W Kp Stl
end Go.Proofs.YtnalfnlmaallmaaGreat

namespace Go.Proofs.YtnalfnlmaallmaaGreat
open Go.RowKit W Kp Stl
section
variable {τ : Type} {o : Ob τ} {bx bn : Nat} {x : Obj} {F : Nat -> Prop} {w : World}
end
section
variable {c : Jc} {k : Jk} {vt ve : Value} {F : Nat -> Prop} {s : Js} {w : World}
end
end Go.Proofs.YtnalfnlmaallmaaGreat

namespace Go.Proofs.YtnalfnlmaallmaaGreat
open Go.RowKit W Kp Stl
section
variable {c : Jc} {k : Jk} {vt ve : Value} {F : Nat -> Prop} {s : Js} {w : World}
end
end Go.Proofs.YtnalfnlmaallmaaGreat

namespace Go.Proofs.YtnalfnlmaallmaaGreat
set_option maxRecDepth 100000
set_option maxHeartbeats 2000000
open Go.RowKit W Kp Stl
section
variable {c : Cc} {k : Ck} {F : Nat -> Prop} {s : Cs} {w : World}
theorem breakE_any (h : (cutO c k).J F s w) (hI : CI k s) (hl : s.ep.length <= 10000) :
  Calls Tryz.prog 68 #[.pointer (some ⟨c.pk, 0, none⟩)] w fun e w' => e = .returned (.tuple #[]) /\ (cutO c k).J F (k.be s s.ep) w' /\ Tn F w F w' := by
 obtain ⟨vw, ve, h⟩ := h
 obtain ⟨c0, _, _, _, c4, c5, _, _, _, cz, _, er, _, lk, _⟩ := cut_cells h
 obtain ⟨ad, cap, rfl⟩ := row_slice er
 have HI : Hid (CI k s) := hI
 have HP : Hid (∀ a ∈ s.ep, (k.N : Int) <= a /\ a <= 2000) := hI.ep0
 have hN0 : (0 : Int) <= k.N := by omega
 clear hI cz
 go_enter Tryz.func68, Tryz.ntmps68
 go_wp2_with fail
 go_loopw [9] (fun iv wr => ∃ (j : Nat) (s1 : Cs), j <= s.ep.length /\ iv = .int .i64 j /\ Hid (k.be s (s.ep.take j) = s1) /\ (cutV c k vw (.slice ad s.ep.length cap)).J F s1 wr /\ Tn F w F wr /\ Hid (CI k s1 /\ Cq k s s1)) (fun iv _ => s.ep.length - (intOf iv).toNat)
 case atStart => exact ⟨0, s, Nat.zero_le _, rfl, rfl, h, Tn.refl _ _, ⟨HI.out, Cq.refl _ _⟩⟩
 case round =>
  obtain ⟨j, s1, hj, rfl, HE, hJ, hT, HI1⟩ := hrel
  obtain ⟨d0, _, _, _, d4, d5, _, _, _, dz, _, er1, _, lk1, _⟩ := cut_cells hJ
  have eep := HI1.out.2.ep
  rw [eep] at er1
  by_cases hlt : j < s.ep.length
  ·obtain ⟨b0, o0, e0, hb0, hc⟩ := row_ints er1 (by omega)
   have x1 := hc j hlt
   subst e0
   have hin : s.ep.getD j 0 ∈ s.ep := by rw [List.getD_eq_getElem?_getD, List.getElem?_eq_getElem hlt]; exact List.getElem_mem hlt
   have hbd := HP.out _ hin
   have HS : Hid (k.be s (s.ep.take (j + 1)) = k.be1 s1 (s.ep.getD j 0)) := by
    show _ = _
    rw [take_snoc s.ep j hlt 0]
    unfold Ck.be
    rw [List.foldl_append]
    have := HE.out
    unfold Ck.be at this
    rw [this]
    rfl
   generalize s.ep.getD j 0 = a at x1 hbd HS
   have HI2 : Hid (CI k (k.be1 s1 a) /\ Cq k s (k.be1 s1 a)) := by
    obtain ⟨i1, i2⟩ := HI1.out.1.be1 hbd.1
    exact ⟨i1, HI1.out.2.trans i2⟩
   have HB : Hid (k.be1 s1 a = k.st (k.st s1 (a + 1) 3) (a + 2) 3) := rfl
   generalize k.be1 s1 a = s3 at HS HI2 HB
   have HJ1 : Hid ((cutV c k vw (.slice (some ⟨b0, o0, none⟩) s.ep.length cap)).J F s1 wr /\ Tn F w F wr) := ⟨hJ, hT⟩
   have hA := (cut_arena ((cutV c k vw (.slice (some ⟨b0, o0, none⟩) s.ep.length cap)).below hJ (Below.refl _ wr).drew))
   have HA : Hid (_ /\ _) := hA
   have hw1 : IntKind.i64.wrap (a + 1) = a + 1 := by rw [IntKind.wrap_i64]; omega
   have hw2 : IntKind.i64.wrap (a + 2) = a + 2 := by rw [IntKind.wrap_i64]; omega
   clear hc hin hJ hT hA dz er1 d4
   go_wp2_with fail
   go_region_held3 (fun w' => w'.cell? ⟨c.pk, 0, none⟩ = some (.pointer (some ⟨c.pw, 0, none⟩)) /\ w'.cell? ⟨c.pw, 0, none⟩ = some (.pointer (some ⟨c.p, 0, none⟩))) (go_keep)
    (first
     | (go_at_call 144; refine (gone_any _).mono ?_; rintro e w2 ⟨rfl, hw2'⟩; have hw2' := hw2'.symm; subst hw2')
     | (go_at_call 111; refine (store_any (a + 1) 3 wr.drew HA.out.1).mono ?_; rintro e w3 ⟨rfl, hA3, hs3⟩; obtain ⟨hJ3, hT3⟩ := HA.out.2 w3 _ _ hA3 hs3; obtain ⟨g0, _, _, _, _, g5, _⟩ := cut_cells hJ3; have HJ3 : Hid ((cutV c k vw (.slice (some ⟨b0, o0, none⟩) s.ep.length cap)).J F (k.st s1 (a + 1) 3) w3 /\ Tn F w F w3) := ⟨hJ3, (HJ1.out.2.below (Below.refl _ wr).drew).trans hT3⟩; clear hA3 hs3 hJ3 hT3 HA HJ1))
   have hA := (cut_arena ((cutV c k vw (.slice (some ⟨b0, o0, none⟩) s.ep.length cap)).below HJ3.out.1 (Below.refl _ w3).drew))
   have HA : Hid (_ /\ _) := hA
   clear hA d0 d5
   go_wp2_with fail
   go_region_held3 (fun w' => w'.cell? ⟨c.pk, 0, none⟩ = some (.pointer (some ⟨c.pw, 0, none⟩)) /\ w'.cell? ⟨c.pw, 0, none⟩ = some (.pointer (some ⟨c.p, 0, none⟩))) (go_keep)
    (first
     | (go_at_call 144; refine (gone_any _).mono ?_; rintro e w2 ⟨rfl, hw2'⟩; have hw2' := hw2'.symm; subst hw2')
     | (go_at_call 111; refine (store_any (a + 2) 3 w3.drew HA.out.1).mono ?_; rintro e w5 ⟨rfl, hA3, hs3⟩; obtain ⟨hJ5, hT5⟩ := HA.out.2 w5 _ _ hA3 hs3; obtain ⟨r0, _, _, _, _, r5, _⟩ := cut_cells hJ5; have HJ5 : Hid ((cutV c k vw (.slice (some ⟨b0, o0, none⟩) s.ep.length cap)).J F s3 w5 /\ Tn F w F w5) := ⟨(by rw [HB.out]; exact hJ5), (HJ3.out.2.below (Below.refl _ w3).drew).trans hT5⟩; clear hA3 hs3 hJ5 hT5 HA HJ3))
   clear g0 g5 r0 r5
   go_wp2_with fail
   go_roundw
   case rel => exact ⟨j + 1, s3, by omega, by go_num, HS, HJ5.out.1, HJ5.out.2, HI2⟩
   case measure => simp [intOf]; omega
  ·obtain rfl : j = s.ep.length := by omega
   rw [List.take_length] at HE
   go_wp2_with fail
   go_end0
   rw [HE.out]
   exact ⟨rfl, ⟨_, _, hJ⟩, hT⟩
end
end Go.Proofs.YtnalfnlmaallmaaGreat

namespace Go.Proofs.YtnalfnlmaallmaaGreat
open Go.RowKit W Kp Stl
section
variable {c : Jc} {k : Jk} {vt ve : Value} {F : Nat -> Prop} {s : Js} {w : World}
open Classical in
end
end Go.Proofs.YtnalfnlmaallmaaGreat

namespace Go.Proofs.YtnalfnlmaallmaaGreat
open Go.RowKit W Kp Stl
section
variable {c : Jc} {k0 k : Jk} {vt ve : Value} {F : Nat -> Prop} {s : Js} {w : World} {bp : Nat}
end
end Go.Proofs.YtnalfnlmaallmaaGreat

namespace Go.Proofs.YtnalfnlmaallmaaGreat
open Go.RowKit W Kp Stl
section
variable {c : Jc} {k0 k : Jk} {vt ve vr : Value} {F : Nat -> Prop} {s : Js} {w : World} {bp : Nat}
end
end Go.Proofs.YtnalfnlmaallmaaGreat

namespace Go.Proofs.YtnalfnlmaallmaaGreat
open Go.RowKit W Kp Stl
section
variable {c : Jc} {k0 k : Jk} {vt ve vr : Value} {F : Nat -> Prop} {s : Js} {w : World} {bp : Nat}
end
end Go.Proofs.YtnalfnlmaallmaaGreat

namespace Go.Proofs.YtnalfnlmaallmaaGreat
open Go.RowKit W Kp Stl
section
variable {c : Jc} {k0 k : Jk} {vt ve vr : Value} {F : Nat -> Prop} {s : Js} {w : World} {bp bn : Nat}
end
end Go.Proofs.YtnalfnlmaallmaaGreat

namespace Go.Proofs.YtnalfnlmaallmaaGreat
open Go.RowKit W Kp Stl
section
variable {N y g : Nat} {ws : List Int} {hi : Int}
theorem ths_nd : ∀ (k : Nat) (a : Int), (ths N y g ws hi k a).Nodup
 | 0, a => by unfold ths; exact List.nodup_nil
 | k + 1, a => by
  unfold ths
  split
  ·split
   ·rw [List.nodup_cons]
    refine ⟨fun h => ?_, ths_nd k _⟩
    have h1 := (ths_bd k _ _ h).1
    have h2 := pf_bd (ld N y g ws a)
    omega
   ·exact List.nodup_nil
  ·exact List.nodup_nil
theorem ths_pc : ∀ (k : Nat) (a x : Int), x ∈ ths N y g ws hi k a -> pc (ld N y g ws x) = 0
 | 0, a, x, h => by simp [ths] at h
 | k + 1, a, x, h => by
  unfold ths at h
  split at h
  ·split at h
   ·rcases List.mem_cons.1 h with h | h
    ·rw [h]; assumption
    ·exact ths_pc k _ x h
   ·simp at h
  ·simp at h
theorem Tw_sum : ∀ (k : Nat) (a : Int), (((ths N y g ws y k a).filter (fun a => decide (a + pf (ld N y g ws a) < y))).map (fun a => 1 + (pf (ld N y g ws a)).toNat)).sum <= ((y : Int) - a).toNat
 | 0, a => by simp [ths]
 | k + 1, a => by
  unfold ths
  split
  ·split
   ·have ih := Tw_sum k (a + (1 + pf (ld N y g ws a)))
    have h2 := pf_bd (ld N y g ws a)
    by_cases c : a + pf (ld N y g ws a) < y
    ·rw [List.filter_cons_of_pos (by simpa using c)]
     simp only [List.map_cons, List.sum_cons]
     omega
    ·rw [List.filter_cons_of_neg (by simpa using c)]
     omega
   ·simp
  ·simp
end
def Wst.k0 (a : Wc) (s : Wst) : Ck := ⟨a.N, a.O, s.y, Tw a.N s.y s.g s.ws⟩
def Wst.s0 (a : Wc) (s : Wst) : Cs := ⟨s.g, s.ws, fun _ => -1, (a.N : Int) + s.g, [], [], s.rs⟩
theorem CI.start {a : Wc} {s : Wst} (hN : 16 <= a.N) (hN' : a.N <= 256) (hO : a.O <= 1024) (hy : s.y <= a.N) (hg : s.g <= a.O) (hl : s.ws.length = a.N + a.O) (hr : s.y <= a.O - s.g) : CI (s.k0 a) (s.s0 a) := by
 have hT : ∀ x ∈ Tw a.N s.y s.g s.ws, x ∈ thY a.N s.y s.g s.ws /\ x + pf (ld a.N s.y s.g s.ws x) < s.y := fun x hx => by simpa [Tw] using hx
 refine ⟨hN, hN', hO, hy, hg, hl, fun x hx => ?_, (ths_nd 2000 0).filter _, ?_, ?_, ?_, by simp [Wst.s0], by simp [Wst.s0], ?_⟩
 ·obtain ⟨h1, h2⟩ := hT x hx
  exact ⟨(thY_bd x h1).1, ths_pc _ _ _ h1, by show x + 1 + pf (ld a.N s.y s.g s.ws x) <= s.y; omega⟩
 ·have h1 := Tw_sum (N := a.N) (y := s.y) (g := s.g) (ws := s.ws) 2000 0
  have e : (s.k0 a).sz (s.s0 a) = (((ths a.N s.y s.g s.ws s.y 2000 0).filter (fun x => decide (x + pf (ld a.N s.y s.g s.ws x) < s.y))).map (fun x => 1 + (pf (ld a.N s.y s.g s.ws x)).toNat)).sum := by
   unfold Ck.sz
   have e2 : (s.k0 a).T.filter (fun x => (s.s0 a).f x == -1) = (s.k0 a).T := List.filter_eq_self.2 (fun _ _ => rfl)
   rw [e2]
   rfl
  rw [e]
  show _ <= a.O - s.g
  omega
 ·show (a.N : Int) <= (a.N : Int) + s.g
  omega
 ·show (a.N : Int) + s.g <= (a.N : Int) + a.O + 13
  omega
 ·exact Nat.le_trans (List.length_filter_le _ _) (ths_le _ _)
def Wst.s1 (a : Wc) (s : Wst) : Cs := (s.k0 a).kr (s.s0 a) 12
def Wst.s2 (a : Wc) (s : Wst) : Cs := (s.k0 a).lm (nC a.O) s.M (s.s1 a) (thO a.N s.y (s.s1 a).g (s.s1 a).ws)
def Ww.t3 (a : Wc) (S : Ww) : Cs × List En := (S.s.k0 a).sp (S.s.s2 a, S.q)
def Ww.s4 (a : Wc) (S : Ww) : Cs := ((S.s.k0 a).sS (S.t3 a) S.r).1
def Ww.s5 (a : Wc) (S : Ww) : Cs := (S.s.k0 a).mw (S.s4 a) (S.s4 a).wk
def Ww.s6 (a : Wc) (S : Ww) : Cs := (S.s.k0 a).be (S.s5 a) (S.s5 a).ep
def Ww.full (a : Wc) (S : Ww) : Bool := decide (a.O - S.s.g < S.s.y)
def Ww.cut (a : Wc) (S : Ww) : Ww := if S.full a = true then S else ⟨⟨0, (S.s6 a).g, (S.s6 a).ws, [], (S.s6 a).rs⟩, (S.s.k0 a).sR (S.t3 a) S.r, (S.s.k0 a).sQ (S.t3 a) S.r⟩
def Ww.code (a : Wc) (S : Ww) : Int := if S.full a = true then 3 else 0
end Go.Proofs.YtnalfnlmaallmaaGreat
