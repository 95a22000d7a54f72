/- Joined: Vr7, Mj14, Mj15. -/
import Derived.Test.YtnalfnlmaallmaaGreatVr6
import Derived.Test.YtnalfnlmaallmaaGreatJ23
import Derived.Test.YtnalfnlmaallmaaGreatJ22
import Derived.Test.YtnalfnlmaallmaaGreatJ18
import Derived.Test.YtnalfnlmaallmaaGreatJ02
namespace Go.Proofs.YtnalfnlmaallmaaGreat.Vr4
set_option maxRecDepth 100000
set_option maxHeartbeats 8000000
open Go.RowKit W Kp Stl
theorem vals_all {w0 : World} {mb bb vb fb rp : Nat} {T : List Tw1} {wt : List En} (hR : Rd w0 bb rp T wt) (hw : Wvw T wt) : ∀ n, Vals w0 mb bb vb fb T (met (tI T.length) (kdW T) (shW T wt) n) n := by
 intro n
 induction n with
 | zero =>
  intro w s va vn vr m v h hO hv hn
  have hl : s.1.length <= 100000 := by
   have h1 := hO.le
   rw [tI_len] at h1
   have := hw.l1
   omega
  by_cases h3 : v.1 = 3
  ·cases hs : s.1.contains v.2
   ·exfalso
    have h1 := hO.lt (tI_mem.2 (hv.lt h3)) (fun c => by rw [List.contains_iff_mem.2 c] at hs; cases hs)
    rw [tI_len] at h1
    omega
   ·rw [vst_met hv h3 hs]
    have e : valA v.1 v.2 mb bb vb fb = valA 3 v.2 mb bb vb fb := by rw [h3]
    rw [e]
    refine (valueW_met h v.2 hl hs).mono ?_
    rintro e w' ⟨rfl, hb⟩
    exact ⟨_, _, m, rfl, h.below hb, Kx.of hb⟩
  ·rw [vst_o hv h3]
   refine (valueW_o w v.1 v.2 h3).mono ?_
   rintro e w' ⟨rfl, hb⟩
   exact ⟨_, _, m, rfl, h.below hb, Kx.of hb⟩
 | succ n ih =>
  intro w s va vn vr m v h hO hv hn
  have hl : s.1.length <= 100000 := by
   have h1 := hO.le
   rw [tI_len] at h1
   have := hw.l1
   omega
  by_cases h3 : v.1 = 3
  ·have e : valA v.1 v.2 mb bb vb fb = valA 3 v.2 mb bb vb fb := by rw [h3]
   rw [e]
   cases hs : s.1.contains v.2
   ·rw [vst_new hv h3 hs]
    obtain ⟨g1, g2⟩ := hv.2 h3
    obtain ⟨a, ha⟩ := Int.eq_ofNat_of_zero_le g1
    rw [ha] at hs g2 ⊢
    rw [Int.toNat_natCast] at g2
    exact valueW_new h hR hw hO a g2 hs ih hn
   ·rw [vst_met hv h3 hs]
    refine (valueW_met h v.2 hl hs).mono ?_
    rintro e w' ⟨rfl, hb⟩
    exact ⟨_, _, m, rfl, h.below hb, Kx.of hb⟩
  ·rw [vst_o hv h3]
   refine (valueW_o w v.1 v.2 h3).mono ?_
   rintro e w' ⟨rfl, hb⟩
   exact ⟨_, _, m, rfl, h.below hb, Kx.of hb⟩
theorem wv_rooted {w0 w : World} {mb bb vb fb : Nat} {s : Vst} {va vn vr : Value} {m : List Vnd} (h : Wv w0 w mb bb vb fb s va vn vr m) (vr' : Value) : Wv w0 (w.setCell ⟨vb, 0, none⟩ vr') mb bb vb fb s va vn vr' m /\ Kw w0.heap.size w (w.setCell ⟨vb, 0, none⟩ vr') := by
 have f2 : Fr (fun k => k = vb) w (w.setCell ⟨vb, 0, none⟩ vr') := (Fr.refl (fun k => k = vb) w).set vb _ _ rfl
 have hk : ∀ k cs e mm, w.heap[k]? = some (Obj.cells cs e mm) -> e ≠ 65 -> (w.setCell ⟨vb, 0, none⟩ vr').heap[k]? = w.heap[k]? := fun k cs e mm hk h2 => f2.block k (lt_of_some hk) (fun d => by
  have d : k = vb := d
  rw [d, h.vc] at hk
  simp at hk
  exact h2 hk.2.1.symm)
 have kw : Kw w0.heap.size w (w.setCell ⟨vb, 0, none⟩ vr') := Kw.fr f2 (fun k d => by
  have d : k = vb := d
  refine ⟨by rw [d]; exact h.lo.2.1, fun cs e mm hc => ?_⟩
  rw [d, h.vc] at hc
  simp at hc
  exact Or.inr (Or.inl hc.2.1.symm))
 refine ⟨⟨h.bel.trans (kw.below h.bel.size), h.lo, (hk _ _ _ _ h.fc (by decide)).trans h.fc, (hk _ _ _ _ h.mc (by decide)).trans h.mc, ?_, row_keep h.mr (fun k e1 => by
  obtain ⟨cs, hc⟩ := row_type h.mr k e1
  exact hk k _ _ _ hc (by decide)), row_keep h.nr (fun k e1 => by
  obtain ⟨cs, hc⟩ := row_type h.nr k e1
  exact hk k _ _ _ hc (by decide)), h.nd, fun x hx => (h.fl x hx).kw kw⟩, kw⟩
 simp only [World.setCell, Array.getElem?_modify, if_true, h.vc, Option.map_some]
 simp
theorem lr_rooted {w0 w3 wr : World} {mb bb vb fb : Nat} {vr va vn : Value} {m1 m' : List Vnd} {P : List (Int × Int) × Vst} {la : Option Addr} {lc : Nat} (h : Lr w0 w3 wr mb bb vb fb vr m1 P la lc va vn m') (vr' : Value) : Lr w0 w3 (wr.setCell ⟨vb, 0, none⟩ vr') mb bb vb fb vr' m1 P la lc va vn m' /\ wr.heap[vb]? = some (.cells #[vr, vn] 65 (0, 0)) := by
 have h1 := wv_rooted h.wv vr'
 refine ⟨⟨h.hs, h1.1, h.kx.trans ⟨h1.2, fun _ d => Or.inl d⟩, row_keep h.row (fun k e => Below.heap_setCell _ _ _ _ (fun e' => ?_)), h.no⟩, h.wv.vc⟩
 obtain ⟨cs, hc⟩ := row_type h.row k e
 have e' : k = vb := by first | exact e' | exact e'.symm
 rw [e', h.wv.vc] at hc
 simp at hc
def vwW (T : List Tw1) (wt : List En) (l : List (Int × Int)) : List (Int × Int) × Vst := vls (met (tI T.length) (kdW T) (shW T wt) T.length) (tI T.length) ([], []) (l.map wI)
section
variable {w : World} {rp : Nat} {T : List Tw1} {wt : List En} {l : List (Int × Int)} {ra : Option Addr} {rc : Nat}
theorem view_start (hg : Wg w rp T wt) : ∃ w0 w3 : World, w0 = ((w.alloc (.cells #[.pointer (some ⟨rp, 0, none⟩)] 35)).alloc (.cells #[.slice none 0 0, .slice none 0 0] 65)) /\ w3 = (((w0.alloc (.cells #[.slice none 0 0, .slice none 0 0] 65)).alloc (.cells #[.slice none 0 0] 81)).alloc (.cells #[(fnV (w.heap.size + 1 + 1 + 1) w.heap.size (w.heap.size + 1 + 1) (w.heap.size + 1 + 1 + 1 + 1))] 149)) /\
  (Rd w0 w.heap.size rp T wt /\ w0.heap.size = w.heap.size + 1 + 1 /\ w0.heap[w.heap.size + 1]? = some (.cells #[.slice none 0 0, .slice none 0 0] 65 (0, 0)) /\ Below w.heap.size w w0 /\
  Lr w0 w3 w3 (w.heap.size + 1 + 1 + 1) w.heap.size (w.heap.size + 1 + 1) (w.heap.size + 1 + 1 + 1 + 1) (.slice none 0 0) [] ([], ([], [])) none 0 (.slice none 0 0) (.slice none 0 0) []) := by
 obtain ⟨w1, e1⟩ : ∃ w1, w1 = (w.alloc (.cells #[.pointer (some ⟨rp, 0, none⟩)] 35)) := ⟨_, rfl⟩
 obtain ⟨w0, e0⟩ : ∃ w0, w0 = w1.alloc (.cells #[.slice none 0 0, .slice none 0 0] 65) := ⟨_, rfl⟩
 obtain ⟨wa, ea⟩ : ∃ wa, wa = w0.alloc (.cells #[.slice none 0 0, .slice none 0 0] 65) := ⟨_, rfl⟩
 obtain ⟨wb, eb⟩ : ∃ wb, wb = wa.alloc (.cells #[.slice none 0 0] 81) := ⟨_, rfl⟩
 obtain ⟨wc, ec⟩ : ∃ wc, wc = wb.alloc (.cells #[(fnV (w.heap.size + 1 + 1 + 1) w.heap.size (w.heap.size + 1 + 1) (w.heap.size + 1 + 1 + 1 + 1))] 149) := ⟨_, rfl⟩
 have s1 : w1.heap.size = w.heap.size + 1 := by rw [e1]; simp
 have s0 : w0.heap.size = w.heap.size + 1 + 1 := by rw [e0]; simp [s1]
 have sa : wa.heap.size = w.heap.size + 1 + 1 + 1 := by rw [ea]; simp [s0]
 have sb : wb.heap.size = w.heap.size + 1 + 1 + 1 + 1 := by rw [eb]; simp [sa]
 have n1 : w1.heap[w.heap.size]? = some (.cells #[.pointer (some ⟨rp, 0, none⟩)] 35 (0, 0)) := by rw [e1]; exact heap_alloc_new w _
 have n0 : w0.heap[w1.heap.size]? = some (.cells #[.slice none 0 0, .slice none 0 0] 65 (0, 0)) := by rw [e0]; exact heap_alloc_new w1 _
 have na : wa.heap[w0.heap.size]? = some (.cells #[.slice none 0 0, .slice none 0 0] 65 (0, 0)) := by rw [ea]; exact heap_alloc_new w0 _
 have nb : wb.heap[wa.heap.size]? = some (.cells #[.slice none 0 0] 81 (0, 0)) := by rw [eb]; exact heap_alloc_new wa _
 have nc : wc.heap[wb.heap.size]? = some (.cells #[(fnV (w.heap.size + 1 + 1 + 1) w.heap.size (w.heap.size + 1 + 1) (w.heap.size + 1 + 1 + 1 + 1))] 149 (0, 0)) := by rw [ec]; exact heap_alloc_new wb _
 have b1 : Below w.heap.size w w1 := by rw [e1]; exact (Below.refl _ _).alloc (Nat.le_refl _) _
 have b0 : Below w1.heap.size w1 w0 := by rw [e0]; exact (Below.refl _ _).alloc (Nat.le_refl _) _
 have ba : Below w0.heap.size w0 wa := by rw [ea]; exact (Below.refl _ _).alloc (Nat.le_refl _) _
 have bb : Below wa.heap.size wa wb := by rw [eb]; exact (Below.refl _ _).alloc (Nat.le_refl _) _
 have bc : Below wb.heap.size wb wc := by rw [ec]; exact (Below.refl _ _).alloc (Nat.le_refl _) _
 have b3 : Below w0.heap.size w0 wc := (ba.trans (bb.mono ba.size)).trans (bc.mono (by omega))
 have hb0 := (b0.block w.heap.size (by omega)).trans n1
 refine ⟨w0, wc, by rw [e0, e1], by rw [ec, eb, ea], ⟨hg.below (b1.trans (b0.mono b1.size)), by simp [World.cell?, hb0]⟩, s0, by rw [<- s1]; exact n0, b1.trans (b0.mono b1.size), Lr.start (P := ([], ([], []))) ⟨b3, ⟨by omega, by omega, by omega⟩, by rw [sb] at nc; exact nc, ?_, ?_, World.ownsRow_nil _ _ _ _, World.ownsRow_nil _ _ _ _, rfl, by simp⟩ rfl⟩
 ·rw [<- sa]; exact (bc.block _ (by omega)).trans nb
 ·rw [<- s0]; exact (bc.block _ (by omega)).trans ((bb.block _ (by omega)).trans na)
theorem viewW_any (hg : Wg w rp T wt) (c1 : w.cell? ⟨rp, 1, none⟩ = some (.slice ra l.length rc)) (hl : Lp w ra l) (hm : l.length <= 100000) (hw : Wvw T wt) (hv : ∀ v ∈ l, Vq T v) :
    Calls Tryz.prog 31 #[.pointer (some ⟨rp, 0, none⟩)] w fun e w' => ∃ r2 d2 na nn nc, e = .returned (.agg #[.slice r2 l.length d2, .slice na nn nc]) /\ LpN w' w.heap.size r2 (vwW T wt l).1 /\ LnN w' w.heap.size na (vwW T wt l).2.2 /\ nn = (vwW T wt l).2.2.length /\ Below w.heap.size w w' := by
  obtain ⟨w0, w3, e0, e3, HS⟩ := view_start (w := w) hg
  have HS : Hid (_) := HS
  have HLR : Hid (Lp w0 ra l) := hl.below HS.out.2.2.2.1
  have HC1 : Hid (w0.cell? ⟨rp, 1, none⟩ = some (.slice ra l.length rc)) := (HS.out.2.2.2.1.cell (p := ⟨rp, 1, none⟩) (World.block_lt_of_cell? w _ c1)).trans c1
  have HI : Hid (Vals w0 (w.heap.size + 1 + 1 + 1) w.heap.size (w.heap.size + 1 + 1) (w.heap.size + 1 + 1 + 1 + 1) T (met (tI T.length) (kdW T) (shW T wt) T.length) T.length) := vals_all HS.out.1 hw _
  have HM : Hid (Vmet (tI T.length) (kdW T) (shW T wt) T.length (met (tI T.length) (kdW T) (shW T wt) T.length)) := met_go _
  have HE : Hid (vwW T wt l = vls (met (tI T.length) (kdW T) (shW T wt) T.length) (tI T.length) ([], []) (l.map wI)) := rfl
  have HV : Hid (∀ v ∈ l, Vq T v) := hv
  have HW : Hid (Wvw T wt) := hw
  generalize vwW T wt l = RR at *
  generalize met (tI T.length) (kdW T) (shW T wt) T.length = M at *
  have HG : Hid (∀ l, Vgo (tI T.length) (kdW T) (shW T wt) ([], []) (vls M (tI T.length) ([], []) l).2 (vls M (tI T.length) ([], []) l).1) := fun l => vls_go HM.out (VOk.start _) (by rw [tI_len]; simp) l
  clear hg c1 hl hv hw
  go_enter Tryz.func31, Tryz.ntmps31
  go_wp2_with fail
  rw [show (((w.alloc (.cells #[.pointer (some ⟨rp, 0, none⟩)] 35))).alloc (.cells #[.slice none 0 0, .slice none 0 0] 65)) = w0 from e0.symm, show (((w0.alloc (.cells #[.slice none 0 0, .slice none 0 0] 65)).alloc (.cells #[.slice none 0 0] 81)).alloc (.cells #[(fnV (w.heap.size + 1 + 1 + 1) w.heap.size (w.heap.size + 1 + 1) (w.heap.size + 1 + 1 + 1 + 1))] 149)) = w3 from e3.symm]
  obtain ⟨ie, hie, hze0, hze1, hze2⟩ := info_parts infoVal
  have HBB : Hid (w.heap.size < w0.heap.size /\ w.heap.size + 1 < w0.heap.size) := by have := HS.out.2.1; exact ⟨by omega, by omega⟩
  have HSZ : Hid (w.heap.size <= w0.heap.size /\ Below w.heap.size w w0) := ⟨by have := HBB.out.1; omega, HS.out.2.2.2.1⟩
  have HBX : Hid (w0.cell? ⟨w.heap.size, 0, none⟩ = some (.pointer (some ⟨rp, 0, none⟩))) := HS.out.1.bx
  have HRB : Hid (w0.heap[w.heap.size + 1]? = some (.cells #[.slice none 0 0, .slice none 0 0] 65 (0, 0))) := HS.out.2.2.1
  have HST : Hid (Lr w0 w3 w3 (w.heap.size + 1 + 1 + 1) w.heap.size (w.heap.size + 1 + 1) (w.heap.size + 1 + 1 + 1 + 1) (.slice none 0 0) [] ([], ([], [])) none 0 (.slice none 0 0) (.slice none 0 0) []) := HS.out.2.2.2.2
  have nrv : w.heap.size + 1 ≠ w.heap.size + 1 + 1 := by omega
  clear HS e0 e3
  generalize hmb : w.heap.size + 1 + 1 + 1 = mb at *
  generalize hfb : mb + 1 = fb at *
  generalize hvb : w.heap.size + 1 + 1 = vb at *
  generalize hrb : w.heap.size + 1 = rb at *
  generalize hbb : w.heap.size = bb at *
  go_loopw [6] (fun iv wr => ∃ (j : Nat) (P' : List (Int × Int) × Vst) (la' : Option Addr) (lc' : Nat) (va' vn' : Value) (m' : List Vnd), j <= l.length /\ iv = .int .i64 j /\ Hid (P' = vls M (tI T.length) ([], []) ((l.take j).map wI)) /\ Hid (Lr w0 w3 wr mb bb vb fb (.slice la' P'.1.length lc') [] P' la' lc' va' vn' m')) (fun iv _ => l.length - (intOf iv).toNat)
  case atStart => exact ⟨0, ([], ([], [])), none, 0, _, _, [], Nat.zero_le _, rfl, by show _ = _; rw [List.take_zero]; rfl, HST.out⟩
  case round =>
    obtain ⟨j, P', la', lc', va', vn', m', hj, rfl, HP, HL⟩ := hrel
    have HLO : Hid (∀ w', Below w0.heap.size w0 w' -> w'.cell? ⟨bb, 0, none⟩ = some (.pointer (some ⟨rp, 0, none⟩)) /\ w'.cell? ⟨rp, 1, none⟩ = some (.slice ra l.length rc)) := fun w' hb => ⟨(hb.cell (p := ⟨bb, 0, none⟩) HBB.out.1).trans HBX.out, (hb.cell (p := ⟨rp, 1, none⟩) (World.block_lt_of_cell? w0 _ HC1.out)).trans HC1.out⟩
    obtain ⟨t1, t2⟩ := HLO.out wr HL.out.wv.bel
    have q0 : (0 : Int) <= (j : Int) := by omega
    by_cases hlt : j < l.length
    · have q1 : (j : Int) < (l.length : Int) := by omega
      obtain ⟨fb9, fo9, rfl, lfb, hfc⟩ := HLR.out (by omega)
      have hmem : l.getD j (0, 0) ∈ l := getD_in hlt
      have hvq := HV.out _ hmem
      obtain ⟨eg, et, hen⟩ : ∃ eg et, l.getD j (0, 0) = (eg, et) := ⟨_, _, rfl⟩
      have HFC : Hid (∀ w', Below w0.heap.size w0 w' -> w'.cell? ⟨fb9, fo9 + j * 2, none⟩ = some (.int .i64 eg) /\ w'.cell? ⟨fb9, fo9 + j * 2 + 1, none⟩ = some (.int .i64 et)) := fun w' hb => by
        obtain ⟨p0, p1⟩ := hfc j hlt
        rw [hen] at p0 p1
        exact ⟨(hb.cell (p := ⟨fb9, fo9 + j * 2, none⟩) lfb).trans p0, (hb.cell (p := ⟨fb9, fo9 + j * 2 + 1, none⟩) lfb).trans p1⟩
      have HFN : Hid ((l.take (j + 1)).map wI = (l.take j).map wI ++ [wI (eg, et)]) := by
        show _ = _
        rw [take_snoc l j hlt (0, 0), List.map_append, hen]
        rfl
      rw [hen] at hvq
      have hgo := HG.out ((l.take j).map wI)
      rw [<- HP.out] at hgo
      have HPC : Hid (∀ W : World, Lr w0 w3 W mb bb vb fb (.slice la' P'.1.length lc') [] P' la' lc' va' vn' m' -> Calls Tryz.prog 87 (valA eg et mb bb vb fb) W fun e w' => ∃ va5 vn5 m5, e = .returned (.agg #[.int .i64 (vst M (tI T.length) P'.2 (wI (eg, et))).1.1, .int .i64 (vst M (tI T.length) P'.2 (wI (eg, et))).1.2]) /\ Lr w0 w3 w' mb bb vb fb (.slice la' P'.1.length lc') [] (P'.1, (vst M (tI T.length) P'.2 (wI (eg, et))).2) la' lc' va5 vn5 m5 /\ Kx w0 W m' w' m5) := fun W hL => by
        refine (HI.out W P'.2 va' vn' (.slice la' P'.1.length lc') m' (eg, et) hL.wv hgo.ok hvq (by omega)).mono ?_
        rintro e w5 ⟨va5, vn5, m5, rfl, hW5, hK5⟩
        exact ⟨va5, vn5, m5, rfl, hL.call hW5 hK5, hK5⟩
      have HN2 : Hid ((P'.1 ++ [(vst M (tI T.length) P'.2 (wI (eg, et))).1], (vst M (tI T.length) P'.2 (wI (eg, et))).2) = vls M (tI T.length) ([], []) ((l.take (j + 1)).map wI)) := by
        show _ = _
        rw [HFN.out, vls_snoc, <- HP.out]
      have hPl : P'.1.length <= 100000 := by
        rw [HP.out, vls_len, List.length_map, List.length_take]
        omega
      have u1 := HL.out.wv.cells.2.2.1
      obtain ⟨u2, u3⟩ := HFC.out wr HL.out.wv.bel
      generalize vst M (tI T.length) P'.2 (wI (eg, et)) = V at *
      obtain ⟨⟨v1, v2⟩, sB⟩ := V
      dsimp only at HPC HN2
      have HL1 := HL.out
      have n1 : wr.heap.size ≠ fb := by have : fb < wr.heap.size := World.block_lt_of_cell? wr _ u1; omega
      have n2 : wr.heap.size ≠ fb9 := by have : fb9 < wr.heap.size := World.block_lt_of_cell? wr _ u2; omega
      have n3 : wr.heap.size ≠ bb := by have : bb < wr.heap.size := World.block_lt_of_cell? wr _ t1; omega
      have n4 : wr.heap.size ≠ rp := by have : rp < wr.heap.size := World.block_lt_of_cell? wr _ t2; omega
      clear HFN HP hfc hmem hgo hvq HL hen
      go_wp2_with fail
      generalize hWW : wr = W at *
      clear hWW
      have PC := HPC.out W.drew (HL1.below (Below.refl _ W).drew)
      have PD := HPC.out (W.alloc (.cells #[.int .i64 0, .int .i64 0] 100)).drew (HL1.below ((Below.refl _ W).alloc (Nat.le_refl _) _).drew)
      have HL1 : Hid (Lr w0 w3 W mb bb vb fb (.slice la' P'.1.length lc') [] P' la' lc' va' vn' m') := HL1
      clear HPC
      go_region_held3 (fun w' => w'.cell? ⟨fb, 0, none⟩ = some (fnV mb bb vb fb) /\ w'.cell? ⟨bb, 0, none⟩ = some (.pointer (some ⟨rp, 0, none⟩)) /\ w'.cell? ⟨rp, 1, none⟩ = some (.slice (some ⟨fb9, fo9, none⟩) l.length rc) /\ w'.cell? ⟨fb9, fo9 + j * 2, none⟩ = some (.int .i64 eg) /\ w'.cell? ⟨fb9, fo9 + j * 2 + 1, none⟩ = some (.int .i64 et)) (go_keep) (first | (go_at_call 87; refine PC.mono ?_; clear PC PD; rintro e w5 ⟨va5, vn5, m5, rfl, hL5, _⟩; have HL5 : Hid (Lr w0 w3 w5 mb bb vb fb (.slice la' P'.1.length lc') [] (P'.1, sB) la' lc' va5 vn5 m5) := hL5; obtain ⟨b1, b2⟩ := HFC.out w5 hL5.wv.bel; have b4 := hL5.wv.cells.2.2.1; obtain ⟨b5, b6⟩ := HLO.out w5 hL5.wv.bel; clear hL5) | (go_at_call 87; refine PD.mono ?_; clear PC PD; rintro e w5 ⟨va5, vn5, m5, rfl, hL5, hK5⟩; have hla := HL1.out.late hL5 (show Kx w0 (W.alloc (.cells #[.int .i64 0, .int .i64 0] 100)) m' w5 m5 from (Kx.of (Below.refl _ _).drew).trans hK5) v1 v2; have HL6 : Hid (Lr w0 w3 ((w5.setCell ⟨W.heap.size, 0, none⟩ (.int .i64 v1)).setCell ⟨W.heap.size, 1, none⟩ (.int .i64 v2)) mb bb vb fb (.slice la' P'.1.length lc') [] (P'.1, sB) la' lc' va5 vn5 m5 /\ w5.heap[W.heap.size]? = some (.cells #[.int .i64 0, .int .i64 0] 100 (0, 0))) := ⟨hla.2, hla.1⟩; have c0 : w5.cell? ⟨W.heap.size, 0, none⟩ = some (.int .i64 0) := (by simp [World.cell?, hla.1]); have c1 : w5.cell? ⟨W.heap.size, 1, none⟩ = some (.int .i64 0) := (by simp [World.cell?, hla.1]); have c2 : w5.frozen? ⟨W.heap.size, 0, none⟩ = false := (by simp [World.frozen?, hla.1]); have c4 : w5.frozen? ⟨W.heap.size, 1, none⟩ = false := (by simp [World.frozen?, hla.1]); obtain ⟨b1, b2⟩ := HFC.out w5 hL5.wv.bel; have b4 := hL5.wv.cells.2.2.1; obtain ⟨b5, b6⟩ := HLO.out w5 hL5.wv.bel; clear hL5 hla hK5))
      all_goals
        first
        | (have HY : Hid (Lr w0 w3 (w5.alloc (.cells #[.int .i64 v1, .int .i64 v2] 100)) mb bb vb fb (.slice la' P'.1.length lc') [] (P'.1, sB) la' lc' va5 vn5 m5 /\ (w5.alloc (.cells #[.int .i64 v1, .int .i64 v2] 100)).cell? ⟨w5.heap.size, 0, none⟩ = some (.int .i64 v1) /\ (w5.alloc (.cells #[.int .i64 v1, .int .i64 v2] 100)).cell? ⟨w5.heap.size, 1, none⟩ = some (.int .i64 v2)) := ⟨HL5.out.below ((Below.refl _ w5).alloc (Nat.le_refl _) _), by have hh := heap_alloc_new w5 (.cells #[.int .i64 v1, .int .i64 v2] 100); unfold World.cell?; dsimp only; rw [hh]; rfl, by have hh := heap_alloc_new w5 (.cells #[.int .i64 v1, .int .i64 v2] 100); unfold World.cell?; dsimp only; rw [hh]; rfl⟩
           clear HL5 b1 b2 b4 b5 b6
           generalize w5.alloc (.cells #[.int .i64 v1, .int .i64 v2] 100) = w6 at *
           generalize w5.heap.size = yb at *)
        | (have HY : Hid (Lr w0 w3 ((w5.setCell ⟨W.heap.size, 0, none⟩ (.int .i64 v1)).setCell ⟨W.heap.size, 1, none⟩ (.int .i64 v2)) mb bb vb fb (.slice la' P'.1.length lc') [] (P'.1, sB) la' lc' va5 vn5 m5 /\ ((w5.setCell ⟨W.heap.size, 0, none⟩ (.int .i64 v1)).setCell ⟨W.heap.size, 1, none⟩ (.int .i64 v2)).cell? ⟨W.heap.size, 0, none⟩ = some (.int .i64 v1) /\ ((w5.setCell ⟨W.heap.size, 0, none⟩ (.int .i64 v1)).setCell ⟨W.heap.size, 1, none⟩ (.int .i64 v2)).cell? ⟨W.heap.size, 1, none⟩ = some (.int .i64 v2)) := ⟨HL6.out.1, by rw [World.cell?_setCell_other _ _ _ _ (by simp)]; exact World.cell?_setCell_same _ _ _ (u := .int .i64 0) c0, World.cell?_setCell_same _ _ _ (u := .int .i64 0) ((World.cell?_setCell_other _ _ _ _ (by simp)).trans c1)⟩
           clear HL6 b1 b2 b4 b5 b6 c0 c1 c2 c4
           generalize (w5.setCell ⟨W.heap.size, 0, none⟩ (.int .i64 v1)).setCell ⟨W.heap.size, 1, none⟩ (.int .i64 v2) = w6 at *
           clear u1 u2 u3 n1 n2 n3 n4 t1 t2 HL1
           generalize W.heap.size = yb at *)
      all_goals
        have k1 := HY.out.2.1
        have k2 := HY.out.2.2
        have k3 := HY.out.1.wv.cells.2.2.2.2.2.2.2.2
        have lvb : vb < w6.heap.size := World.block_lt_of_cell? w6 _ k3
        have HBS : Hid (Below w6.heap.size w6 (w6.alloc (.cells #[.int .i64 v1, .int .i64 v2] 100))) := (Below.refl w6.heap.size w6).alloc (Nat.le_refl _) _
        have HSC : Hid (∀ a, (some ⟨w6.heap.size, 0, none⟩ : Option Addr) = some a -> ∀ k u, (ev [(v1, v2)])[k]? = some u -> (w6.alloc (.cells #[.int .i64 v1, .int .i64 v2] 100)).cell? (a.add k) = some u) := val_src v1 v2
        have rx2 := row_keep HY.out.1.row (fun k e => HBS.out.block k (row_lt HY.out.1.row k e).2)
        dsimp only at rx2
        have hsz : Hid (w3.heap.size <= w6.heap.size) := HY.out.1.kx.1.size
        go_upto_region 7 with (at_builtin; refine wpList_append_src _ rfl _ _ 62 rfl w3.heap.size 100 ie (.agg #[.int .i64 0, .int .i64 0]) 2 16 Tryz.underlying62 hie hze0 hze1 hze2 rfl (by decide) (.slice la' P'.1.length lc') P'.1.length (ev P'.1) rfl rx2 (some ⟨w6.heap.size, 0, none⟩) 1 1 (ev [(v1, v2)]) rfl rfl (fun e => by cases e) HSC.out (ev_one _) (by unfold maxLen; omega) (by omega) (by have := hsz.out; simp; omega) ?_; intro ra' rc' w10 hown10 hgrow10 hnb10; have HB9 : Hid (Lr w0 w3 w10 mb bb vb fb (.slice la' P'.1.length lc') [] (P'.1 ++ [(v1, v2)], sB) ra' rc' va5 vn5 m5) := (HY.out.1.push HBS.out hgrow10 hown10 hnb10); have HB10 : Hid (Lr w0 w3 (w10.setCell ⟨vb, 0, none⟩ (.slice ra' (P'.1.length + 1) rc')) mb bb vb fb (.slice ra' (P'.1.length + 1) rc') [] (P'.1 ++ [(v1, v2)], sB) ra' rc' va5 vn5 m5 /\ w10.heap[vb]? = some (.cells #[.slice la' P'.1.length lc', vn5] 65 (0, 0))) := (lr_rooted HB9.out _); have s0 : w10.cell? ⟨vb, 0, none⟩ = some (.slice la' P'.1.length lc') := (by simp [World.cell?, HB10.out.2]); have s1 : w10.frozen? ⟨vb, 0, none⟩ = false := (by simp [World.frozen?, HB10.out.2]))
        clear hown10 hgrow10 hnb10 rx2
        go_wp2_with fail
        go_roundw
        case rel => exact ⟨j + 1, (P'.1 ++ [(v1, v2)], sB), ra', rc', va5, vn5, m5, by omega, by go_num, HN2, by rw [show (P'.1 ++ [(v1, v2)], sB).1.length = P'.1.length + 1 by simp]; exact HB10.out.1⟩
        case measure => simp [intOf]; omega
    · obtain rfl : j = l.length := by omega
      have HPE : Hid (P' = RR) := by
        have h1 := HP.out
        rw [List.take_length] at h1
        exact h1.trans HE.out.symm
      have hPl : P'.1.length = l.length := by rw [HP.out, vls_len, List.length_map, List.length_take]; simp
      obtain ⟨na, nc, e2⟩ := row_slice HL.out.wv.nr
      subst e2
      have z1 := HL.out.wv.cells.2.1
      have z0 := HL.out.wv.cells.2.2.2.2.2.2.2.2
      have hr3 := (HL.out.wv.bel.block rb HBB.out.2).trans HRB.out
      have y0 : wr.cell? ⟨rb, 0, none⟩ = some (.slice none 0 0) := by simp [World.cell?, hr3]
      have y1 : wr.cell? ⟨rb, 1, none⟩ = some (.slice none 0 0) := by simp [World.cell?, hr3]
      have f0 : wr.frozen? ⟨rb, 0, none⟩ = false := by simp [World.frozen?, hr3]
      have f1 : wr.frozen? ⟨rb, 1, none⟩ = false := by simp [World.frozen?, hr3]
      have HR3 : Hid (_ = _) := hr3
      clear hr3 HP
      go_wp2_with fail
      obtain ⟨W0, hW0⟩ : ∃ W0, W0 = (wr.setCell ⟨rb, 0, none⟩ (.slice la' l.length lc')).setCell ⟨rb, 1, none⟩ (.slice na m'.length nc) := ⟨_, rfl⟩
      rw [<- hW0]
      have g0 : W0.cell? ⟨rb, 0, none⟩ = some (.slice la' l.length lc') := by
        rw [hW0, World.cell?_setCell_other _ _ _ _ (by simp)]
        exact World.cell?_setCell_same _ _ _ y0
      have g1 : W0.cell? ⟨rb, 1, none⟩ = some (.slice na m'.length nc) := by
        rw [hW0]
        exact World.cell?_setCell_same _ _ _ ((World.cell?_setCell_other wr ⟨rb, 0, none⟩ ⟨rb, 1, none⟩ _ (by simp)).trans y1)
      have hF : Fr (fun k => k = rb) wr W0 := by rw [hW0]; exact ((Fr.refl (fun k => k = rb) wr).set rb 0 _ rfl).set rb 1 _ rfl
      clear hW0
      have hW2 := HL.out.wv
      have hr2 := HL.out.row
      have hsw : w.heap.size <= w3.heap.size := Nat.le_trans (by have := HSZ.out.1; omega) HL.out.hs
      have eL : ∀ {ad : Option Addr} {L : List (Int × Int)}, Lv wr ad L -> Lp W0 ad L := fun {ad L} h => h.1.keep hF.size (fun hp b e => by
        obtain ⟨b0, o0, cs, e0, hb⟩ := h.2 hp
        rw [e0] at e
        cases e
        refine hF.block _ (lt_of_some hb) (fun c => ?_)
        have c : b0 = rb := c
        rw [c, HR3.out] at hb
        simp at hb)
      have hbl : Below w.heap.size w W0 := by
        rw [hbb]
        refine (HSZ.out.2.trans (hW2.bel.mono HSZ.out.1)).trans (hF.below ?_ (fun k e => ?_))
        · exact Nat.le_trans HSZ.out.1 hW2.bel.size
        · have e : k = rb := e
          omega
      rw [<- HPE.out]
      refine bodyPost_ret (v := .agg #[.slice la' l.length lc', .slice na m'.length nc]) (by simp [results, Tryz.results31, go_sem, g0, g1]) rfl ⟨la', lc', na, m'.length, nc, rfl, ⟨eL (Lv.of hr2), fun hp => ?_⟩, ⟨m', hW2.nd, fun x hx => eL (hW2.fl x hx), fun k hk => ?_, fun hp => ?_⟩, hW2.len, hbl⟩
      · obtain ⟨b, cap, e⟩ := row_shape hr2 hp
        cases e
        exact ⟨b, 0, rfl, Nat.le_trans hsw (row_lt hr2 b rfl).1⟩
      · rcases HL.out.kx.2 k hk with ⟨x, hx, _⟩ | d
        · cases hx
        · exact Nat.le_trans hsw d
      · obtain ⟨b, cap, e⟩ := row_shape hW2.nr hp
        cases e
        have hbs := (row_lt hW2.nr b rfl).1
        obtain ⟨cur, hcur⟩ := row_type hW2.nr b rfl
        have hne : b ≠ rb := fun c => by
          rw [c, HR3.out] at hcur
          simp at hcur
        refine ⟨b, 0, rfl, by have := HSZ.out.1; omega, Nat.lt_of_lt_of_le (lt_of_some hcur) hF.size, fun i x hx => ?_⟩
        obtain ⟨n1, n2⟩ := nv_get m' i x hx
        rw [Nat.zero_add]
        exact ⟨(World.cell?_of_block (a := ⟨b, i * 2, none⟩) (hF.block b (lt_of_some hcur) hne)).trans (row_cell hW2.nr n1).1, (World.cell?_of_block (a := ⟨b, i * 2 + 1, none⟩) (hF.block b (lt_of_some hcur) hne)).trans (row_cell hW2.nr n2).1⟩
end
end Go.Proofs.YtnalfnlmaallmaaGreat.Vr4

namespace Go.Proofs.YtnalfnlmaallmaaGreat
set_option maxRecDepth 100000
set_option maxHeartbeats 2000000
open Go.RowKit W Kp Stl
def ejS {τ : Type} (fm : τ -> Int -> Int) (st : τ -> Int -> τ) (t : τ) (a : Int) : τ := if fm t a = -1 then t else st t a
def ejL {τ : Type} (fm : τ -> Int -> Int) (st : τ -> Int -> τ) (t : τ) (l : List Int) : τ := l.foldl (ejS fm st) t
theorem eachJ0_any {τ : Type} (o : Ob τ) (fm fd : τ -> Int -> Int) (st : τ -> Int -> τ) (G : Nat -> τ -> Prop) (T : List Int) (pk pw p mq f : Nat) (cs : Array Value) (hf : Ent f) (l : List Int) (ad : Option Addr) (cap : Nat) (F : Nat -> Prop) (t : τ) (w : World)
  (hth : ∀ F t w a, o.J F t w -> w.cell? ⟨pk, 0, none⟩ = some (.pointer (some ⟨pw, 0, none⟩)) /\ w.cell? ⟨pk, 3, none⟩ = some (.map (some mq)) /\ w.cell? ⟨pw, 0, none⟩ = some (.pointer (some ⟨p, 0, none⟩)) /\ Mp w mq T (fm t) /\ Calls Tryz.prog 120 #[.pointer (some ⟨p, 0, none⟩), .int .i64 a] w fun r w' => ∃ x z, r = .returned (.tuple #[.int .i64 x, .int .i64 (fd t a), .int .i64 z]) /\ Below w.heap.size w w')
  (hfd : ∀ t a, 0 <= fd t a /\ fd t a <= 12) (hlb : ∀ a ∈ l, (0 <= a /\ a <= 100000) /\ a ∈ T) (hll : l.length <= 100000)
  (hlk : ∀ j F t w, j < l.length -> G j t -> o.J F t w -> fm t (l.getD j 0) ≠ -1 -> Calls Tryz.prog f (#[.int .i64 (l.getD j 0), .int .i64 (1 + fd t (l.getD j 0))] ++ cs) w fun r w' => ∃ F', r = .returned (.tuple #[]) /\ o.J F' (st t (l.getD j 0)) w' /\ Tn F w F' w')
  (hG : ∀ j t, j < l.length -> G j t -> G (j + 1) (ejS fm st t (l.getD j 0))) (h0 : G 0 t) (hJ : o.J F t w) (hL : ∀ F' t' w', o.J F' t' w' -> Tn F w F' w' -> Ls w' ad l) :
  Calls Tryz.prog 209 #[.pointer (some ⟨pk, 0, none⟩), .slice ad l.length cap, .func (.func f) #[] cs] w fun r w' => ∃ F', r = .returned (.tuple #[]) /\ o.J F' (ejL fm st t l) w' /\ Tn F w F' w' /\ G l.length (ejL fm st t l) := by
 have HT : Hid (∀ F t w a, o.J F t w -> w.cell? ⟨pk, 0, none⟩ = some (.pointer (some ⟨pw, 0, none⟩)) /\ w.cell? ⟨pk, 3, none⟩ = some (.map (some mq)) /\ w.cell? ⟨pw, 0, none⟩ = some (.pointer (some ⟨p, 0, none⟩)) /\ Mp w mq T (fm t) /\ Calls Tryz.prog 120 #[.pointer (some ⟨p, 0, none⟩), .int .i64 a] w fun r w' => ∃ x z, r = .returned (.tuple #[.int .i64 x, .int .i64 (fd t a), .int .i64 z]) /\ Below w.heap.size w w') := hth
 have HK : Hid (∀ j F t w, j < l.length -> G j t -> o.J F t w -> fm t (l.getD j 0) ≠ -1 -> Calls Tryz.prog f (#[.int .i64 (l.getD j 0), .int .i64 (1 + fd t (l.getD j 0))] ++ cs) w fun r w' => ∃ F', r = .returned (.tuple #[]) /\ o.J F' (st t (l.getD j 0)) w' /\ Tn F w F' w') := hlk
 have HG : Hid (∀ j t, j < l.length -> G j t -> G (j + 1) (ejS fm st t (l.getD j 0))) := hG
 have HL : Hid (∀ F' t' w', o.J F' t' w' -> Tn F w F' w' -> Ls w' ad l) := hL
 have HLB : Hid (∀ a ∈ l, (0 <= a /\ a <= 100000) /\ a ∈ T) := hlb
 have HFD : Hid (∀ t a, 0 <= fd t a /\ fd t a <= 12) := hfd
 have hcf : ∀ (args : Array Value) (w : World), (callFunc f args).run Tryz.prog w = .ok (.enter f args) w := hf
 clear hth hlk hG hL hlb hfd hf
 go_enter Tryz.func209, Tryz.ntmps209
 go_wp2_with fail
 go_loopw [13] (fun iv wr => ∃ (j : Nat) (F1 : Nat -> Prop) (t1 : τ), j <= l.length /\ iv = .int .i64 j /\ Hid (ejL fm st t (l.take j) = t1) /\ Hid (G j t1) /\ o.J F1 t1 wr /\ Tn F w F1 wr) (fun iv _ => l.length - (intOf iv).toNat)
 case atStart => exact ⟨0, F, t, Nat.zero_le _, rfl, rfl, h0, hJ, Tn.refl _ _⟩
 case round =>
  clear h0 hJ
  obtain ⟨j, F1, t1, hj, rfl, HE, HG1, hJ, hT⟩ := hrel
  by_cases hlt : j < l.length
  ·obtain ⟨b0, o0, e0, hb0, hc⟩ := HL.out F1 t1 wr hJ hT (by omega)
   have x1 := hc j hlt
   subst e0
   have hin : l.getD j 0 ∈ l := by rw [List.getD_eq_getElem?_getD, List.getElem?_eq_getElem hlt]; exact List.getElem_mem hlt
   obtain ⟨hbd, hinT⟩ := HLB.out _ hin
   have hky := keyI hbd.1 (by omega)
   have HS : Hid (ejL fm st t (l.take (j + 1)) = ejS fm st t1 (l.getD j 0)) := by
    show _ = _
    rw [take_snoc l j hlt 0]
    unfold ejL
    rw [List.foldl_append]
    have := HE.out
    unfold ejL at this
    rw [this]
    rfl
   have HG2 : Hid (G (j + 1) (ejS fm st t1 (l.getD j 0))) := HG.out j t1 hlt HG1.out
   have HK1 := fun w h => HK.out j F1 t1 w hlt HG1.out h
   obtain ⟨d0, d3, d5, ⟨D, o1, o2, o3⟩, L⟩ := HT.out F1 t1 wr (l.getD j 0) hJ
   have E3 : Hid (D.atKey (.int .i64 (l.getD j 0)) (.lit (.int .i64 0)) = .lit (.int .i64 (fm t1 (l.getD j 0)))) := o3 _ hinT
   have hf12 := HFD.out t1 (l.getD j 0)
   have HJ1 : Hid (o.J F1 t1 wr /\ Tn F w F1 wr) := ⟨hJ, hT⟩
   have HK1 : Hid (∀ w, o.J F1 t1 w -> fm t1 (l.getD j 0) ≠ -1 -> Calls Tryz.prog f (#[.int .i64 (l.getD j 0), .int .i64 (1 + fd t1 (l.getD j 0))] ++ cs) w fun r w' => ∃ F', r = .returned (.tuple #[]) /\ o.J F' (st t1 (l.getD j 0)) w' /\ Tn F1 w F' w') := HK1
   clear hc hin hinT hJ hT o2 o3
   by_cases hw : fm t1 (l.getD j 0) = -1
   ·have ES : Hid (ejS fm st t1 (l.getD j 0) = t1) := by show _ = _; unfold ejS; rw [if_pos hw]
    rw [hw] at E3
    clear HK1 L
    generalize l.getD j 0 = a at *
    go_wp2_with (at_lookup; refine wpList_lookup_own_int _ rfl _ _ 109 rfl 3 3 .i64 lawI Tryz.underlying109 Tryz.underlying3 (zeroI _) mq T.length D rfl o1 _ _ rfl hky ?_; intro z hat hwc; obtain rfl : z = -1 := (by have := hat.symm.trans E3.out; simpa using this); clear hat hwc)
    clear x1 d0 d3 d5 o1
    go_roundw
    case rel => exact ⟨j + 1, F1, t1, by omega, by go_num, by show _ = _; rw [HS.out, ES.out], by show G _ _; rw [<- ES.out]; exact HG2.out, HJ1.out.1, HJ1.out.2⟩
    case measure => simp [intOf]; omega
   ·have ES : Hid (ejS fm st t1 (l.getD j 0) = st t1 (l.getD j 0)) := by show _ = _; unfold ejS; rw [if_neg hw]
    have HK2 : Hid (∀ w, o.J F1 t1 w -> Calls Tryz.prog f (#[.int .i64 (l.getD j 0), .int .i64 (1 + fd t1 (l.getD j 0))] ++ cs) w fun r w' => ∃ F', r = .returned (.tuple #[]) /\ o.J F' (st t1 (l.getD j 0)) w' /\ Tn F1 w F' w') := fun w h => HK1.out w h hw
    clear HK1
    generalize l.getD j 0 = a at *
    generalize fm t1 a = v at *
    generalize fd t1 a = m at *
    generalize st t1 a = t2 at *
    go_wp2_with (at_lookup; refine wpList_lookup_own_int _ rfl _ _ 109 rfl 3 3 .i64 lawI Tryz.underlying109 Tryz.underlying3 (zeroI _) mq T.length D rfl o1 _ _ rfl hky ?_; intro z hat hwc; obtain rfl : z = v := (by have := hat.symm.trans E3.out; simpa using this); clear hat hwc E3)
    refine L.mono ?_
    clear L
    rintro r w1 ⟨x, y, rfl, hb1⟩
    go_wp2_with fail
    refine (HK2.out w1 (o.below HJ1.out.1 hb1)).mono ?_
    rintro r w2 ⟨F2, rfl, hJ2, hT2⟩
    have HJ2 : Hid (o.J F2 t2 w2 /\ Tn F w F2 w2) := ⟨hJ2, (HJ1.out.2.below hb1).trans hT2⟩
    clear hJ2 hT2 x1 d0 d3 d5 o1
    go_wp2_with fail
    go_roundw
    case rel => exact ⟨j + 1, F2, t2, by omega, by go_num, by show _ = _; rw [HS.out, ES.out], by show G _ _; rw [<- ES.out]; exact HG2.out, HJ2.out.1, HJ2.out.2⟩
    case measure => simp [intOf]; omega
  ·obtain rfl : j = l.length := by omega
   rw [List.take_length] at HE
   go_wp2_with fail
   go_end0
   rw [HE.out]
   exact ⟨F1, rfl, hJ, hT, HG1.out⟩
theorem eachJ_any {τ : Type} (o : Ob τ) (fm fd : τ -> Int -> Int) (st : τ -> Int -> τ) (G : Nat -> τ -> Prop) (T : List Int) (pk pw p mq f : Nat) (cs : Array Value) (hf : Ent f) (l : List Int) (ad : Option Addr) (cap : Nat) (F : Nat -> Prop) (t : τ) (w : World)
  (hth : ∀ F t w a, o.J F t w -> w.cell? ⟨pk, 0, none⟩ = some (.pointer (some ⟨pw, 0, none⟩)) /\ w.cell? ⟨pk, 3, none⟩ = some (.map (some mq)) /\ w.cell? ⟨pw, 0, none⟩ = some (.pointer (some ⟨p, 0, none⟩)) /\ Mp w mq T (fm t) /\ Calls Tryz.prog 120 #[.pointer (some ⟨p, 0, none⟩), .int .i64 a] w fun r w' => ∃ x z, r = .returned (.tuple #[.int .i64 x, .int .i64 (fd t a), .int .i64 z]) /\ Below w.heap.size w w')
  (hfd : ∀ t a, 0 <= fd t a /\ fd t a <= 12) (hlb : ∀ a ∈ l, (0 <= a /\ a <= 100000) /\ a ∈ T) (hll : l.length <= 100000)
  (hlk : ∀ j F t w, j < l.length -> G j t -> o.J F t w -> fm t (l.getD j 0) ≠ -1 -> Calls Tryz.prog f (#[.int .i64 (l.getD j 0), .int .i64 (1 + fd t (l.getD j 0))] ++ cs) w fun r w' => ∃ F', r = .returned (.tuple #[]) /\ o.J F' (st t (l.getD j 0)) w' /\ Tn F w F' w')
  (hG : ∀ j t, j < l.length -> G j t -> G (j + 1) (ejS fm st t (l.getD j 0))) (h0 : G 0 t) (hJ : o.J F t w) (hL : Ls w ad l) (hn : 0 < l.length -> ∀ z, ad = some z -> ¬ F z.block) :
  Calls Tryz.prog 209 #[.pointer (some ⟨pk, 0, none⟩), .slice ad l.length cap, .func (.func f) #[] cs] w fun r w' => ∃ F', r = .returned (.tuple #[]) /\ o.J F' (ejL fm st t l) w' /\ Tn F w F' w' /\ G l.length (ejL fm st t l) :=
 eachJ0_any o fm fd st G T pk pw p mq f cs hf l ad cap F t w hth hfd hlb hll hlk hG h0 hJ (fun F' _ w' _ hT => hL.keep hT.fr.size (fun hp z e => hT.fr.block _ (by obtain ⟨b, o', e', hb, _⟩ := hL hp; rw [e] at e'; cases e'; exact hb) (hn hp z e)))
end Go.Proofs.YtnalfnlmaallmaaGreat

namespace Go.Proofs.YtnalfnlmaallmaaGreat
set_option maxRecDepth 100000
set_option maxHeartbeats 1000000
open Go.RowKit W Kp Stl
abbrev boxI (n : Int) : Obj := .cells #[.int .i64 n] 3 (0, 0)
def obN {τ : Type} (o : Ob τ) (bn : Nat) : Ob (τ × Int) where
  J F t w := ∃ F0, o.J F0 t.1 w /\ w.heap[bn]? = some (boxI t.2) /\ ¬ F0 bn /\ ∀ b, F b ↔ (F0 b \/ b = bn)
  lt := by
    rintro F t w ⟨F0, h, hx, _, hF⟩ b hb
    rcases (hF b).1 hb with hb | hb
    · exact o.lt h b hb
    · rw [hb]; exact lt_of_some hx
  keep := by
    rintro F t w w' ⟨F0, h, hx, hn, hF⟩ hs hk
    exact ⟨F0, o.keep h hs (fun b hb => hk b ((hF b).2 (Or.inl hb))), (hk bn ((hF bn).2 (Or.inr rfl))).trans hx, hn, hF⟩
section
variable {τ : Type} {o : Ob τ} {bx bn : Nat} {x : Obj} {F : Nat -> Prop} {w : World}
theorem obX_in {t : τ} (h : (obX o bx x).J F t w) : ∃ F0, o.J F0 t w /\ w.heap[bx]? = some x /\ bx < w.heap.size /\ ∀ F1 t1 w1, o.J F1 t1 w1 -> Tn F0 w F1 w1 -> (obX o bx x).J (fun b => F1 b \/ b = bx) t1 w1 /\ Tn F w (fun b => F1 b \/ b = bx) w1 := by
 obtain ⟨F0, h, g2, g3, g4⟩ := h
 refine ⟨F0, h, g2, lt_of_some g2, fun F1 t1 w1 h1 hT => ⟨⟨F1, h1, (hT.fr.block bx (lt_of_some g2) g3).trans g2, fun d => (hT.sub bx d).elim g3 (fun d => by have := lt_of_some g2; omega), fun b => Iff.rfl⟩, ⟨hT.fr.mono (fun b hb => (g4 b).2 (Or.inl hb)), fun b hb => ?_⟩⟩⟩
 rcases hb with hb | hb
 ·exact (hT.sub b hb).imp (fun d => (g4 b).2 (Or.inl d)) id
 ·exact Or.inl ((g4 b).2 (Or.inr hb))
theorem obN_in {t : τ × Int} (h : (obN o bn).J F t w) : ∃ F0, o.J F0 t.1 w /\ w.heap[bn]? = some (boxI t.2) /\ bn < w.heap.size /\ ∀ F1 t1 w1, o.J F1 t1 w1 -> Tn F0 w F1 w1 -> (obN o bn).J (fun b => F1 b \/ b = bn) (t1, t.2) w1 /\ Tn F w (fun b => F1 b \/ b = bn) w1 := by
 obtain ⟨F0, h, g2, g3, g4⟩ := h
 refine ⟨F0, h, g2, lt_of_some g2, fun F1 t1 w1 h1 hT => ⟨⟨F1, h1, (hT.fr.block bn (lt_of_some g2) g3).trans g2, fun d => (hT.sub bn d).elim g3 (fun d => by have := lt_of_some g2; omega), fun b => Iff.rfl⟩, ⟨hT.fr.mono (fun b hb => (g4 b).2 (Or.inl hb)), fun b hb => ?_⟩⟩⟩
 rcases hb with hb | hb
 ·exact (hT.sub b hb).imp (fun d => (g4 b).2 (Or.inl d)) id
 ·exact Or.inl ((g4 b).2 (Or.inr hb))
theorem obN_cell {t : τ × Int} (h : (obN o bn).J F t w) : w.cell? ⟨bn, 0, none⟩ = some (.int .i64 t.2) /\ w.frozen? ⟨bn, 0, none⟩ = false := by
 obtain ⟨F0, h, g2, g3, g4⟩ := h
 exact ⟨by simp [World.cell?, g2], by simp [World.frozen?, g2]⟩
theorem obN_set {t : τ × Int} (h : (obN o bn).J F t w) (m : Int) : (obN o bn).J F (t.1, m) (w.setCell ⟨bn, 0, none⟩ (.int .i64 m)) /\ Tn F w F (w.setCell ⟨bn, 0, none⟩ (.int .i64 m)) := by
 obtain ⟨F0, h, g2, g3, g4⟩ := h
 have fr : Fr (fun b => b = bn) w (w.setCell ⟨bn, 0, none⟩ (.int .i64 m)) := (Fr.refl _ w).set _ 0 _ rfl
 refine ⟨⟨F0, o.keep h fr.size (fun b hb => fr.block b (o.lt h b hb) (fun e => g3 (by rw [<- e]; exact hb))), ?_, g3, g4⟩, ⟨fr.mono (fun b e => (g4 b).2 (Or.inr e)), fun _ d => Or.inl d⟩⟩
 simp only [World.setCell, Array.getElem?_modify, if_true, g2, Option.map_some]
 simp
end
section
variable {c : Jc} {k : Jk} {vt ve : Value} {F : Nat -> Prop} {s : Js} {w : World}
theorem roomJ_any (h : (mjV c k vt ve).J F s w) :
  Calls Tryz.prog 152 #[.pointer (some ⟨c.pk, 0, none⟩)] w fun e w' => e = .returned (.int .i64 k.a.O) /\ Below w.heap.size w w' := by
 obtain ⟨hA, c0, _⟩ := mj_wood h
 obtain ⟨d0, _⟩ := mj_cells h
 have P := used_any w hA
 have HJ : Hid ((mjV c k vt ve).J F s w) := h
 have k1 := hA.hO
 have k2 := hA.hg
 clear h hA
 go_enter Tryz.func152, Tryz.ntmps152
 go_wp2_with fail
 refine P.mono ?_
 clear P
 rintro e w1 ⟨rfl, hb1⟩
 have h1 := (mjV c k vt ve).below HJ.out hb1
 obtain ⟨hA, e0, _⟩ := mj_wood h1
 obtain ⟨f0, _⟩ := mj_cells h1
 have P := freeOf_any w1 hA
 clear h1 hA c0 d0
 go_wp2_with fail
 refine P.mono ?_
 clear P
 rintro e w2 ⟨rfl, hb2⟩
 have HB : Hid (Below w.heap.size w w2) := hb1.trans (hb2.mono hb1.size)
 clear hb1 hb2 e0 f0
 go_wp2_with fail
 go_ret
 exact ⟨by go_num, HB.out⟩
theorem place1J_any {bp bn : Nat} {n m a : Int} (h : (obN (obX (mjV c k vt ve) bp (boxJ c)) bn).J F (s, n) w) (ht : k.T.length <= 4000) (ha : a ∈ k.T) (hp : 0 <= a /\ a <= 2000) (hn : 0 <= n /\ n <= 100000) (hm : 0 <= m /\ m <= 13) :
  Calls Tryz.prog 210 #[.int .i64 a, .int .i64 m, .pointer (some ⟨bn, 0, none⟩), .pointer (some ⟨bp, 0, none⟩)] w fun e w' => ∃ F', e = .returned (.tuple #[]) /\ (obN (obX (mjV c k vt ve) bp (boxJ c)) bn).J F' ({ s with f := upf s.f a n }, n + m) w' /\ Tn F w F' w' := by
 have hky := keyI hp.1 (by omega)
 have hvl := elI n (WalkArith.wf_i64 ⟨by omega, by omega⟩)
 obtain ⟨x2, _⟩ := obN_cell h
 obtain ⟨_, h1, _⟩ := obN_in h
 obtain ⟨_, h2, x3, _⟩ := obX_in h1
 obtain ⟨_, _, _, d3, _⟩ := mj_cells h2
 have x3 : w.cell? ⟨bp, 0, none⟩ = some (.pointer (some ⟨c.pk, 0, none⟩)) := by simp [World.cell?, x3]
 clear h1 h2
 have hd := (obN (obX (mjV c k vt ve) bp (boxJ c)) bn).below h (Below.refl _ w).drew
 obtain ⟨F1, h1, _, _, U1⟩ := obN_in hd
 obtain ⟨F2, h2, _, _, U2⟩ := obX_in h1
 obtain ⟨⟨D, o1, o2, o3⟩, hM⟩ := mj_map h2
 obtain ⟨w3, hrun, hown3, hgrow3⟩ := o1.update (t := 109) (e := 3) lawI Tryz.underlying109 (by unfold maxLen; omega) hky hvl
 obtain ⟨J3, T3⟩ := hM w3 _ (Mp.put o1 o2 o3 ha hown3) ((Fr.refl _ w.drew).grown hgrow3 (fun b e => Or.inl (by cases e; rfl)))
 obtain ⟨J4, T4⟩ := U2 _ _ _ J3 T3
 obtain ⟨J5, T5⟩ := U1 _ _ _ J4 T4
 obtain ⟨y2, z2⟩ := obN_cell J5
 have HJ : Hid (_ /\ _) := ⟨J5, (Tn.of (Below.refl _ w).drew).trans T5⟩
 clear h hd h1 h2 U1 U2 hM o1 o2 o3 hown3 hgrow3 J3 T3 J4 T4 J5 T5
 dsimp only at x2 y2
 go_enter Tryz.func210, Tryz.ntmps210
 go_wp2_with fail
 go_region
 go_wp2_with fail
 go_end0
 obtain ⟨J6, T6⟩ := obN_set HJ.out.1 (n + m)
 exact ⟨_, rfl, J6, HJ.out.2.trans T6⟩
end
end Go.Proofs.YtnalfnlmaallmaaGreat
