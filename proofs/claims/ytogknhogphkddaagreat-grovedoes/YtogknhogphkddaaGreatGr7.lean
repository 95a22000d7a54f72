/- The document's world: Cut, where it is not refused at once: a contract. -/
import Derived.Test.YtogknhogphkddaaGreatJ12
namespace Go.Proofs.YtogknhogphkddaaGreat
open Go.RowKit W Kp Stl

section
variable {rp rb : Nat} {most grow : Int} {F : Nat → Prop} {s : Wrs} {w : World}

set_option maxRecDepth 100000 in
set_option maxHeartbeats 8000000 in
theorem cutW_yes (h : (wrO rp rb most grow).J F s w) (hv : Wcv s) (h0 : 0 ≤ grow) (h1 : grow ≤ 100000) (mj : Bool) (hf : mj = false → ¬ grow - (usd s.T).2 < (usd s.T).1) (g : List Bool → List Bool) (hg : Gok s.T s.wt g) :
    Calls Tryz.prog 29 #[.pointer (some ⟨rp, 0, none⟩), .bool mj] w fun e w' => ∃ F', e = .returned (.int .i64 (s.ccd g grow mj)) ∧ (wrO rp rb most grow).J F' (s.cut g grow mj) w' ∧ Tn F w F' w' := by
  have PU := usedW_any h hv.t12 hv.tl
  have bd := usd_bd s.T hv.t12
  have ht := hv.tl
  have HJ : Hid ((wrO rp rb most grow).J F s w) := h
  have HV : Hid (Wcv s) := hv
  have HG : Hid (Gok s.T s.wt g) := hg
  have HFM2 : Hid (s.cF g grow mj = decide (grow < cwn s.T (s.cR g mj).1 s.T.length)) := by
    show _ = _
    unfold Wrs.cF
    cases mj
    · rw [decide_eq_false (hf rfl)]
      rfl
    · rfl
  have HFM : Hid (mj = false → ¬ grow - (usd s.T).2 < (usd s.T).1) := hf
  obtain ⟨_, _, c5, _⟩ := wr_cells h
  have HB : Hid (∀ w', Below w.heap.size w w' → w'.cell? ⟨rp, 5, none⟩ = some (.int .i64 grow)) := fun w' hb => (hb.cell (p := ⟨rp, 5, none⟩) (World.block_lt_of_cell? w _ c5)).trans c5
  -- First, Grown
  have HP1 : Hid (∀ w', Below w.heap.size w w' → Calls Tryz.prog 53 #[.pointer (some ⟨rp, 0, none⟩), .bool mj] w' fun e w'' => ∃ b, e = .returned (.slice (some ⟨b, 0, none⟩) s.T.length s.T.length) ∧ (w''.ownsRow w'.heap.size 4 1 (.slice (some ⟨b, 0, none⟩) s.T.length s.T.length) s.T.length ((frs s.T s.rs mj).map Value.bool)) ∧ Below w'.heap.size w' w'') := fun w' hb => first_any ((wrO rp rb most grow).below h hb) mj hv.tl (fun v hv' h3 => by
    obtain ⟨q1, q2⟩ := hv.rv v hv' h3
    have := q2.1
    exact ⟨q1, by omega⟩)
  have HP2 : Hid (∀ w' b, Below w.heap.size w w' → w'.ownsRow w.heap.size 4 1 (.slice (some ⟨b, 0, none⟩) s.T.length s.T.length) s.T.length ((frs s.T s.rs mj).map Value.bool) → Calls Tryz.prog 52 #[.pointer (some ⟨rp, 0, none⟩), .slice (some ⟨b, 0, none⟩) s.T.length s.T.length] w' fun e w'' => ∃ ad c, e = .returned (.slice ad s.T.length c) ∧ w''.ownsRow w'.heap.size 4 1 (.slice ad s.T.length c) s.T.length ((s.c0 g mj).map Value.bool) ∧ Below w'.heap.size w' w'') := fun w' b hb hr => by
    have hF := hv.first mj
    have hl := frs_len s.T s.rs mj
    rw [← hl] at hr
    have P := grown_any ((wr_wg h).below hb) hv.iv (some ⟨b, 0, none⟩) s.T.length (row_bools hr) (fun e => by cases e) hl hv.tl (Nat.le_trans hv.wl (by omega)) hF.al
    rw [hl] at P
    refine P.mono ?_
    rintro e w'' ⟨ad, c, out, rfl, q1, q2, q3⟩
    have eo : out = s.c0 g mj := q2.uniq (hg _ hF.len hF.al)
    have el : out.length = s.T.length := q2.len.trans hl
    rw [el] at q1 ⊢
    rw [eo] at q1
    exact ⟨ad, c, rfl, q1, q3⟩
  have HL0 : Hid (Sok_ s.T (s.c0 g mj)) := (hg.ok hv.iv (hv.first mj)).1
  have ECC : Hid (s.ccd g grow mj = if s.cF g grow mj = true then 3 else 0) := rfl
  generalize hcc : s.ccd g grow mj = cc at *
  generalize hcs : s.cut g grow mj = sc at *
  have HCC : Hid (s.ccd g grow mj = cc ∧ s.cut g grow mj = sc) := ⟨hcc, hcs⟩
  generalize (usd s.T).1 = a at *
  generalize (usd s.T).2 = b at *
  have a1 : a ≤ 130000 := by omega
  have b1 : b ≤ 130000 := by omega
  obtain ⟨a0, _, b0, _⟩ := bd
  clear h hv hg hf c5 hcc hcs
  go_enter Tryz.func29, Tryz.ntmps29
  go_wp2_with fail
  refine PU.mono ?_
  clear PU
  rintro e w1 ⟨rfl, hb1⟩
  have c5 := HB.out w1 hb1
  have P1 := HP1.out w1 hb1
  have HB1 : Hid (Below w.heap.size w w1) := hb1
  clear hb1 HP1
  have HMJ : mj = true ∨ (mj = false ∧ a ≤ grow - b) := by
    cases mj
    · exact Or.inr ⟨rfl, by have := HFM.out rfl; omega⟩
    · exact Or.inl rfl
  clear HFM
  go_upto_region 2 with fail
  go_cut [39] (fun v39 wc => v39 = .bool false ∧ wc = w1)
  case first =>
    clear P1 HB HP2
    rcases HMJ with rfl | ⟨rfl, hle⟩
    · go_wp2_with fail
      go_meet
      case rel => exact ⟨rfl, rfl⟩
    · go_wp2_with fail
      go_meet
      case rel => exact ⟨by rw [decide_eq_false (by omega)], rfl⟩
  case rest =>
    obtain ⟨rfl, rfl⟩ := hcut
    clear HMJ c5
    go_wp2_with fail
    refine P1.mono ?_
    clear P1
    rintro e w2 ⟨fb, rfl, hr2, hb2⟩
    have hB2 : Below w.heap.size w w2 := HB1.out.trans (hb2.mono HB1.out.size)
    have P2 := HP2.out w2 fb hB2 (row_base hr2 (fun k e => Nat.le_trans HB1.out.size (row_lt hr2 k e).1))
    have HB2 : Hid (Below w.heap.size w w2) := hB2
    clear hr2 hb2 hB2 HP2 HB1
    go_wp2_with fail
    refine P2.mono ?_
    clear P2
    rintro e w3 ⟨ad, c, rfl, hr3, hb3⟩
    have HR3 : Hid (w3.ownsRow w.heap.size 4 1 (.slice ad s.T.length c) s.T.length ((s.c0 g mj).map Value.bool) ∧ Below w.heap.size w w3) := ⟨row_base hr3 (fun k e => Nat.le_trans HB2.out.size (row_lt hr3 k e).1), HB2.out.trans (hb3.mono HB2.out.size)⟩
    clear hr3 hb3 HB2
    have HRG : Hid (∀ w', Below w.heap.size w w' → ∃ v2 v3, w'.cell? ⟨rp, 2, none⟩ = some v2 ∧ w'.cell? ⟨rp, 3, none⟩ = some v3 ∧ w'.ownsRow 0 71 2 v2 s.rg.length (ev s.rg) ∧ w'.ownsRow 0 71 2 v3 s.wt.length (ev s.wt)) := fun w' hb => by
      obtain ⟨v2, v3, q1, q2, q3, q4, _⟩ := wr_regs ((wrO rp rb most grow).below HJ.out hb)
      exact ⟨v2, v3, q1, q2, q3, q4⟩
    obtain ⟨v2, v3, d2, d3, r2, r3⟩ := HRG.out w3 HR3.out.2
    obtain ⟨a2, c2, e2⟩ := row_slice r2
    subst e2
    obtain ⟨i0, hi0, hz0, hz1, hz2⟩ := info_parts infoB
    have hgl := HV.out.gl
    clear r2 r3 d3
    go_upto_region 6 with (at_make; refine wpList_make_full _ rfl _ _ 107 rfl w3.heap.size 4 i0 (.bool false) 1 Tryz.underlying107 hi0 hz0 hz1 .i64 .i64 _ _ s.rg.length rfl rfl (by omega) (by omega) (by rw [hz2]; omega) (by unfold maxLen; omega) (Nat.le_refl _) ?_; intro w4 hown4 hgrow4)
    have hb4 : Below w3.heap.size w3 w4 := (Below.refl _ w3).grown hgrow4 (Nat.le_refl _) (fun _ h => by cases h)
    have HR4 : Hid (w4.ownsRow w.heap.size 4 1 (.slice ad s.T.length c) s.T.length ((s.c0 g mj).map Value.bool) ∧ Below w.heap.size w w4 ∧ w4.ownsRow w.heap.size 4 1 (.slice (some ⟨w3.heap.size, 0, none⟩) s.rg.length s.rg.length) s.rg.length ((List.replicate s.rg.length false).map Value.bool) ∧ (∀ k, some k = (Value.slice ad s.T.length c).ownBlock → k < w3.heap.size) ∧ w.heap.size ≤ w3.heap.size) := ⟨row_keep HR3.out.1 (fun k e => hb4.block k (row_lt HR3.out.1 k e).2), HR3.out.2.trans (hb4.mono HR3.out.2.size), row_base (made_rowB hown4) (fun k e => Nat.le_trans HR3.out.2.size (row_lt (made_rowB hown4) k e).1), fun k e => (row_lt HR3.out.1 k e).2, HR3.out.2.size⟩
    have d4 := (hb4.cell (p := ⟨rp, 2, none⟩) (World.block_lt_of_cell? w3 _ d2)).trans d2
    clear hown4 hgrow4 hb4 HR3 d2
    generalize w3.heap.size = db at *
    go_upto_region 7 with (at_make; refine wpList_make_full _ rfl _ _ 107 rfl w4.heap.size 4 i0 (.bool false) 1 Tryz.underlying107 hi0 hz0 hz1 .i64 .i64 _ _ s.rg.length rfl rfl (by omega) (by omega) (by rw [hz2]; omega) (by unfold maxLen; omega) (Nat.le_refl _) ?_; intro w5 hown5 hgrow5)
    have hb5 : Below w4.heap.size w4 w5 := (Below.refl _ w4).grown hgrow5 (Nat.le_refl _) (fun _ h => by cases h)
    have ldb : db < w4.heap.size := (row_lt HR4.out.2.2.1 db rfl).2
    have HR5 : Hid (w5.ownsRow w.heap.size 4 1 (.slice ad s.T.length c) s.T.length ((s.c0 g mj).map Value.bool) ∧ Below w.heap.size w w5 ∧ w5.ownsRow w.heap.size 4 1 (.slice (some ⟨db, 0, none⟩) s.rg.length s.rg.length) s.rg.length ((((s.rg.take 0).map (fun e => !isd (s.c0 g mj) e.2)) ++ List.replicate (s.rg.length - 0) false).map Value.bool) ∧ w5.ownsRow w.heap.size 4 1 (.slice (some ⟨w4.heap.size, 0, none⟩) s.rg.length s.rg.length) s.rg.length ((List.replicate s.rg.length false).map Value.bool)) := ⟨row_keep HR4.out.1 (fun k e => hb5.block k (row_lt HR4.out.1 k e).2), HR4.out.2.1.trans (hb5.mono HR4.out.2.1.size), by
      have := row_keep HR4.out.2.2.1 (fun k e => hb5.block k (row_lt HR4.out.2.2.1 k e).2)
      simpa using this, row_base (made_rowB hown5) (fun k e => Nat.le_trans HR4.out.2.1.size (row_lt (made_rowB hown5) k e).1)⟩
    have HNE : Hid ((∀ k, some k = (Value.slice ad s.T.length c).ownBlock → k < db) ∧ db < w4.heap.size ∧ w.heap.size ≤ db) := ⟨HR4.out.2.2.2.1, ldb, HR4.out.2.2.2.2⟩
    clear hown5 hgrow5 hb5 HR4 d4 ldb hi0 hz0 hz1 hz2
    generalize w4.heap.size = mb at *
    go_wp2_with fail
    go_loopw [10] (fun iv wr => ∃ i : Nat, i ≤ s.rg.length ∧ iv = .int .i64 i ∧ Hid (wr.ownsRow w.heap.size 4 1 (.slice ad s.T.length c) s.T.length ((s.c0 g mj).map Value.bool) ∧ Below w.heap.size w wr ∧ wr.ownsRow w.heap.size 4 1 (.slice (some ⟨db, 0, none⟩) s.rg.length s.rg.length) s.rg.length ((((s.rg.take i).map (fun e => !isd (s.c0 g mj) e.2)) ++ List.replicate (s.rg.length - i) false).map Value.bool) ∧ wr.ownsRow w.heap.size 4 1 (.slice (some ⟨mb, 0, none⟩) s.rg.length s.rg.length) s.rg.length ((List.replicate s.rg.length false).map Value.bool))) (fun iv _ => s.rg.length - (intOf iv).toNat)
    case atStart => exact ⟨0, Nat.zero_le _, rfl, HR5⟩
    case round =>
      clear HR5
      obtain ⟨i, hi, rfl, H⟩ := hrel
      obtain ⟨v2, v3, d2, d3, r2, r3⟩ := HRG.out wr H.out.2.1
      obtain ⟨a2', c2', e2⟩ := row_slice r2
      subst e2
      by_cases hlt : i < s.rg.length
      · obtain ⟨fb, fo, rfl, lfb, hfc⟩ := row_pairs r2 (by omega)
        obtain ⟨y0, y1⟩ := hfc i hlt
        have hmem : s.rg.getD i (0, 0) ∈ s.rg := getD_in hlt
        obtain ⟨_, n0, n1⟩ := HV.out.gv _ hmem
        have HX := fl_next (fun e : En => !isd (s.c0 g mj) e.2) s.rg i hlt (0, 0)
        have hl0 := HL0.out.len
        obtain ⟨n, hn⟩ := Int.eq_ofNat_of_zero_le n0
        rw [hn] at y1
        have n1 : n < s.T.length := by have := n1.1; rw [hn] at this; simpa using this
        have eD : (!isd (s.c0 g mj) (s.rg.getD i (0, 0)).2) = !(s.c0 g mj).getD n false := by
          rw [hn]
          rfl
        rw [eD] at HX
        obtain ⟨b9, c9, e9⟩ := row_shape H.out.1 (by omega)
        obtain ⟨rfl, rfl⟩ : ad = some ⟨b9, 0, none⟩ ∧ c = c9 := by simpa using e9
        have u0 := (row_cell H.out.1 (bool_at (L := s.c0 g mj) (i := n) (by omega))).1
        have hci := bool_at (L := ((s.rg.take i).map (fun e : En => !isd (s.c0 g mj) e.2)) ++ List.replicate (s.rg.length - i) false) (i := i) (by rw [fl_len _ _ _ hi]; exact hlt)
        obtain ⟨u1, u2⟩ := row_cell H.out.2.2.1 hci
        have HQ : Hid ((wr.setCell ⟨db, i, none⟩ (.bool (!(s.c0 g mj).getD n false))).ownsRow w.heap.size 4 1 (.slice (some ⟨b9, 0, none⟩) s.T.length c) s.T.length ((s.c0 g mj).map Value.bool) ∧ Below w.heap.size w (wr.setCell ⟨db, i, none⟩ (.bool (!(s.c0 g mj).getD n false))) ∧ (wr.setCell ⟨db, i, none⟩ (.bool (!(s.c0 g mj).getD n false))).ownsRow w.heap.size 4 1 (.slice (some ⟨db, 0, none⟩) s.rg.length s.rg.length) s.rg.length ((((s.rg.take (i + 1)).map (fun e => !isd (s.c0 g mj) e.2)) ++ List.replicate (s.rg.length - (i + 1)) false).map Value.bool) ∧ (wr.setCell ⟨db, i, none⟩ (.bool (!(s.c0 g mj).getD n false))).ownsRow w.heap.size 4 1 (.slice (some ⟨mb, 0, none⟩) s.rg.length s.rg.length) s.rg.length ((List.replicate s.rg.length false).map Value.bool)) := by
          have kk : ∀ k, k ≠ db → (wr.setCell ⟨db, i, none⟩ (.bool (!(s.c0 g mj).getD n false))).heap[k]? = wr.heap[k]? := fun k hk => Below.heap_setCell _ _ _ _ hk
          refine ⟨row_keep H.out.1 (fun k e => kk k (fun e' => by have := HNE.out.1 k e; omega)), H.out.2.1.trans (((Fr.refl (fun k => k = db) wr).set db i _ rfl).below H.out.2.1.size (fun k e => by have e : k = db := e; have := HNE.out.2.2; omega)), ?_, row_keep H.out.2.2.2 (fun k e => kk k (fun e' => by have e : some k = some mb := e; cases e; have := HNE.out.2.1; omega))⟩
          rw [← HX, List.map_set]
          exact row_put H.out.2.2.1 i _
        have q0 : (0 : Int) ≤ (i : Int) := by omega
        have q1 : (i : Int) < (s.rg.length : Int) := by omega
        have q2 : (0 : Int) ≤ (n : Int) := by omega
        have q3 : (n : Int) < (s.T.length : Int) := by omega
        clear hfc hmem n0 HX hn eD e9 hci H r2 r3 d3
        generalize (s.c0 g mj).getD n false = bv at *
        as_aux_lemma =>
        go_wp2_with fail
        go_roundw
        case rel => exact ⟨i + 1, by omega, by go_num, HQ⟩
        case measure => simp [intOf]; omega
      · obtain rfl : i = s.rg.length := by omega
        have HR6 : Hid (wr.ownsRow w.heap.size 4 1 (.slice ad s.T.length c) s.T.length ((s.c0 g mj).map Value.bool) ∧ Below w.heap.size w wr ∧ wr.ownsRow w.heap.size 4 1 (.slice (some ⟨db, 0, none⟩) s.rg.length s.rg.length) s.rg.length ((s.rg.map (fun e => !isd (s.c0 g mj) e.2)).map Value.bool) ∧ wr.ownsRow w.heap.size 4 1 (.slice (some ⟨mb, 0, none⟩) s.rg.length s.rg.length) s.rg.length ((List.replicate s.rg.length false).map Value.bool)) := ⟨H.out.1, H.out.2.1, by
          have := H.out.2.2.1
          rw [List.take_length, Nat.sub_self] at this
          simpa using this, H.out.2.2.2⟩
        clear H r2
        have hJ6 := (wrO rp rb most grow).below HJ.out HR6.out.2.1
        obtain ⟨aT, cT, cw0, hTw⟩ := (wr_wg HJ.out).th
        have c0 := (HR6.out.2.1.cell (p := ⟨rp, 0, none⟩) (World.block_lt_of_cell? w _ cw0)).trans cw0
        have HT0 : Hid (∀ w', Below w.heap.size w w' → w'.cell? ⟨rp, 0, none⟩ = some (.slice aT s.T.length cT)) := fun w' hb => (hb.cell (p := ⟨rp, 0, none⟩) (World.block_lt_of_cell? w _ cw0)).trans cw0
        have HTI : Hid (∀ w', Below w.heap.size w w' → ∀ (i : Nat) (x : Tw1), s.T[i]? = some x → ∃ b ad cp, aT = some ⟨b, 0, none⟩ ∧ w'.cell? ⟨b, i * 4, none⟩ = some (.int .i64 x.1) ∧ w'.cell? ⟨b, i * 4 + 1, none⟩ = some (.slice ad x.2.1.length cp) ∧ w'.cell? ⟨b, i * 4 + 2, none⟩ = some (.bool x.2.2.1) ∧ w'.cell? ⟨b, i * 4 + 3, none⟩ = some (.bool x.2.2.2) ∧ Lp w' ad x.2.1) := fun w' hb i x hx => by
          obtain ⟨b, ad, cp, e, y0, y1, y2, y3, yl⟩ := hTw i x hx
          have k : ∀ {a : Addr} {v : Value}, w.cell? a = some v → w'.cell? a = some v := fun {a v} e => (hb.cell (p := a) (World.block_lt_of_cell? w _ e)).trans e
          exact ⟨b, ad, cp, e, k y0, k y1, k y2, k y3, yl.below hb⟩
        clear cw0 hTw
        obtain ⟨c1, c4, c5, _⟩ := wr_cells hJ6
        obtain ⟨a3, c3, e3⟩ := row_slice r3
        subst e3
        have hL3 := row_pairs r3
        have hn3 : a3 = none → s.wt.length = 0 ∧ c3 = 0 := row_none r3
        obtain ⟨ie, hie, hze0, hze1, hze2⟩ := info_parts infoEr
        have hwl := HV.out.wl
        have hbX := (Below.refl wr.heap.size wr).alloc (Nat.le_refl _) (.cells #[.slice aT s.T.length cT, .slice (some ⟨rb, 0, none⟩) 12 12, .slice a2' s.rg.length c2', .slice a3 s.wt.length c3, .int .i64 most, .int .i64 grow] 60)
        have hX := heap_alloc_new wr (.cells #[.slice aT s.T.length cT, .slice (some ⟨rb, 0, none⟩) 12 12, .slice a2' s.rg.length c2', .slice a3 s.wt.length c3, .int .i64 most, .int .i64 grow] 60)
        clear hJ6 r3
        go_upto_region 12 with fail
        generalize wr.alloc (.cells #[.slice aT s.T.length cT, .slice (some ⟨rb, 0, none⟩) 12 12, .slice a2' s.rg.length c2', .slice a3 s.wt.length c3, .int .i64 most, .int .i64 grow] 60) = w6 at *
        have HX6 : Hid (w6.heap[wr.heap.size]? = some (.cells #[.slice aT s.T.length cT, .slice (some ⟨rb, 0, none⟩) 12 12, .slice a2' s.rg.length c2', .slice a3 s.wt.length c3, .int .i64 most, .int .i64 grow] 60 (0, 0)) ∧ Below wr.heap.size wr w6) := ⟨hX, hbX⟩
        have d36 := (hbX.cell (p := ⟨rp, 3, none⟩) (World.block_lt_of_cell? wr _ d3)).trans d3
        have lrp6 : rp < w6.heap.size := World.block_lt_of_cell? w6 _ d36
        have hE := owns_emptyEr w6
        have hbE := (Below.refl w6.heap.size w6).alloc (Nat.le_refl _) (.cells #[] 71)
        have HL3 : Hid (Lp (w6.alloc (.cells #[] 71)) a3 s.wt ∧ (a3 = none → s.wt.length = 0 ∧ c3 = 0)) := ⟨(hL3.below hbX).below hbE, hn3⟩
        have lx6 := lt_of_some hX
        clear hX hbX hL3 hn3 d3 c0 c1 c4 c5 d2
        go_upto_region 13 with (at_builtin; refine wpList_append_src _ rfl _ _ 58 rfl w6.heap.size 71 ie (.agg #[.int .i64 0, .int .i64 0]) 2 16 Tryz.underlying58 hie hze0 hze1 hze2 rfl (by decide) (.slice (some ⟨w6.heap.size, 0, none⟩) 0 0) 0 [] rfl hE a3 s.wt.length c3 (ev s.wt) rfl (ev_length s.wt) HL3.out.2 HL3.out.1.cells (ev_one s.wt) (by unfold maxLen; omega) (by omega) (by simp) ?_; intro ax cx w7 hown7 hgrow7 _; rw [Nat.zero_add, List.nil_append] at hown7; have hb7 : Below w6.heap.size w6 w7 := (hbE.trans ((Below.refl w6.heap.size (w6.alloc (.cells #[] 71))).grown hgrow7 (by simp) (fun k e => by simp [Value.ownBlock] at e; omega))); have hx7 := (hb7.block wr.heap.size lx6).trans HX6.out.1; have u0 : w7.cell? ⟨wr.heap.size, 3, none⟩ = some (.slice a3 s.wt.length c3) := (by simp [World.cell?, hx7]); have u1 : w7.frozen? ⟨wr.heap.size, 3, none⟩ = false := (by simp [World.frozen?, hx7]))
        have HRK : Hid (Rk w s db mb wr.heap.size (.slice aT s.T.length cT) (.slice (some ⟨rb, 0, none⟩) 12 12) (.slice a2' s.rg.length c2') most grow (s.rg.map (fun e => !isd (s.c0 g mj) e.2)) (w7.setCell ⟨wr.heap.size, 3, none⟩ (.slice ax s.wt.length cx)) ad c (s.c0 g mj) (List.replicate s.rg.length false) []) := by
          have kk : ∀ k, k ≠ wr.heap.size → (w7.setCell ⟨wr.heap.size, 3, none⟩ (.slice ax s.wt.length cx)).heap[k]? = w7.heap[k]? := fun k hk => Below.heap_setCell _ _ _ _ hk
          have k7 : ∀ k, k < wr.heap.size → (w7.setCell ⟨wr.heap.size, 3, none⟩ (.slice ax s.wt.length cx)).heap[k]? = wr.heap[k]? := fun k hk => (kk k (by omega)).trans ((hb7.block k (by have := HX6.out.2.size; omega)).trans (HX6.out.2.block k hk))
          have hs6 := HX6.out.2.size
          refine ⟨row_keep HR6.out.1 (fun k e => k7 k (row_lt HR6.out.1 k e).2), ?_, row_keep HR6.out.2.2.1 (fun k e => k7 k (row_lt HR6.out.2.2.1 k e).2), row_keep HR6.out.2.2.2 (fun k e => k7 k (row_lt HR6.out.2.2.2 k e).2), ⟨ax, cx, ?_, ?_⟩, fun k e => ⟨by have := HNE.out.1 k e; omega, by have := HNE.out.1 k e; have := HNE.out.2.1; omega⟩⟩
          · refine (HR6.out.2.1.trans ((HX6.out.2.trans (hb7.mono hs6)).mono HR6.out.2.1.size)).trans (((Fr.refl (fun k => k = wr.heap.size) w7).set wr.heap.size 3 _ rfl).below ?_ (fun k e => by have e : k = wr.heap.size := e; have := HR6.out.2.1.size; omega))
            have := HR6.out.2.1.size
            have := hb7.size
            omega
          · rw [List.append_nil]
            simp only [World.setCell, Array.getElem?_modify, if_true, hx7, Option.map_some]
            simp
          · rw [List.append_nil]
            refine row_keep (row_base hown7 (fun k e => ?_)) (fun k e => kk k (fun e' => ?_))
            · have := (row_lt hown7 k e).1
              have := HR6.out.2.1.size
              omega
            · have := (row_lt hown7 k e).1
              omega
        have HXB : Hid (mb < wr.heap.size ∧ w.heap.size ≤ db ∧ db < mb) := ⟨(row_lt HR6.out.2.2.2 mb rfl).2, HNE.out.2.2, HNE.out.2.1⟩
        clear HR6 hx7 u0 u1 hown7 hgrow7 hb7 HX6 d36 lrp6 hE hbE HL3 lx6 HNE
        generalize w7.setCell ⟨wr.heap.size, 3, none⟩ (.slice ax s.wt.length cx) = w8 at *
        generalize wr.heap.size = xb at *
        have HREM : Hid (rem s.rg (s.rg.map (fun e => !isd (s.c0 g mj) e.2)) (List.replicate s.rg.length false) = s.rg.filter (fun e => !isd (s.c0 g mj) e.2)) := rem_first (fun e => isd (s.c0 g mj) e.2) s.rg
        have HCR : Hid (turns isd (kpg g) (s.rg.length + 1) (rem s.rg (s.rg.map (fun e => !isd (s.c0 g mj) e.2)) (List.replicate s.rg.length false)) (s.c0 g mj) [] = s.cR g mj) := by
          show _ = _
          rw [HREM.out]
          rfl
        generalize hD : s.rg.map (fun e => !isd (s.c0 g mj) e.2) = D at *
        have HDL : Hid (D.length = s.rg.length) := by show _ = _; rw [← hD, List.length_map]
        go_wp2_with fail
        go_loopg [7, 12] (s.rg.length + 1) (fun m iv mv wr => ∃ (ai : Option Addr) (ci : Nat) (L M : List Bool) (C : List En) (more : Bool), iv = .slice ai s.T.length ci ∧ mv = .bool more ∧ Hid (Rk w s db mb xb (.slice aT s.T.length cT) (.slice (some ⟨rb, 0, none⟩) 12 12) (.slice a2' s.rg.length c2') most grow D wr ai ci L M C) ∧ Hid (M.length = s.rg.length ∧ Sok_ s.T L ∧ (∀ e ∈ C, e ∈ s.rg ∧ Ls_ L e.2.toNat) ∧ C.length + (rem s.rg D M).length ≤ s.rg.length) ∧ Hid ((more = true → turns isd (kpg g) m (rem s.rg D M) L C = s.cR g mj ∧ (rem s.rg D M).length + 1 ≤ m) ∧ (more = false → (L, C, rem s.rg D M) = s.cR g mj)))
        case atStart => exact ⟨ad, c, s.c0 g mj, List.replicate s.rg.length false, [], true, rfl, rfl, HRK, ⟨by simp, HL0.out, fun e he => (by cases he), by have := rem_len s.rg D (List.replicate s.rg.length false); simpa using this⟩, ⟨fun _ => ⟨HCR.out, by have := rem_len s.rg D (List.replicate s.rg.length false); omega⟩, fun h => by cases h⟩⟩
        case round =>
          clear HRK HREM HCR
          obtain ⟨ai, ci, L, M, C, more, rfl, rfl, HK, HP, HT⟩ := hrel
          cases more
          · have HEND : Hid ((L, C, rem s.rg D M) = s.cR g mj) := HT.out.2 rfl
            have hLl : L.length = s.T.length := HP.out.2.1.len
            have HBD : Hid (∀ j, 0 ≤ cwn s.T L j ∧ cwn s.T L j ≤ 13 * j) := cwn_bd s.T L HV.out.iv.tl
            clear HT
            go_wp2_with fail
            go_loopw [15, 16] (fun nv iv wr' => ∃ j : Nat, j ≤ s.T.length ∧ nv = .int .i64 (cwn s.T L j) ∧ iv = .int .i64 j ∧ Hid (Below wr.heap.size wr wr')) (fun _ iv _ => s.T.length - (intOf iv).toNat)
            case atStart => exact ⟨0, Nat.zero_le _, rfl, rfl, Below.refl _ _⟩
            case round =>
              obtain ⟨j, hj, rfl, rfl, HBW⟩ := hrel
              have hKb := HK.out.below HBW.out
              have t9 := HT0.out _ hKb.bl
              have bd := HBD.out j
              obtain ⟨bd1, bd2⟩ := bd
              generalize hcj : cwn s.T L j = cj at *
              by_cases hlt : j < s.T.length
              · obtain ⟨t, ht⟩ : ∃ t, s.T[j]? = some t := ⟨_, List.getElem?_eq_getElem hlt⟩
                obtain ⟨b9, ad9, cp9, e8, y0, y1, y2, y3, _⟩ := HTI.out _ hKb.bl j t ht
                rw [e8] at t9
                have egt : s.T.getD j t0 = t := by rw [List.getD_eq_getElem?_getD, ht]; rfl
                have hf : t.2.1.length ≤ 12 := by have := HV.out.iv.tl j; rw [egt] at this; exact this
                obtain ⟨ib, ic, e7⟩ := row_shape HK.out.ri (by omega)
                obtain ⟨rfl, rfl⟩ : ai = some ⟨ib, 0, none⟩ ∧ ci = ic := by simpa using e7
                have hig := (row_cell hKb.ri (bool_at (L := L) (i := j) (by omega))).1
                have HCW : Hid (cwn s.T L (j + 1) = if L.getD j false = true then cj + (1 + t.2.1.length) else cj) := by
                  show _ = _
                  rw [cwn, egt, hcj]
                have j0 : (0 : Int) ≤ (j : Int) := by omega
                have j1 : (j : Int) < (s.T.length : Int) := by omega
                clear hKb hcj
                cases hg : L.getD j false
                · rw [hg] at hig
                  have HC2 : Hid (cwn s.T L (j + 1) = cj) := by show _ = _; have := HCW.out; rw [hg] at this; simpa using this
                  clear HCW hg
                  as_aux_lemma =>
                  go_wp2_with fail
                  go_roundw
                  case rel => exact ⟨j + 1, by omega, by rw [HC2.out], by go_num, HBW⟩
                  case measure => simp [intOf]; omega
                · rw [hg] at hig
                  have HC2 : Hid (cwn s.T L (j + 1) = cj + (1 + t.2.1.length)) := by show _ = _; have := HCW.out; rw [hg] at this; simpa using this
                  clear HCW hg
                  as_aux_lemma =>
                  go_wp2_with fail
                  go_roundw
                  case rel => exact ⟨j + 1, by omega, by rw [HC2.out], by go_num, HBW⟩
                  case measure => simp [intOf]; omega
              · obtain rfl : j = s.T.length := by omega
                have c5 := (wr_cells ((wrO rp rb most grow).below HJ.out hKb.bl)).2.2.1
                have HKB : Hid (Rk w s db mb xb (.slice aT s.T.length cT) (.slice (some ⟨rb, 0, none⟩) 12 12) (.slice a2' s.rg.length c2') most grow D _ ai ci L M C) := hKb
                have HCJ : Hid (cwn s.T L s.T.length = cj) := hcj
                clear hKb hcj HK
                by_cases hgn : grow < cj
                · have HCR1 : Hid (s.cF g grow mj = true) := by
                    show _ = _
                    unfold Wrs.cF
                    rw [← HEND.out, HCJ.out, decide_eq_true hgn, Bool.or_true]
                  have HCD : Hid (cc = 3 ∧ sc = s) := by
                    have h1 := HCC.out.1
                    have h2 := HCC.out.2
                    unfold Wrs.ccd at h1
                    unfold Wrs.cut at h2
                    rw [if_pos HCR1.out] at h1 h2
                    exact ⟨h1.symm, h2.symm⟩
                  go_wp2_with fail
                  go_ret
                  exact ⟨F, by rw [HCD.out.1]; rfl, by rw [HCD.out.2]; exact (wrO rp rb most grow).below HJ.out HKB.out.bl, Tn.of HKB.out.bl⟩
                · have HCD : Hid (cc = 0 ∧ sc = ⟨cuL L s.T s.T.length, s.rs, s.rg.filter (fun e => isd (s.c0 g mj) e.2 && isd L e.1), (s.wt ++ C).filter (fun e => isd L e.1)⟩) := by
                    have HCR0 : s.cF g grow mj = false := by
                      rw [HFM2.out, ← HEND.out, HCJ.out, decide_eq_false hgn]
                    have h1 := HCC.out.1
                    have h2 := HCC.out.2
                    unfold Wrs.ccd at h1
                    unfold Wrs.cut at h2
                    rw [HCR0, if_neg (by simp)] at h1 h2
                    rw [← HEND.out] at h2
                    exact ⟨h1.symm, h2.symm⟩
                  have HCX : Hid ((∀ e ∈ C, e ∈ s.rg) ∧ C.length ≤ 1000) := ⟨fun e he => (HP.out.2.2.1 e he).1, by have h1 := HP.out.2.2.2; have h2 := HV.out.gl; omega⟩
                  have HSO : Hid (Sok_ s.T L) := HP.out.2.1
                  have HDD : Hid (D = s.rg.map (fun e => !isd (s.c0 g mj) e.2)) := hD.symm
                  iterate 62 go_step
                  refine Cut7.tail5_wp HJ.out HV.out HKB.out HDD.out HSO.out HCX.out.1 HCX.out.2 ?_
                  intro a' w' F2 ha hd hJ2 hT2
                  simp only [Array.getD_eq_getD_getElem?] at ha
                  refine bodyPost_ret (v := .int .i64 0) (by simp [results, Tryz.results29, ha]) hd ⟨F2, by rw [HCD.out.1], by rw [HCD.out.2]; exact hJ2, hT2⟩
          · obtain ⟨HT1, HT2⟩ := HT.out.1 rfl
            obtain ⟨m0, hm0⟩ : ∃ m0, gk = m0 + 1 := ⟨gk - 1, by omega⟩
            have HPS : Hid (turns isd (kpg g) gk (rem s.rg D M) L C = s.cR g mj ∧ gk = m0 + 1 ∧ (rem s.rg D M).length ≤ m0) := ⟨HT1, hm0, by omega⟩
            obtain ⟨P, hP⟩ : ∃ P, Hid (pass isd (kpg g) (rem s.rg D M) L C [] = P) := ⟨_, rfl⟩
            have HFR : Hid (Far isd (kpg g) s.rg D P 0 L C M) := by
              rw [← hP.out]
              exact Far.start HDL.out HP.out.1
            clear HT HT1 HT2 hm0
            go_wp2_with fail
            go_loopw [7, 12, 13] (fun iv mv kv wr => ∃ (i : Nat) (ai : Option Addr) (ci : Nat) (L' M' : List Bool) (C' : List En) (more : Bool), i ≤ s.rg.length ∧ iv = .slice ai s.T.length ci ∧ mv = .bool more ∧ kv = .int .i64 i ∧ Hid (Rk w s db mb xb (.slice aT s.T.length cT) (.slice (some ⟨rb, 0, none⟩) 12 12) (.slice a2' s.rg.length c2') most grow D wr ai ci L' M' C') ∧ Hid (M'.length = s.rg.length ∧ Sok_ s.T L' ∧ (∀ e ∈ C', e ∈ s.rg ∧ Ls_ L' e.2.toNat) ∧ C'.length ≤ C.length + i) ∧ Hid (Far isd (kpg g) s.rg D P i L' C' M' ∧ C.length ≤ C'.length ∧ (more = false → C'.length = C.length) ∧ (more = true → C.length < C'.length))) (fun _ _ kv _ => s.rg.length - (intOf kv).toNat)
            case atStart => exact ⟨0, ai, ci, L, M, C, false, Nat.zero_le _, rfl, rfl, rfl, HK, ⟨HP.out.1, HP.out.2.1, HP.out.2.2.1, Nat.le_refl _⟩, ⟨HFR.out, Nat.le_refl _, fun _ => rfl, fun h => by cases h⟩⟩
            case round =>
              clear HK HFR
              obtain ⟨i, ai, ci, L', M', C', more, hi, rfl, rfl, rfl, HK, HQ, HF⟩ := hrel
              obtain ⟨v2, v3, d2, _, r2, _⟩ := HRG.out wr HK.out.bl
              obtain ⟨a9, c9, e9⟩ := row_slice r2
              subst e9
              by_cases hlt : i < s.rg.length
              · obtain ⟨fb9, fo9, rfl, lfb, hfc⟩ := row_pairs r2 (by omega)
                obtain ⟨y0, y1⟩ := hfc i hlt
                have hmem : s.rg.getD i (0, 0) ∈ s.rg := getD_in hlt
                obtain ⟨⟨g0, g1⟩, n0, n1⟩ := HV.out.gv _ hmem
                obtain ⟨eg, het, hEE⟩ : ∃ eg et : Nat, s.rg.getD i (0, 0) = ((eg : Int), (et : Int)) := ⟨(s.rg.getD i (0, 0)).1.toNat, (s.rg.getD i (0, 0)).2.toNat, by rw [show (((s.rg.getD i (0, 0)).1.toNat : Nat) : Int) = (s.rg.getD i (0, 0)).1 by omega, show (((s.rg.getD i (0, 0)).2.toNat : Nat) : Int) = (s.rg.getD i (0, 0)).2 by omega]⟩
                have HEE : Hid (s.rg.getD i (0, 0) = ((eg : Int), (het : Int))) := hEE
                rw [hEE] at y0 y1 g1 n1 hmem
                dsimp only at y0 y1 g1 n1
                have g1 : eg < s.T.length := by simpa using g1.1
                have n2 : Alv s.T het := by simpa using n1
                have n3 : het < s.T.length := n2.1
                have hl' := HQ.out.2.1.len
                obtain ⟨ib, ic, e8⟩ := row_shape HK.out.ri (by omega)
                obtain ⟨rfl, rfl⟩ : ai = some ⟨ib, 0, none⟩ ∧ ci = ic := by simpa using e8
                have hde := (row_cell HK.out.rd (bool_at (L := D) (i := i) (by rw [HDL.out]; exact hlt))).1
                have hmo := row_cell HK.out.rm (bool_at (L := M') (i := i) (by rw [HQ.out.1]; exact hlt))
                have hig := (row_cell HK.out.ri (bool_at (L := L') (i := eg) (by omega))).1
                have q0 : (0 : Int) ≤ (i : Int) := by omega
                have q1 : (i : Int) < (s.rg.length : Int) := by omega
                have q2 : (0 : Int) ≤ (eg : Int) := by omega
                have q3 : (eg : Int) < (s.T.length : Int) := by omega
                have q4 : (0 : Int) ≤ (het : Int) := by omega
                have q5 : (het : Int) < (s.T.length : Int) := by omega
                have ldb := (row_lt HK.out.rd db rfl).2
                have lmb := (row_lt HK.out.rm mb rfl).2
                have lib := (row_lt HK.out.ri ib rfl).2
                have hbE := (Below.refl wr.heap.size wr).alloc (Nat.le_refl _) (.cells #[.int .i64 (eg : Int), .int .i64 (het : Int)] 71)
                have HKE : Hid (Rk w s db mb xb (.slice aT s.T.length cT) (.slice (some ⟨rb, 0, none⟩) 12 12) (.slice a2' s.rg.length c2') most grow D (wr.alloc (.cells #[.int .i64 (eg : Int), .int .i64 (het : Int)] 71)) (some ⟨ib, 0, none⟩) ci L' M' C') := HK.out.below hbE
                have HEB : Hid ((wr.alloc (.cells #[.int .i64 (eg : Int), .int .i64 (het : Int)] 71)).heap[wr.heap.size]? = some (.cells #[.int .i64 (eg : Int), .int .i64 (het : Int)] 71 (0, 0))) := heap_alloc_new _ _
                clear hEE g0 n0 hfc e8 r2
                cases hd : D.getD i false
                · rw [hd] at hde
                  have HF2 := HF.out.1.skip hlt (by rw [hd]; rfl)
                  have HFN : Hid (Far isd (kpg g) s.rg D P (i + 1) L' C' M' ∧ C.length ≤ C'.length ∧ (more = false → C'.length = C.length) ∧ (more = true → C.length < C'.length)) := ⟨HF2, HF.out.2⟩
                  clear HF HF2 hd
                  as_aux_lemma =>
                  go_wp2_with fail
                  go_roundw
                  case rel => exact ⟨i + 1, _, _, L', M', C', more, by omega, rfl, rfl, by go_num, HKE, ⟨HQ.out.1, HQ.out.2.1, HQ.out.2.2.1, by have := HQ.out.2.2.2; omega⟩, HFN⟩
                  case measure => simp [intOf]; omega
                · rw [hd] at hde
                  cases hmv : M'.getD i false
                  · rw [hmv] at hmo
                    cases hgi : L'.getD eg false
                    · rw [hgi] at hig
                      have HF2 := HF.out.1.left hlt (by rw [hd, hmv]; rfl) (by rw [HEE.out]; exact hgi)
                      have HFN : Hid (Far isd (kpg g) s.rg D P (i + 1) L' C' M' ∧ C.length ≤ C'.length ∧ (more = false → C'.length = C.length) ∧ (more = true → C.length < C'.length)) := ⟨HF2, HF.out.2⟩
                      obtain ⟨hmo, _⟩ := hmo
                      clear HF HF2 hd hmv hgi
                      as_aux_lemma =>
                      go_wp2_with fail
                      go_roundw
                      case rel => exact ⟨i + 1, _, _, L', M', C', more, by omega, rfl, rfl, by go_num, HKE, ⟨HQ.out.1, HQ.out.2.1, HQ.out.2.2.1, by have := HQ.out.2.2.2; omega⟩, HFN⟩
                      case measure => simp [intOf]; omega
                    · rw [hgi] at hig
                      have HF2 := HF.out.1.come hlt (by rw [hd, hmv]; rfl) (by rw [HEE.out]; exact hgi)
                      rw [HEE.out] at HF2
                      dsimp only at HF2
                      obtain ⟨k1, k2, k3⟩ := Sok_.kpg HG.out HV.out.iv HQ.out.2.1 (x := (het : Int)) (by simpa using n2)
                      have HFN : Hid (Far isd (kpg g) s.rg D P (i + 1) (kpg g L' (het : Int)) (C' ++ [((eg : Int), (het : Int))]) (M'.set i true) ∧ C.length ≤ (C' ++ [((eg : Int), (het : Int))]).length ∧ C.length < (C' ++ [((eg : Int), (het : Int))]).length) := ⟨HF2, by rw [List.length_append]; have := HF.out.2.1; simp; omega, by rw [List.length_append]; have := HF.out.2.1; simp; omega⟩
                      have HQN : Hid ((M'.set i true).length = s.rg.length ∧ Sok_ s.T (kpg g L' (het : Int)) ∧ (∀ e ∈ C' ++ [((eg : Int), (het : Int))], e ∈ s.rg ∧ Ls_ (kpg g L' (het : Int)) e.2.toNat) ∧ (C' ++ [((eg : Int), (het : Int))]).length ≤ C.length + (i + 1)) := ⟨by rw [List.length_set]; exact HQ.out.1, k1, fun e he => by
                        rcases List.mem_append.1 he with d | d
                        · exact ⟨(HQ.out.2.2.1 e d).1, k3 _ (HQ.out.2.2.1 e d).2⟩
                        · rw [List.mem_singleton.1 d]
                          exact ⟨hmem, by simpa using k2⟩, by rw [List.length_append]; have := HQ.out.2.2.2; simp; omega⟩
                      have hCC : C'.length ≤ 2000 := by have := HQ.out.2.2.2; have := HP.out.2.2.2; omega
                      -- Grown of the world with what waits
                      have HGR : Hid (∀ w', Rk w s db mb xb (.slice aT s.T.length cT) (.slice (some ⟨rb, 0, none⟩) 12 12) (.slice a2' s.rg.length c2') most grow D w' (some ⟨ib, 0, none⟩) ci (L'.set het true) M' (C' ++ [((eg : Int), (het : Int))]) → Calls Tryz.prog 52 #[.pointer (some ⟨xb, 0, none⟩), .slice (some ⟨ib, 0, none⟩) s.T.length ci] w' fun e w'' => ∃ aj cj, e = .returned (.slice aj s.T.length cj) ∧ w''.ownsRow w'.heap.size 4 1 (.slice aj s.T.length cj) s.T.length ((kpg g L' (het : Int)).map Value.bool) ∧ Below w'.heap.size w' w'') := fun w' hR => by
                        obtain ⟨ax, cx, x1, x2⟩ := hR.xx
                        obtain ⟨p1, p2, p3⟩ := HQ.out.2.1.put n2
                        have hWg : Wg w' xb s.T (s.wt ++ (C' ++ [((eg : Int), (het : Int))])) := ⟨⟨aT, cT, by simp [World.cell?, x1], fun i x hx => HTI.out w' hR.bl i x hx⟩, ⟨ax, cx, by simp [World.cell?, x1], row_pairs x2⟩⟩
                        have hiv : Wiv s.T (s.wt ++ (C' ++ [((eg : Int), (het : Int))])) := ⟨HV.out.iv.fl, HV.out.iv.fv, fun e he => by
                          rcases List.mem_append.1 he with d | d
                          · exact HV.out.iv.wv e d
                          · have hm : e ∈ s.rg := (HQN.out.2.2.1 e d).1
                            exact (HV.out.gv e hm).2, HV.out.iv.tl⟩
                        have hr := hR.ri
                        rw [← p1.len] at hr
                        have hl9 : (s.wt ++ (C' ++ [((eg : Int), (het : Int))])).length ≤ 10000 := by
                          rw [List.length_append, List.length_append]
                          have := HV.out.wl
                          simp
                          omega
                        have PG := grown_any hWg hiv (some ⟨ib, 0, none⟩) ci (row_bools hr) (fun e => by cases e) p1.len ht hl9 p1.al
                        rw [p1.len] at PG
                        refine PG.mono ?_
                        rintro e w'' ⟨aj, cj, out, rfl, o1, o2, o3⟩
                        have o4 : Grn s.T s.wt (L'.set het true) out := o2.less (fun e he => by
                          rcases List.mem_append.1 he with d | d
                          · exact p3 _ (HQ.out.2.2.1 e d).2
                          · rw [List.mem_singleton.1 d]
                            simpa using p2)
                        have eo : out = kpg g L' (het : Int) := by
                          unfold kpg
                          rw [Int.toNat_natCast]
                          exact o4.uniq (HG.out _ p1.len p1.al)
                        have el : out.length = s.T.length := o2.len.trans p1.len
                        rw [el] at o1 ⊢
                        rw [eo] at o1
                        exact ⟨aj, cj, rfl, o1, o3⟩
                      obtain ⟨hmo, hmf⟩ := hmo
                      clear HF HF2 k1 k2 k3 hd hmv hgi HQ
                      have HAP : Hid (xb < wr.heap.size ∧ ∀ ax cx, (wr.alloc (.cells #[.int .i64 (eg : Int), .int .i64 (het : Int)] 71)).heap[xb]? = some (.cells #[.slice aT s.T.length cT, .slice (some ⟨rb, 0, none⟩) 12 12, .slice a2' s.rg.length c2', .slice ax (s.wt ++ C').length cx, .int .i64 most, .int .i64 grow] 60 (0, 0)) → ∀ k, some k = (Value.slice ax (s.wt ++ C').length cx).ownBlock → k < wr.heap.size) := by
                        obtain ⟨ax0, cx0, h2, h3⟩ := HK.out.xx
                        refine ⟨lt_of_some h2, fun ax cx h4 k hk => ?_⟩
                        rw [hbE.block xb (lt_of_some h2), h2] at h4
                        have h5 : ax0 = ax ∧ cx0 = cx := by simpa using h4
                        obtain ⟨rfl, rfl⟩ := h5
                        exact (row_lt h3 k hk).2
                      go_upto_region 21 with fail
                      generalize wr.alloc (.cells #[.int .i64 (eg : Int), .int .i64 (het : Int)] 71) = wE at *
                      have heb : wE.heap[wr.heap.size]? = some (.cells #[.int .i64 (eg : Int), .int .i64 (het : Int)] 71 (0, 0)) := HEB.out
                      generalize wr.heap.size = eb at *
                      have z0 : wE.cell? ⟨eb, 0, none⟩ = some (.int .i64 (eg : Int)) := by simp [World.cell?, heb]
                      have z1 : wE.cell? ⟨eb, 1, none⟩ = some (.int .i64 (het : Int)) := by simp [World.cell?, heb]
                      obtain ⟨ax, cx, hx, rx⟩ := HKE.out.xx
                      have x3 : wE.cell? ⟨xb, 3, none⟩ = some (.slice ax (s.wt ++ C').length cx) := by simp [World.cell?, hx]
                      have lxE := lt_of_some hx
                      have leE := lt_of_some heb
                      have hbS := (Below.refl wE.heap.size wE).alloc (Nat.le_refl _) (.cells #[.int .i64 (eg : Int), .int .i64 (het : Int)] 71)
                      have hsr := heap_alloc_new wE (.cells #[.int .i64 (eg : Int), .int .i64 (het : Int)] 71)
                      have HRX : Hid (wE.heap[xb]? = some (.cells #[.slice aT s.T.length cT, .slice (some ⟨rb, 0, none⟩) 12 12, .slice a2' s.rg.length c2', .slice ax (s.wt ++ C').length cx, .int .i64 most, .int .i64 grow] 60 (0, 0)) ∧ wE.ownsRow w.heap.size 71 2 (.slice ax (s.wt ++ C').length cx) (s.wt ++ C').length (ev (s.wt ++ C')) ∧ Below wE.heap.size wE (wE.alloc (.cells #[.int .i64 (eg : Int), .int .i64 (het : Int)] 71)) ∧ w.heap.size ≤ wE.heap.size) := ⟨hx, rx, hbS, HKE.out.bl.size⟩
                      have rx2 := row_keep rx (fun k e => hbS.block k (row_lt rx k e).2)
                      have hLn : (s.wt ++ C').length ≤ 3000 := by rw [List.length_append]; have := HV.out.wl; omega
                      have HSC : Hid (∀ a, (some ⟨wE.heap.size, 0, none⟩ : Option Addr) = some a → ∀ k u, (ev [((eg : Int), (het : Int))])[k]? = some u → (wE.alloc (.cells #[.int .i64 (eg : Int), .int .i64 (het : Int)] 71)).cell? (a.add k) = some u) := fun a e k u hk => by
                        cases e
                        have hlk : k < 2 := by
                          have := (List.getElem?_eq_some_iff.1 hk).1
                          simpa [ev] using this
                        rcases (show k = 0 ∨ k = 1 by omega) with rfl | rfl
                        · simp [ev] at hk
                          subst hk
                          show World.cell? _ ⟨wE.heap.size, 0, none⟩ = _
                          unfold World.cell?
                          rw [hsr]
                          rfl
                        · simp [ev] at hk
                          subst hk
                          show World.cell? _ ⟨wE.heap.size, 1, none⟩ = _
                          unfold World.cell?
                          rw [hsr]
                          rfl
                      have HLL : Hid ((s.wt ++ (C' ++ [((eg : Int), (het : Int))])).length = (s.wt ++ C').length + 1 ∧ ev (s.wt ++ (C' ++ [((eg : Int), (het : Int))])) = ev (s.wt ++ C') ++ ev [((eg : Int), (het : Int))]) := ⟨by simp; omega, by rw [← List.append_assoc]; simp [ev]⟩
                      obtain ⟨nn, hnn⟩ : ∃ nn, (s.wt ++ C').length = nn := ⟨_, rfl⟩
                      rw [hnn] at x3 rx2 hLn
                      clear rx hx hsr hbS heb
                      go_upto_region 22 with (at_builtin; refine wpList_append_src _ rfl _ _ 58 rfl w.heap.size 71 ie (.agg #[.int .i64 0, .int .i64 0]) 2 16 Tryz.underlying58 hie hze0 hze1 hze2 rfl (by decide) (.slice ax nn cx) nn (ev (s.wt ++ C')) rfl rx2 (some ⟨wE.heap.size, 0, none⟩) 1 1 (ev [((eg : Int), (het : Int))]) rfl rfl (fun e => by cases e) HSC.out (ev_one _) (by unfold maxLen; omega) (by omega) (by have := HRX.out.2.2.2; simp; omega) ?_; intro ax' cx' w10 hown10 hgrow10 _; have fr10 : Fr (fun k => some k = (Value.slice ax nn cx).ownBlock) wE w10 := (Fr.of HRX.out.2.2.1).grown hgrow10 (fun k e => Or.inl (by simpa using e.symm)); have hx10 := (fr10.block xb lxE (fun e1 => HKE.out.world HRX.out.2.1 (by decide) xb (by rw [hnn]; exact e1) rfl)).trans HRX.out.1; have u0 : w10.cell? ⟨xb, 3, none⟩ = some (.slice ax (s.wt ++ C').length cx) := (by simp [World.cell?, hx10]); have u1 : w10.frozen? ⟨xb, 3, none⟩ = false := (by simp [World.frozen?, hx10]))
                      have hR1 : Rk w s db mb xb (.slice aT s.T.length cT) (.slice (some ⟨rb, 0, none⟩) 12 12) (.slice a2' s.rg.length c2') most grow D (w10.setCell ⟨xb, 3, none⟩ (.slice ax' (nn + 1) cx')) (some ⟨ib, 0, none⟩) ci L' M' (C' ++ [((eg : Int), (het : Int))]) := by
                        subst hnn
                        have h := HKE.out.push (by have := HXB.out; omega) HRX.out.1 HRX.out.2.1 (e := ((eg : Int), (het : Int))) (ax' := ax') (cx' := cx') fr10 (by rw [HLL.out.1, HLL.out.2]; exact hown10)
                        rw [HLL.out.1] at h
                        exact h
                      have hebA : (w10.setCell ⟨xb, 3, none⟩ (.slice ax' (nn + 1) cx')).heap[eb]? = some (.cells #[.int .i64 (eg : Int), .int .i64 (het : Int)] 71 (0, 0)) := (Below.heap_setCell _ _ _ _ (show eb ≠ xb from fun e => by have h := HAP.out.1; rw [e] at h; exact Nat.lt_irrefl _ h)).trans ((fr10.block eb leE (fun e1 => Nat.lt_irrefl eb (HAP.out.2 ax cx HRX.out.1 eb (by rw [hnn]; exact e1)))).trans HEB.out)
                      clear fr10 hx10 u0 u1 hown10 hgrow10 x3 z0 z1 rx2
                      generalize w10.setCell ⟨xb, 3, none⟩ (.slice ax' (nn + 1) cx') = wA at *
                      have zA1 : wA.cell? ⟨eb, 1, none⟩ = some (.int .i64 (het : Int)) := by simp [World.cell?, hebA]
                      obtain ⟨ig1, igf⟩ := row_cell hR1.ri (bool_at (L := L') (i := het) (by omega))
                      have hR2 := hR1.mark het
                      have HR2 : Hid (Rk w s db mb xb (.slice aT s.T.length cT) (.slice (some ⟨rb, 0, none⟩) 12 12) (.slice a2' s.rg.length c2') most grow D (wA.setCell ⟨ib, het, none⟩ (.bool true)) (some ⟨ib, 0, none⟩) ci (L'.set het true) M' (C' ++ [((eg : Int), (het : Int))])) := hR2
                      clear hR1 hR2 hebA
                      go_upto_region 23 with fail
                      generalize wA.setCell ⟨ib, het, none⟩ (.bool true) = wB at *
                      have PG := HGR.out wB HR2.out
                      go_upto_region 24 with (go_at_call 52; refine PG.mono ?_; clear PG; rintro e w11 ⟨aj, cj, rfl, o1, o2⟩; have HR3 : Hid (Rk w s db mb xb (.slice aT s.T.length cT) (.slice (some ⟨rb, 0, none⟩) 12 12) (.slice a2' s.rg.length c2') most grow D w11 aj cj (kpg g L' (het : Int)) M' (C' ++ [((eg : Int), (het : Int))])) := (HR2.out.is o2 o1))
                      obtain ⟨mg1, mgf⟩ := row_cell HR3.out.rm (bool_at (L := M') (i := i) (by have := HQN.out.1; rw [List.length_set] at this; rw [this]; exact hlt))
                      have HR4 : Hid (Rk w s db mb xb (.slice aT s.T.length cT) (.slice (some ⟨rb, 0, none⟩) 12 12) (.slice a2' s.rg.length c2') most grow D (w11.setCell ⟨mb, i, none⟩ (.bool true)) aj cj (kpg g L' (het : Int)) (M'.set i true) (C' ++ [((eg : Int), (het : Int))])) := HR3.out.mv (fun e => by have h := HXB.out.2.2; rw [e] at h; exact Nat.lt_irrefl _ h) i
                      go_wp2_with fail
                      go_roundw
                      case rel => exact ⟨i + 1, _, _, kpg g L' (het : Int), M'.set i true, C' ++ [((eg : Int), (het : Int))], true, by omega, rfl, rfl, by go_num, HR4, HQN, ⟨HFN.out.1, HFN.out.2.1, fun h => (by cases h), fun _ => HFN.out.2.2⟩⟩
                      case measure => simp [intOf]; omega
                  · rw [hmv] at hmo
                    have HF2 := HF.out.1.skip hlt (by rw [hd, hmv]; rfl)
                    have HFN : Hid (Far isd (kpg g) s.rg D P (i + 1) L' C' M' ∧ C.length ≤ C'.length ∧ (more = false → C'.length = C.length) ∧ (more = true → C.length < C'.length)) := ⟨HF2, HF.out.2⟩
                    obtain ⟨hmo, _⟩ := hmo
                    clear HF HF2 hd hmv
                    as_aux_lemma =>
                    go_wp2_with fail
                    go_roundw
                    case rel => exact ⟨i + 1, _, _, L', M', C', more, by omega, rfl, rfl, by go_num, HKE, ⟨HQ.out.1, HQ.out.2.1, HQ.out.2.2.1, by have := HQ.out.2.2.2; omega⟩, HFN⟩
                    case measure => simp [intOf]; omega
              · obtain rfl : i = s.rg.length := by omega
                have hst := HF.out.1.stop
                rw [← hP.out] at hst
                have hpl := pass_len (is := isd) (kp := kpg g) (rem s.rg D M) L C []
                have HCL : Hid (C'.length + (rem s.rg D M').length ≤ s.rg.length) := by
                  have h1 := hpl.1
                  rw [← hst] at h1
                  simp only [List.length_nil, Nat.add_zero] at h1
                  have h2 := HP.out.2.2.2
                  show _ ≤ _
                  omega
                clear r2
                cases more
                · have hcl := HF.out.2.2.1 rfl
                  have HEND : Hid ((L', C', rem s.rg D M') = s.cR g mj) := by
                    show _ = _
                    rw [← HPS.out.1, HPS.out.2.1, turns_stop (by rw [← hst]; exact hcl)]
                    exact hst
                  clear hst hpl
                  as_aux_lemma =>
                  go_wp2_with fail
                  go_roundg m0
                  case measure => have := HPS.out.2.1; omega
                  case rel => exact ⟨ai, ci, L', M', C', false, rfl, rfl, HK, ⟨HQ.out.1, HQ.out.2.1, HQ.out.2.2.1, HCL.out⟩, ⟨fun h => (by cases h), fun _ => HEND.out⟩⟩
                · have hcl := HF.out.2.2.2 rfl
                  have HEND : Hid (turns isd (kpg g) m0 (rem s.rg D M') L' C' = s.cR g mj ∧ (rem s.rg D M').length + 1 ≤ m0) := by
                    have e1 : (pass isd (kpg g) (rem s.rg D M) L C []).2.1 = C' := by rw [← hst]
                    have e2 : (pass isd (kpg g) (rem s.rg D M) L C []).2.2 = rem s.rg D M' := by rw [← hst]
                    have e3 : (pass isd (kpg g) (rem s.rg D M) L C []).1 = L' := by rw [← hst]
                    rw [e1, e2] at hpl
                    simp only [List.length_nil, Nat.add_zero] at hpl
                    refine ⟨?_, by have := HPS.out.2.2; omega⟩
                    rw [← HPS.out.1, HPS.out.2.1, turns_go (by rw [e1]; omega), e1, e2, e3]
                  clear hst hpl
                  as_aux_lemma =>
                  go_wp2_with fail
                  go_roundg m0
                  case measure => have := HPS.out.2.1; omega
                  case rel => exact ⟨ai, ci, L', M', C', true, rfl, rfl, HK, ⟨HQ.out.1, HQ.out.2.1, HQ.out.2.2.1, HCL.out⟩, ⟨fun _ => HEND.out, fun h => (by cases h)⟩⟩
end

end Go.Proofs.YtogknhogphkddaaGreat
