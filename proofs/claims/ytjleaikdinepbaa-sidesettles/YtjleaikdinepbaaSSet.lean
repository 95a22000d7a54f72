/- SideSettles: its walk. -/
import Derived.Test.YtjleaikdinepbaaSSt
namespace Go.Proofs.Ytjleaikdinepbaa.SSet
open Go.RowKit W Kp Stl

theorem infoRE : (Try.prog.info? 97).map (fun i => (i.zero, i.size, i.bytes)) = some (some (.agg #[.int .i64 0, .int .i64 0]), 2, 16) := by kernel_rfl

/-- A Side's first list has grown by an append, and the Side is told. -/
theorem app_fst {w1 wr w0 w4 : World} {B p j b4 cap4 k : Nat} {a : Option Addr} {y : Value} {l n : List Value} (h0 : Below wr.heap.size wr w0) (hblk : wr.heap[p]? = some (.cells #[.slice a j k, y] 82 (0, 0))) (hS : wr.ownsRow B 84 2 (.slice a j k) j l) (hb : Below B w1 wr) (hBp : B ≤ p)
    (hB : B ≤ wr.heap.size) (hown4 : w4.ownsRow B 84 2 (.slice (some ⟨b4, 0, none⟩) (j + 1) cap4) (j + 1) (l ++ n)) (hg : w0.grownBy w4 (Value.slice a j k).ownBlock) :
    (w4.setCell ⟨p, 0, none⟩ (.slice (some ⟨b4, 0, none⟩) (j + 1) cap4)).heap[p]? = some (.cells #[.slice (some ⟨b4, 0, none⟩) (j + 1) cap4, y] 82 (0, 0)) ∧
    (w4.setCell ⟨p, 0, none⟩ (.slice (some ⟨b4, 0, none⟩) (j + 1) cap4)).ownsRow B 84 2 (.slice (some ⟨b4, 0, none⟩) (j + 1) cap4) (j + 1) (l ++ n) ∧
    Below B w1 (w4.setCell ⟨p, 0, none⟩ (.slice (some ⟨b4, 0, none⟩) (j + 1) cap4)) ∧
    Fr (fun k' => k' = p ∨ some k' = (Value.slice a j k).ownBlock) wr (w4.setCell ⟨p, 0, none⟩ (.slice (some ⟨b4, 0, none⟩) (j + 1) cap4)) := by
  have hne : some p ≠ (Value.slice a j k).ownBlock := fun e => by
    obtain ⟨cur, hc⟩ := row_type hS p e
    rw [hblk] at hc
    simp at hc
  have lp := lt_of_some hblk
  have hp4 : w4.heap[p]? = some (.cells #[.slice a j k, y] 82 (0, 0)) := (hg.block p (Nat.lt_of_lt_of_le lp h0.size) hne).trans ((h0.block p lp).trans hblk)
  have hnp : ∀ k', some k' = (Value.slice (some ⟨b4, 0, none⟩) (j + 1) cap4).ownBlock → k' ≠ p := fun k' e e' => by
    obtain ⟨cur, hc⟩ := row_type hown4 k' e
    rw [e', hp4] at hc
    simp at hc
  have hf : Fr (fun k' => k' = p ∨ some k' = (Value.slice a j k).ownBlock) wr w4 := (Fr.of h0).grown hg (fun k' e => Or.inl (Or.inr e.symm))
  refine ⟨set_fst hp4, row_keep hown4 (fun k' e => Below.heap_setCell _ _ _ _ (hnp k' e)), ?_, hf.set p 0 _ (Or.inl rfl)⟩
  exact ((hb.trans (h0.mono hB)).grown hg (Nat.le_trans hB h0.size) (fun k' e => (row_lt hS k' e.symm).1)).setCell hBp _
theorem app_snd {w1 wr w0 w4 : World} {B p j b4 cap4 k : Nat} {a : Option Addr} {y : Value} {l n : List Value} (h0 : Below wr.heap.size wr w0) (hblk : wr.heap[p]? = some (.cells #[y, .slice a j k] 82 (0, 0))) (hS : wr.ownsRow B 84 2 (.slice a j k) j l) (hb : Below B w1 wr) (hBp : B ≤ p)
    (hB : B ≤ wr.heap.size) (hown4 : w4.ownsRow B 84 2 (.slice (some ⟨b4, 0, none⟩) (j + 1) cap4) (j + 1) (l ++ n)) (hg : w0.grownBy w4 (Value.slice a j k).ownBlock) :
    (w4.setCell ⟨p, 1, none⟩ (.slice (some ⟨b4, 0, none⟩) (j + 1) cap4)).heap[p]? = some (.cells #[y, .slice (some ⟨b4, 0, none⟩) (j + 1) cap4] 82 (0, 0)) ∧
    (w4.setCell ⟨p, 1, none⟩ (.slice (some ⟨b4, 0, none⟩) (j + 1) cap4)).ownsRow B 84 2 (.slice (some ⟨b4, 0, none⟩) (j + 1) cap4) (j + 1) (l ++ n) ∧
    Below B w1 (w4.setCell ⟨p, 1, none⟩ (.slice (some ⟨b4, 0, none⟩) (j + 1) cap4)) ∧
    Fr (fun k' => k' = p ∨ some k' = (Value.slice a j k).ownBlock) wr (w4.setCell ⟨p, 1, none⟩ (.slice (some ⟨b4, 0, none⟩) (j + 1) cap4)) := by
  have hne : some p ≠ (Value.slice a j k).ownBlock := fun e => by
    obtain ⟨cur, hc⟩ := row_type hS p e
    rw [hblk] at hc
    simp at hc
  have lp := lt_of_some hblk
  have hp4 : w4.heap[p]? = some (.cells #[y, .slice a j k] 82 (0, 0)) := (hg.block p (Nat.lt_of_lt_of_le lp h0.size) hne).trans ((h0.block p lp).trans hblk)
  have hnp : ∀ k', some k' = (Value.slice (some ⟨b4, 0, none⟩) (j + 1) cap4).ownBlock → k' ≠ p := fun k' e e' => by
    obtain ⟨cur, hc⟩ := row_type hown4 k' e
    rw [e', hp4] at hc
    simp at hc
  have hf : Fr (fun k' => k' = p ∨ some k' = (Value.slice a j k).ownBlock) wr w4 := (Fr.of h0).grown hg (fun k' e => Or.inl (Or.inr e.symm))
  refine ⟨set_snd hp4, row_keep hown4 (fun k' e => Below.heap_setCell _ _ _ _ (hnp k' e)), ?_, hf.set p 1 _ (Or.inl rfl)⟩
  exact ((hb.trans (h0.mono hB)).grown hg (Nat.le_trans hB h0.size) (fun k' e => (row_lt hS k' e.symm).1)).setCell hBp _
/-- A row of another kind stays. -/
theorem row_other {wr w5 : World} {B p j k b n m : Nat} {a : Option Addr} {e : TypeId} {v y y' : Value} {l l' : List Value} (hf : Fr (fun k' => k' = p ∨ some k' = (Value.slice a j k).ownBlock) wr w5) (hblk : wr.heap[p]? = some (.cells #[y, y'] 82 (0, 0))) (hS : wr.ownsRow B 84 2 (.slice a j k) j l) (hr : wr.ownsRow b e m v n l') (h1 : e ≠ 82) (h2 : e ≠ 84) : w5.ownsRow b e m v n l' :=
  row_fr hr hf (fun k' hk' c => by
    obtain ⟨cur, hc⟩ := row_type hr k' hk'
    rcases c with c | c
    · rw [c, hblk] at hc
      simp at hc
      exact h1 hc.2.symm
    · obtain ⟨cur', hc'⟩ := row_type hS k' c
      rw [hc] at hc'
      simp at hc'
      exact h2 hc'.2)
theorem app_own {w1 wr w0 w6 : World} {B n m : Nat} {e : TypeId} {v : Value} {l : List Value} (h0 : Below wr.heap.size wr w0) (hR : wr.ownsRow B e m v n l) (hb : Below B w1 wr) (hB : B ≤ wr.heap.size) (hg : w0.grownBy w6 v.ownBlock) : Below B w1 w6 ∧ Fr (fun k => some k = v.ownBlock) wr w6 :=
  ⟨(hb.trans (h0.mono hB)).grown hg (Nat.le_trans hB h0.size) (fun k' e => (row_lt hR k' e.symm).1), (Fr.of h0).grown hg (fun _ e => Or.inl e.symm)⟩
theorem ev_take_snoc (l : List En) (j : Nat) (h : j < l.length) : ev (l.take (j + 1)) = ev (l.take j) ++ [.int .i64 (l.getD j (0, 0)).1, .int .i64 (l.getD j (0, 0)).2] := by
  rw [take_snoc l j h (0, 0), ev_append]
  simp [ev]

set_option maxRecDepth 100000 in
set_option maxHeartbeats 4000000 in
theorem walk (a0 a1 a2 a3 : Option Addr) (c0 c1 c2 c3 : Nat) (r q : List En) (A : List Int) (L : List En) (w : World) (h0 : Li w a0 r c0) (h1 : Li w a1 q c1) (h2 : Lw w a2 A c2) (h3 : Li w a3 L c3) :
    Calls Try.prog 13 #[.slice a0 r.length c0, .slice a1 q.length c1, .slice a2 A.length c2, .slice a3 L.length c3] w fun e w' => e = .returned (.bool true) ∧ Below w.heap.size w w' := by
  obtain ⟨i0, hi, hz0, hz1, hz2⟩ := info_parts infoEn
  obtain ⟨ie, hie, hze0, hze1, hze2⟩ := info_parts infoRE
  have H0 : Hid (Li w a0 r c0) := h0
  have H1 : Hid (Li w a1 q c1) := h1
  have H2 : Hid (Lw w a2 A c2) := h2
  have H3 : Hid (Li w a3 L c3) := h3
  clear h0 h1 h2 h3
  go_enter Try.func13, Try.ntmps13
  go_wp2_with fail
  refine (sideBegun_any w).mono ?_
  rintro e w1 ⟨rfl, hb1⟩
  go_wp2_with fail
  refine (great_any a0 a1 a2 a3 r.length q.length A.length L.length c0 c1 c2 c3 w1).mono ?_
  rintro e w1' ⟨rfl, hw⟩
  have hw := hw.symm
  subst hw
  by_cases hg : r.length ≤ 60 ∧ q.length ≤ 60 ∧ A.length ≤ 100 ∧ L.length ≤ 100
  · obtain ⟨g0, g1, g2, g3⟩ := hg
    rw [show (decide ((60 : Int) < r.length) || decide ((60 : Int) < q.length) || decide ((100 : Int) < A.length) || decide ((100 : Int) < L.length)) = false by rw [decide_eq_false (by omega), decide_eq_false (by omega), decide_eq_false (by omega), decide_eq_false (by omega)]; rfl]
    go_wp2_with fail
    refine (small_any a0 a1 a2 a3 r q A.length L.length c0 c1 c2 c3 w1 g0 g1 (H0.out.lp.below hb1) (H1.out.lp.below hb1)).mono ?_
    rintro e w1' ⟨rfl, hw⟩
    have hw := hw.symm
    subst hw
    cases hs : smB r q
    · go_wp2_with fail
      go_ret
      exact ⟨rfl, hb1⟩
    · obtain ⟨s0, s1⟩ := smB_yes hs
      have S0 : Hid (Smw r) := s0
      have S1 : Hid (Smw q) := s1
      clear hs s0 s1
      go_wp2_with fail
      go_loopw [10, 12] (fun vr iv wr => ∃ (j cr k : Nat) (ar a : Option Addr), j ≤ r.length ∧ iv = .int .i64 j ∧ vr = .slice ar j cr ∧ wr.ownsRow w1.heap.size 97 2 (.slice ar j cr) j (ev (r.take j)) ∧ wr.heap[w1.heap.size]? = some (.cells #[.slice a j k, .slice none 0 0] 82 (0, 0)) ∧ wr.ownsRow w1.heap.size 84 2 (.slice a j k) j (ev (r.take j)) ∧ Below w1.heap.size w1 wr) (fun _ iv _ => r.length - (intOf iv).toNat)
      case atStart => exact ⟨0, 0, 0, none, none, Nat.zero_le _, rfl, rfl, World.ownsRow_nil _ _ _ _, heap_alloc_new _ _, World.ownsRow_nil _ _ _ _, (Below.refl _ _).alloc (Nat.le_refl _) _⟩
      case round =>
        obtain ⟨j, cr, k, ar, a, hj, rfl, rfl, hR, hblk, hS, hb⟩ := hrel
        have hsz := hb.size
        by_cases hlt : j < r.length
        · obtain ⟨b0, o0, e0, hb0, hc⟩ := H0.out.lp.below hb1 (by omega)
          obtain ⟨y1, y2⟩ := hc j hlt
          have x1 := (hb.cell (p := ⟨b0, o0 + j * 2, none⟩) hb0).trans y1
          have x2 := (hb.cell (p := ⟨b0, o0 + j * 2 + 1, none⟩) hb0).trans y2
          have HE := ev_take_snoc r j hlt
          generalize (r.getD j (0, 0)).1 = g at x1 y1 HE
          generalize (r.getD j (0, 0)).2 = z at x2 y2 HE
          have HE : Hid (ev (r.take (j + 1)) = ev (r.take j) ++ [.int .i64 g, .int .i64 z]) := HE
          have Y1 : Hid (w1.cell? ⟨b0, o0 + j * 2, none⟩ = some (.int .i64 g)) := y1
          have Y2 : Hid (w1.cell? ⟨b0, o0 + j * 2 + 1, none⟩ = some (.int .i64 z)) := y2
          clear hc y1 y2
          subst e0
          have d0 : wr.cell? ⟨w1.heap.size, 0, none⟩ = some (.slice a j k) := by simp [World.cell?, hblk]
          have f0 : wr.frozen? ⟨w1.heap.size, 0, none⟩ = false := by simp [World.frozen?, hblk]
          have lp := lt_of_some hblk
          have hnp : some w1.heap.size ≠ (Value.slice a j k).ownBlock := fun e => by
            obtain ⟨cur, hc⟩ := row_type hS _ e
            rw [hblk] at hc
            simp at hc
          have j0 : (0 : Int) ≤ (j : Int) := by omega
          have j1 : (j : Int) < (r.length : Int) := by omega
          have hbd := ((Below.refl wr.heap.size wr).alloc (Nat.le_refl _) (.cells #[.int .i64 g, .int .i64 z] 84)).drew
          have HSd : Hid ((wr.alloc (.cells #[.int .i64 g, .int .i64 z] 84)).drew.ownsRow w1.heap.size 84 2 (.slice a j k) j (ev (r.take j))) := row_keep (row_alloc hS (.cells #[.int .i64 g, .int .i64 z] 84)) (fun _ _ => rfl)
          have HS0 : Hid (wr.ownsRow w1.heap.size 84 2 (.slice a j k) j (ev (r.take j))) := hS
          have HR0 : Hid (wr.ownsRow w1.heap.size 97 2 (.slice ar j cr) j (ev (r.take j))) := hR
          have HB0 : Hid (wr.heap[w1.heap.size]? = some (.cells #[.slice a j k, .slice none 0 0] 82 (0, 0))) := hblk
          clear hS hR hblk
          go_wp2_with fail
          go_region_law (refine step_append_lies _ rfl (.tmp 50) (.tmp 55) 80 rfl w1.heap.size 84 i0 (.agg #[.int .i64 0, .int .i64 0]) 2 16 Try.underlying80 hi hz0 hz1 hz2 rfl (by decide) (.slice a j k) j (ev (r.take j)) (by simp [Act.eval]) HSd.out ⟨wr.heap.size, 0, none⟩ 1 1 [.int .i64 g, .int .i64 z] (by simp [Act.eval]) rfl ?_ ?_ (by decide) (by unfold maxLen; omega) (by omega) (by simp; omega) _ rfl ?_; (intro j u hj; match j, hj with | 0, hj => (simp at hj; subst hj; simp [Addr.add]) | 1, hj => (simp at hj; subst hj; simp [Addr.add])); (intro u hu; simp at hu; rcases hu with hu | hu <;> (subst hu; rfl)); intro b4 cap4 w4 hown4 hgrow4 hat4 hlt4; have d4 := hgrow4.cell (a := ⟨w1.heap.size, 0, none⟩) (v := .slice a j k) ((hbd.cell (p := ⟨w1.heap.size, 0, none⟩) lp).trans d0) hnp; have f4 : w4.frozen? ⟨w1.heap.size, 0, none⟩ = false := (World.frozen?_of_block (a := ⟨w1.heap.size, 0, none⟩) (hgrow4.block _ (Nat.lt_of_lt_of_le lp hbd.size) hnp)).trans ((hbd.frozen (p := ⟨w1.heap.size, 0, none⟩) lp).trans f0))
          all_goals
            obtain ⟨t1, t2, t3, t4⟩ := app_fst hbd HB0.out HS0.out hb (Nat.le_refl _) hsz hown4 hgrow4
            have t5 := row_other t4 HB0.out HS0.out HR0.out (by decide) (by decide)
            rw [← HE.out] at t2
            clear hown4 hgrow4 hat4 hlt4 d4 f4 t4 x1 x2 d0 f0 HSd HS0 HR0 HB0 hbd hb
            generalize w4.setCell ⟨w1.heap.size, 0, none⟩ (.slice (some ⟨b4, 0, none⟩) (j + 1) cap4) = w5 at *
            have x1 := (t3.cell (p := ⟨b0, o0 + j * 2, none⟩) hb0).trans Y1.out
            have x2 := (t3.cell (p := ⟨b0, o0 + j * 2 + 1, none⟩) hb0).trans Y2.out
            have lz := t3.size
            have hbd := ((Below.refl w5.heap.size w5).alloc (Nat.le_refl _) (.cells #[.int .i64 g, .int .i64 z] 97)).drew
            have HRd : Hid ((w5.alloc (.cells #[.int .i64 g, .int .i64 z] 97)).drew.ownsRow w1.heap.size 97 2 (.slice ar j cr) j (ev (r.take j))) := row_keep (row_alloc t5 (.cells #[.int .i64 g, .int .i64 z] 97)) (fun _ _ => rfl)
            have HR5 : Hid (w5.ownsRow w1.heap.size 97 2 (.slice ar j cr) j (ev (r.take j))) := t5
            clear t5
            go_wp2_with fail
            go_region_held3 (fun w' => w'.cell? ⟨b0, o0 + j * 2, none⟩ = some (.int .i64 g) ∧ w'.cell? ⟨b0, o0 + j * 2 + 1, none⟩ = some (.int .i64 z)) (go_keep) (first | (refine step_append_lies _ rfl (.tmp 59) (.tmp 71) 96 rfl w1.heap.size 97 ie (.agg #[.int .i64 0, .int .i64 0]) 2 16 Try.underlying96 hie hze0 hze1 hze2 rfl (by decide) (.slice ar j cr) j (ev (r.take j)) (by simp [Act.eval]) HRd.out ⟨w5.heap.size, 0, none⟩ 1 1 [.int .i64 g, .int .i64 z] (by simp [Act.eval]) rfl ?_ ?_ (by decide) (by unfold maxLen; omega) (by omega) (by simp; omega) _ rfl ?_; (intro j u hj; match j, hj with | 0, hj => (simp at hj; subst hj; simp [Addr.add]) | 1, hj => (simp at hj; subst hj; simp [Addr.add])); (intro u hu; simp at hu; rcases hu with hu | hu <;> (subst hu; rfl)); intro b6 cap6 w6 hown6 hgrow6 hat6 hlt6; have z1 := hgrow6.cell (a := ⟨b0, o0 + j * 2, none⟩) (v := .int .i64 g) ((hbd.cell (p := ⟨b0, o0 + j * 2, none⟩) (Nat.lt_of_lt_of_le hb0 lz)).trans x1) (fun e => by have := (row_lt HR5.out _ e).1; have h9 := hb0; exact absurd this (Nat.not_le.2 h9)); have z2 := hgrow6.cell (a := ⟨b0, o0 + j * 2 + 1, none⟩) (v := .int .i64 z) ((hbd.cell (p := ⟨b0, o0 + j * 2 + 1, none⟩) (Nat.lt_of_lt_of_le hb0 lz)).trans x2) (fun e => by have := (row_lt HR5.out _ e).1; have h9 := hb0; exact absurd this (Nat.not_le.2 h9))))
            obtain ⟨u1, u2⟩ := app_own hbd HR5.out t3 lz hgrow6
            have u3 := row_fr t2 u2 (row_ty t2 HR5.out (by decide))
            have u4 := (u2.block _ (lt_of_some t1) (blk_ty t1 HR5.out (by decide))).trans t1
            rw [← HE.out] at hown6
            clear hgrow6 hat6 hlt6 z1 z2 x1 x2 u2 t1 t2 t3 HR5 HRd hbd lz
            go_wp2_with fail
            go_roundw
            case rel => exact ⟨j + 1, cap6, cap4, some ⟨b6, 0, none⟩, some ⟨b4, 0, none⟩, by omega, by go_num, rfl, hown6, u4, u3, u1⟩
            case measure => simp [intOf]; omega
        · obtain rfl : j = r.length := by omega
          rw [List.take_length] at hR hS
          have HR1 : Hid (wr.ownsRow w1.heap.size 97 2 (.slice ar r.length cr) r.length (ev r)) := hR
          clear hR
          have HS1 : Hid (wr.ownsRow w1.heap.size 84 2 (.slice a r.length k) r.length (ev r)) := hS
          clear hS
          go_wp2_with fail
          go_loopw [11, 13] (fun vq iv wr => ∃ (j cq kq : Nat) (aq ap : Option Addr), j ≤ q.length ∧ iv = .int .i64 j ∧ vq = .slice aq j cq ∧ wr.ownsRow w1.heap.size 97 2 (.slice aq j cq) j (ev (q.take j)) ∧ wr.heap[w1.heap.size]? = some (.cells #[.slice a r.length k, .slice ap j kq] 82 (0, 0)) ∧ wr.ownsRow w1.heap.size 84 2 (.slice ap j kq) j (ev (q.take j)) ∧ Below w1.heap.size w1 wr ∧
              Hid (wr.ownsRow w1.heap.size 97 2 (.slice ar r.length cr) r.length (ev r)) ∧ Hid (wr.ownsRow w1.heap.size 84 2 (.slice a r.length k) r.length (ev r)) ∧ Hid (∀ x, some x = (Value.slice aq j cq).ownBlock → some x ≠ (Value.slice ar r.length cr).ownBlock) ∧ Hid (∀ x, some x = (Value.slice ap j kq).ownBlock → some x ≠ (Value.slice a r.length k).ownBlock)) (fun _ iv _ => q.length - (intOf iv).toNat)
          case atStart => exact ⟨0, 0, 0, none, none, Nat.zero_le _, rfl, rfl, World.ownsRow_nil _ _ _ _, hblk, World.ownsRow_nil _ _ _ _, hb, HR1, HS1, fun x e => by simp [Value.ownBlock] at e, fun x e => by simp [Value.ownBlock] at e⟩
          case round =>
            clear hblk hb HR1 HS1 hsz
            obtain ⟨j, cq, kq, aq, ap, hj, rfl, rfl, hR, hblk, hS, hb, HR1, HS1, DR, DS⟩ := hrel
            have hsz := hb.size
            by_cases hlt : j < q.length
            · obtain ⟨b0, o0, e0, hb0, hc⟩ := H1.out.lp.below hb1 (by omega)
              obtain ⟨y1, y2⟩ := hc j hlt
              have x1 := (hb.cell (p := ⟨b0, o0 + j * 2, none⟩) hb0).trans y1
              have x2 := (hb.cell (p := ⟨b0, o0 + j * 2 + 1, none⟩) hb0).trans y2
              have HE := ev_take_snoc q j hlt
              generalize (q.getD j (0, 0)).1 = g at x1 y1 HE
              generalize (q.getD j (0, 0)).2 = z at x2 y2 HE
              have HE : Hid (ev (q.take (j + 1)) = ev (q.take j) ++ [.int .i64 g, .int .i64 z]) := HE
              have Y1 : Hid (w1.cell? ⟨b0, o0 + j * 2, none⟩ = some (.int .i64 g)) := y1
              have Y2 : Hid (w1.cell? ⟨b0, o0 + j * 2 + 1, none⟩ = some (.int .i64 z)) := y2
              clear hc y1 y2
              subst e0
              have d0 : wr.cell? ⟨w1.heap.size, 1, none⟩ = some (.slice ap j kq) := by simp [World.cell?, hblk]
              have f0 : wr.frozen? ⟨w1.heap.size, 1, none⟩ = false := by simp [World.frozen?, hblk]
              have lp := lt_of_some hblk
              have hnp : some w1.heap.size ≠ (Value.slice ap j kq).ownBlock := blk_ty hblk hS (by decide)
              have j0 : (0 : Int) ≤ (j : Int) := by omega
              have j1 : (j : Int) < (q.length : Int) := by omega
              have hbd := ((Below.refl wr.heap.size wr).alloc (Nat.le_refl _) (.cells #[.int .i64 g, .int .i64 z] 84)).drew
              have HSd : Hid ((wr.alloc (.cells #[.int .i64 g, .int .i64 z] 84)).drew.ownsRow w1.heap.size 84 2 (.slice ap j kq) j (ev (q.take j))) := row_keep (row_alloc hS (.cells #[.int .i64 g, .int .i64 z] 84)) (fun _ _ => rfl)
              have HS0 : Hid (wr.ownsRow w1.heap.size 84 2 (.slice ap j kq) j (ev (q.take j))) := hS
              have HR0 : Hid (wr.ownsRow w1.heap.size 97 2 (.slice aq j cq) j (ev (q.take j))) := hR
              have HB0 : Hid (wr.heap[w1.heap.size]? = some (.cells #[.slice a r.length k, .slice ap j kq] 82 (0, 0))) := hblk
              clear hS hR hblk
              go_wp2_with fail
              go_region_law (refine step_append_lies _ rfl (.tmp 83) (.tmp 88) 80 rfl w1.heap.size 84 i0 (.agg #[.int .i64 0, .int .i64 0]) 2 16 Try.underlying80 hi hz0 hz1 hz2 rfl (by decide) (.slice ap j kq) j (ev (q.take j)) (by simp [Act.eval]) HSd.out ⟨wr.heap.size, 0, none⟩ 1 1 [.int .i64 g, .int .i64 z] (by simp [Act.eval]) rfl ?_ ?_ (by decide) (by unfold maxLen; omega) (by omega) (by simp; omega) _ rfl ?_; (intro j u hj; match j, hj with | 0, hj => (simp at hj; subst hj; simp [Addr.add]) | 1, hj => (simp at hj; subst hj; simp [Addr.add])); (intro u hu; simp at hu; rcases hu with hu | hu <;> (subst hu; rfl)); intro b4 cap4 w4 hown4 hgrow4 hat4 hlt4; have d4 := hgrow4.cell (a := ⟨w1.heap.size, 1, none⟩) (v := .slice ap j kq) ((hbd.cell (p := ⟨w1.heap.size, 1, none⟩) lp).trans d0) hnp; have f4 : w4.frozen? ⟨w1.heap.size, 1, none⟩ = false := (World.frozen?_of_block (a := ⟨w1.heap.size, 1, none⟩) (hgrow4.block _ (Nat.lt_of_lt_of_le lp hbd.size) hnp)).trans ((hbd.frozen (p := ⟨w1.heap.size, 1, none⟩) lp).trans f0))
              all_goals
                obtain ⟨t1, t2, t3, t4⟩ := app_snd hbd HB0.out HS0.out hb (Nat.le_refl _) hsz hown4 hgrow4
                have t5 := row_other t4 HB0.out HS0.out HR0.out (by decide) (by decide)
                have T6 : Hid ((w4.setCell ⟨w1.heap.size, 1, none⟩ (.slice (some ⟨b4, 0, none⟩) (j + 1) cap4)).ownsRow w1.heap.size 97 2 (.slice ar r.length cr) r.length (ev r)) := row_other t4 HB0.out HS0.out HR1.out (by decide) (by decide)
                have T7 : Hid ((w4.setCell ⟨w1.heap.size, 1, none⟩ (.slice (some ⟨b4, 0, none⟩) (j + 1) cap4)).ownsRow w1.heap.size 84 2 (.slice a r.length k) r.length (ev r)) := row_fr HS1.out t4 (fun x e c => c.elim (fun c => blk_ty HB0.out HS1.out (by decide) (by rw [← c]; exact e)) (fun c => DS.out x c e))
                have DS' : Hid (∀ x, some x = (Value.slice (some ⟨b4, 0, none⟩) (j + 1) cap4).ownBlock → some x ≠ (Value.slice a r.length k).ownBlock) := fun x e e' => hat4.elim (fun c => DS.out x (by rw [c]; exact e) e') (fun c => by have h1 := (row_lt HS1.out x e').2; simp [Value.ownBlock] at e; simp at c; omega)
                rw [← HE.out] at t2
                clear hown4 hgrow4 hat4 hlt4 d4 f4 t4 x1 x2 d0 f0 HSd HS0 HR0 HB0 hbd hb HR1 HS1 DS
                generalize w4.setCell ⟨w1.heap.size, 1, none⟩ (.slice (some ⟨b4, 0, none⟩) (j + 1) cap4) = w5 at *
                have x1 := (t3.cell (p := ⟨b0, o0 + j * 2, none⟩) hb0).trans Y1.out
                have x2 := (t3.cell (p := ⟨b0, o0 + j * 2 + 1, none⟩) hb0).trans Y2.out
                have lz := t3.size
                have hbd := ((Below.refl w5.heap.size w5).alloc (Nat.le_refl _) (.cells #[.int .i64 g, .int .i64 z] 97)).drew
                have HRd : Hid ((w5.alloc (.cells #[.int .i64 g, .int .i64 z] 97)).drew.ownsRow w1.heap.size 97 2 (.slice aq j cq) j (ev (q.take j))) := row_keep (row_alloc t5 (.cells #[.int .i64 g, .int .i64 z] 97)) (fun _ _ => rfl)
                have HR5 : Hid (w5.ownsRow w1.heap.size 97 2 (.slice aq j cq) j (ev (q.take j))) := t5
                clear t5
                go_wp2_with fail
                go_region_held3 (fun w' => w'.cell? ⟨b0, o0 + j * 2, none⟩ = some (.int .i64 g) ∧ w'.cell? ⟨b0, o0 + j * 2 + 1, none⟩ = some (.int .i64 z)) (go_keep) (first | (refine step_append_lies _ rfl (.tmp 92) (.tmp 104) 96 rfl w1.heap.size 97 ie (.agg #[.int .i64 0, .int .i64 0]) 2 16 Try.underlying96 hie hze0 hze1 hze2 rfl (by decide) (.slice aq j cq) j (ev (q.take j)) (by simp [Act.eval]) HRd.out ⟨w5.heap.size, 0, none⟩ 1 1 [.int .i64 g, .int .i64 z] (by simp [Act.eval]) rfl ?_ ?_ (by decide) (by unfold maxLen; omega) (by omega) (by simp; omega) _ rfl ?_; (intro j u hj; match j, hj with | 0, hj => (simp at hj; subst hj; simp [Addr.add]) | 1, hj => (simp at hj; subst hj; simp [Addr.add])); (intro u hu; simp at hu; rcases hu with hu | hu <;> (subst hu; rfl)); intro b6 cap6 w6 hown6 hgrow6 hat6 hlt6; have z1 := hgrow6.cell (a := ⟨b0, o0 + j * 2, none⟩) (v := .int .i64 g) ((hbd.cell (p := ⟨b0, o0 + j * 2, none⟩) (Nat.lt_of_lt_of_le hb0 lz)).trans x1) (fun e => by have := (row_lt HR5.out _ e).1; have h9 := hb0; exact absurd this (Nat.not_le.2 h9)); have z2 := hgrow6.cell (a := ⟨b0, o0 + j * 2 + 1, none⟩) (v := .int .i64 z) ((hbd.cell (p := ⟨b0, o0 + j * 2 + 1, none⟩) (Nat.lt_of_lt_of_le hb0 lz)).trans x2) (fun e => by have := (row_lt HR5.out _ e).1; have h9 := hb0; exact absurd this (Nat.not_le.2 h9))))
                obtain ⟨u1, u2⟩ := app_own hbd HR5.out t3 lz hgrow6
                have u3 := row_fr t2 u2 (row_ty t2 HR5.out (by decide))
                have u4 := (u2.block _ (lt_of_some t1) (blk_ty t1 HR5.out (by decide))).trans t1
                have U7 : Hid (w6.ownsRow w1.heap.size 84 2 (.slice a r.length k) r.length (ev r)) := row_fr T7.out u2 (row_ty T7.out HR5.out (by decide))
                have U6 : Hid (w6.ownsRow w1.heap.size 97 2 (.slice ar r.length cr) r.length (ev r)) := row_fr T6.out u2 (fun x e c => DR.out x c e)
                have DR' : Hid (∀ x, some x = (Value.slice (some ⟨b6, 0, none⟩) (j + 1) cap6).ownBlock → some x ≠ (Value.slice ar r.length cr).ownBlock) := fun x e e' => hat6.elim (fun c => DR.out x (by rw [c]; exact e) e') (fun c => by have h1 := (row_lt T6.out x e').2; simp [Value.ownBlock] at e; simp at c; omega)
                rw [← HE.out] at hown6
                clear hgrow6 hat6 hlt6 z1 z2 x1 x2 u2 t1 t2 t3 HR5 HRd hbd lz T6 T7 DR
                go_wp2_with fail
                go_roundw
                case rel => exact ⟨j + 1, cap6, cap4, some ⟨b6, 0, none⟩, some ⟨b4, 0, none⟩, by omega, by go_num, rfl, hown6, u4, u3, u1, U6, U7, DR', DS'⟩
                case measure => simp [intOf]; omega
            · obtain rfl : j = q.length := by omega
              rw [List.take_length] at hR hS
              have HR2 : Hid (wr.ownsRow w1.heap.size 97 2 (.slice aq q.length cq) q.length (ev q)) := hR
              have HS2 : Hid (wr.ownsRow w1.heap.size 84 2 (.slice ap q.length kq) q.length (ev q)) := hS
              clear hR hS
              go_upto_region 18 with fail
              have HN : Bun w1.heap.size wr w1.heap.size a ap ar aq k kq cr cq r q := ⟨hblk, HR1.out, HR2.out, HS1.out, HS2.out⟩
              have hba : Below wr.heap.size wr ((wr.alloc (.cells #[.slice none 0 0, .slice none 0 0] 100)).alloc (.cells #[.pointer (some ⟨wr.heap.size, 0, none⟩)] 98)) := ((Below.refl _ wr).alloc (Nat.le_refl _) _).alloc (by simp) _
              refine tail_wp hb1 (hb.trans (hba.mono hsz)) (HN.keep (fun x _ _ hx _ _ => hba.block x hx)) DS.out (c := wr.heap.size) (bw := wr.heap.size + 1) ?_ ?_ (Nat.le_refl _) hsz (by omega) ⟨H2.out.ls.below hb1, H2.out.le, H2.out.nil⟩ (H3.out.below hb1) S0.out S1.out g0 g1 g2 g3 _ (by assumption)
              · exact (Below.heap_alloc _ _ _ (by simp)).trans (heap_alloc_new _ _)
              · simpa using heap_alloc_new (wr.alloc (.cells #[.slice none 0 0, .slice none 0 0] 100)) (.cells #[.pointer (some ⟨wr.heap.size, 0, none⟩)] 98)
  · rw [show (decide ((60 : Int) < r.length) || decide ((60 : Int) < q.length) || decide ((100 : Int) < A.length) || decide ((100 : Int) < L.length)) = true by
      by_cases e0 : r.length ≤ 60
      · by_cases e1 : q.length ≤ 60
        · by_cases e2 : A.length ≤ 100
          · rw [decide_eq_true (p := (100 : Int) < L.length) (by omega), Bool.or_true]
          · rw [decide_eq_true (p := (100 : Int) < A.length) (by omega), Bool.or_true, Bool.true_or]
        · rw [decide_eq_true (p := (60 : Int) < q.length) (by omega), Bool.or_true, Bool.true_or, Bool.true_or]
      · rw [decide_eq_true (p := (60 : Int) < r.length) (by omega), Bool.true_or, Bool.true_or, Bool.true_or]]
    go_wp2_with fail
    go_ret
    exact ⟨rfl, hb1⟩

end Go.Proofs.Ytjleaikdinepbaa.SSet
