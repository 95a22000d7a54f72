/- WoodViews: its walk. -/
import Derived.Test.YtglddgjljohkiabWv7
import Derived.Test.YtglddgjljohkiabWv2
import Derived.Test.YtglddgjljohkiabOpenW
import Derived.Test.YtglddgjljohkiabJd
namespace Go.Proofs.Ytglddgjljohkiab.WVs
open Go.RowKit W Kp Stl

theorem Wf.fr {w w' : World} {pw p q pc pq sd nb N O y g : Nat} {ws : List Int} {c : Int} {M rs : List Int} (h : Wf w pw p q pc pq sd nb N O y g ws c M rs) {xb : Nat} {d A F C X : Value} (hx : w.heap[xb]? = some (.cells #[d, A, F, C, X] 52 (0, 0))) (f : Fr (fun k => k = p ∨ k = q ∨ k = pc ∨ k = pq) w w') : w'.heap[xb]? = some (.cells #[d, A, F, C, X] 52 (0, 0)) := by
  refine (f.block xb (lt_of_some hx) ?_).trans hx
  obtain ⟨D, ⟨es, clock, hb, _⟩, _⟩ := h.wod.cd.hq
  have h2 := h.wod.ar.hp
  have h3 := h.wod.ar.hq
  have h4 := h.wod.cd.hp
  rintro (e | e | e | e)
  · rw [e, h2] at hx; simp at hx
  · rw [e, h3] at hx; simp at hx
  · rw [e, h4] at hx; simp at hx
  · rw [e, hb] at hx; simp at hx
theorem sv_fr {w w' : World} {p q pc pq : Nat} (s : Sv p q w w') : Fr (fun k => k = p ∨ k = q ∨ k = pc ∨ k = pq) w w' := ⟨s.os, s.tape, s.output, s.size, fun k hk hn => s.block k hk (fun e => hn (Or.inl e)) (fun e => hn (Or.inr (Or.inl e)))⟩
theorem cellx {w : World} {xb : Nat} {d A F C X : Value} (hx : w.heap[xb]? = some (.cells #[d, A, F, C, X] 52 (0, 0))) : w.cell? ⟨xb, 0, none⟩ = some d ∧ w.cell? ⟨xb, 1, none⟩ = some A ∧ w.cell? ⟨xb, 2, none⟩ = some F ∧ w.cell? ⟨xb, 3, none⟩ = some C ∧ w.cell? ⟨xb, 4, none⟩ = some X := by
  refine ⟨?_, ?_, ?_, ?_, ?_⟩ <;> simp [World.cell?, hx]

set_option maxRecDepth 100000 in
set_option maxHeartbeats 4000000 in
theorem walk (n o : Int) (a : Option Addr) (c : Nat) (l : List S5) (w : World) (hl : L5 w a l) :
    Calls Try.prog 5 #[.int .i64 n, .int .i64 o, .slice a l.length c] w fun e w' => e = .returned (.bool true) ∧ Below w.heap.size w w' := by
  have HL : Hid (L5 w a l) := hl
  clear hl
  by_cases hlen : 200 < l.length
  · go_enter Try.func5, Try.ntmps5
    go_wp2_with fail
    refine (woodBegun_any w).mono ?_
    rintro e w1 ⟨rfl, hb1⟩
    have h2 : (200 : Int) < (l.length : Int) := by omega
    go_wp2_with fail
    go_ret
    exact ⟨rfl, hb1⟩
  · have h2 : ¬ ((200 : Int) < (l.length : Int)) := by omega
    by_cases hno : n < 16 ∨ 256 < n ∨ o < 0 ∨ 1024 < o
    · go_enter Try.func5, Try.ntmps5
      go_wp2_with fail
      refine (woodBegun_any w).mono ?_
      rintro e w1 ⟨rfl, hb1⟩
      go_wp2_with fail
      refine (newW_no n o w1 hno).mono ?_
      rintro e w2 ⟨rfl, hb2⟩
      have hB2 := hb1.trans (hb2.mono hb1.size)
      clear hno
      go_wp2_with fail
      go_ret
      exact ⟨rfl, hB2.alloc hB2.size _⟩
    · have hn0 : 16 ≤ n ∧ n ≤ 256 ∧ 0 ≤ o ∧ o ≤ 1024 := by omega
      obtain ⟨n, rfl⟩ := Int.eq_ofNat_of_zero_le (show 0 ≤ n by omega)
      obtain ⟨o, rfl⟩ := Int.eq_ofNat_of_zero_le (show 0 ≤ o by omega)
      go_enter Try.func5, Try.ntmps5
      go_wp2_with fail
      refine (woodBegun_any w).mono ?_
      rintro e w1 ⟨rfl, hb1⟩
      go_wp2_with fail
      refine (newW_yes n o w1 (by omega) (by omega) (by omega)).mono ?_
      rintro e w2 ⟨pw, p, q, pc, pq, s, nb, rfl, hW, hs, hr, ⟨g1, g2, g3, g4, g5, g6, g7⟩, hb2⟩
      have h3 := wf_new hW hs hr hb2 (by omega)
      have hba := (Below.refl w2.heap.size w2).alloc (Nat.le_refl _) (.cells #[.int .i64 0, .int .i64 0] 44)
      have H3 : Hid (Wf (w2.alloc (.cells #[.int .i64 0, .int .i64 0] 44)) pw p q pc pq s nb n o 0 0 (List.replicate (n + o) 0) (nC o) [] (tw 2 12)) := h3.below hba
      have HB3 : Hid (Below w1.heap.size w1 (w2.alloc (.cells #[.int .i64 0, .int .i64 0] 44))) := hb2.trans (hba.mono hb2.size)
      clear hW hs hr h3 hba hb2 hno
      go_wp2_with fail
      go_loopw [9] (fun iv wr => ∃ (j y g : Nat) (ws M rs Y G : List Int), j ≤ l.length ∧ iv = .int .i64 j ∧ Hid (Wf wr pw p q pc pq s nb n o y g ws (nC o) M rs) ∧ Hid (Full2 n y g ws Y G ∧ M.length ≤ j) ∧ Hid (Below w1.heap.size w1 wr)) (fun iv _ => l.length - (intOf iv).toNat)
      case atStart => exact ⟨0, 0, 0, _, _, _, [], [], Nat.zero_le _, rfl, H3, ⟨Full2.start, Nat.zero_le _⟩, HB3⟩
      case round =>
        clear H3 HB3
        obtain ⟨j, y, g, ws, M, rs, Y, G, hj, rfl, H, HF, HB⟩ := hrel
        by_cases hlt : j < l.length
        · obtain ⟨b0, o0, e0, l0, hc⟩ := HL.out (by omega)
          obtain ⟨⟨x1, x2, x3, x4, x5⟩, i1, i2⟩ := hc j hlt
          subst e0
          clear hc
          have hbw := hb1.trans (HB.out.mono hb1.size)
          have y1 := (hbw.cell (p := ⟨b0, o0 + j * 5, none⟩) l0).trans x1
          have y2 := (hbw.cell (p := ⟨b0, o0 + j * 5 + 1, none⟩) l0).trans x2
          have y3 := (hbw.cell (p := ⟨b0, o0 + j * 5 + 2, none⟩) l0).trans x3
          have y4 := (hbw.cell (p := ⟨b0, o0 + j * 5 + 3, none⟩) l0).trans x4
          have y5 := (hbw.cell (p := ⟨b0, o0 + j * 5 + 4, none⟩) l0).trans x5
          clear x1 x2 x3 x4 x5 hbw l0
          generalize (l.getD j (0, 0, 0, 0, 0)).1 = d at *
          generalize (l.getD j (0, 0, 0, 0, 0)).2.1 = A at *
          generalize (l.getD j (0, 0, 0, 0, 0)).2.2.1 = F at *
          generalize (l.getD j (0, 0, 0, 0, 0)).2.2.2.1 = C at *
          generalize (l.getD j (0, 0, 0, 0, 0)).2.2.2.2 = X at *
          have j0 : (0 : Int) ≤ (j : Int) := by omega
          have j1 : (j : Int) < (l.length : Int) := by omega
          unfold I64 at i1 i2
          have hba := (Below.refl wr.heap.size wr).alloc (Nat.le_refl _) (.cells #[.int .i64 d, .int .i64 A, .int .i64 F, .int .i64 C, .int .i64 X] 52)
          have H4 : Hid (Wf _ pw p q pc pq s nb n o y g ws (nC o) M rs) := H.out.below hba
          have HB4 : Hid (Below w1.heap.size w1 _) := HB.out.trans (hba.mono HB.out.size)
          have hx4 := heap_alloc_new wr (.cells #[.int .i64 d, .int .i64 A, .int .i64 F, .int .i64 C, .int .i64 X] 52)
          have HX4 : Hid (_ = _) := hx4
          clear H HB hba hx4
          go_upto_region 12 with fail
          generalize wr.alloc (.cells #[.int .i64 d, .int .i64 A, .int .i64 F, .int .i64 C, .int .i64 X] 52) = w4 at *
          generalize wr.heap.size = xb at *
          have z0 : w4.cell? ⟨xb, 0, none⟩ = some (.int .i64 d) := by simp [World.cell?, HX4.out]
          have z1 : w4.cell? ⟨xb, 1, none⟩ = some (.int .i64 A) := by simp [World.cell?, HX4.out]
          have z2 : w4.cell? ⟨xb, 2, none⟩ = some (.int .i64 F) := by simp [World.cell?, HX4.out]
          have z3 : w4.cell? ⟨xb, 3, none⟩ = some (.int .i64 C) := by simp [World.cell?, HX4.out]
          clear y1 y2 y3 y4 y5
          go_quiet (fail)
          obtain ⟨ka, hka, lka⟩ := root_num A
          obtain ⟨kc, hkc, lkc⟩ := root_num C
          rw [hka, hkc]
          have hbd := below_drewN (Below.refl w4.heap.size w4) nq
          have H5 : Hid (Wf _ pw p q pc pq s nb n o y g ws (nC o) M rs) := H4.out.below hbd
          have HB5 : Hid (Below w1.heap.size w1 _) := HB4.out.trans (hbd.mono HB4.out.size)
          have HX5 : Hid (_ = _) := (hbd.block xb (lt_of_some HX4.out)).trans HX4.out
          clear z0 z1 z2 z3 H4 HB4 HX4 hka hkc hbd i1 i2
          generalize w4.drewN nq = w5 at *
          obtain ⟨z0, z1, z2, z3, _⟩ := cellx HX5.out
          obtain ⟨c0, c1, c3, lpw, lnb⟩ := H5.out.cells
          have npn := H5.out.apart.2.2.1
          have lxb := lt_of_some HX5.out
          have nxb : xb ≠ nb := fun e => by have := HX5.out; rw [e, H5.out.rts] at this; simp at this
          have ka0 : (0 : Int) ≤ (ka : Int) := by omega
          have ka1 : (ka : Int) < 12 := by omega
          have kc0 : (0 : Int) ≤ (kc : Int) := by omega
          have kc1 : (kc : Int) < 12 := by omega
          have hM := HF.out.2
          by_cases d0 : d = 0
          · subst d0
            have hd := (Below.refl w5.heap.size w5).drew
            have hsz := HB5.out.size
            have P := make_any A F w5.drew (H5.out.below hd).wod.ar
            cases hb : mkB n y A F
            · have e0 : mkR n y A F = -1 := by unfold mkR; rw [hb, if_neg (by simp)]
              rw [e0] at P
              go_upto_region 15 with fail
              go_region_held3 (fun w' => w'.cell? ⟨pw, 0, none⟩ = some (.pointer (some ⟨p, 0, none⟩)) ∧ w'.cell? ⟨xb, 1, none⟩ = some (.int .i64 A) ∧ w'.cell? ⟨xb, 2, none⟩ = some (.int .i64 F)) (first | exact ⟨c0, z1, z2⟩ | exact ⟨u0, u1, u2⟩ | go_keep)
                (first | (go_at_call 19; refine P.mono ?_; rintro e w6 ⟨rfl, ha6, s6⟩; have H6 : Hid (Wf w6 pw p q pc pq s nb n o (mkY n y A F) g (mkW n y A F ws) (nC o) M rs) := (H5.out.below hd).arena ha6 s6; have HX6 : Hid (w6.heap[xb]? = _) := Wf.fr (H5.out.below hd) ((hd.block xb lxb).trans HX5.out) (sv_fr (pc := pc) (pq := pq) s6); have HB6 : Hid (Below w1.heap.size w1 w6) := (HB5.out.trans (hd.mono hsz)).trans (s6.below hsz (by omega) (by omega)); obtain ⟨_, u1, u2, _, _⟩ := cellx HX6.out; have u0 := H6.out.cells.1; clear ha6 s6))
              clear P c0 c1 c3 z0 z1 z2 z3 u0 u1 u2
              obtain ⟨Y', hF'⟩ := HF.out.1.made H5.out.wod.ar.hl A F
              go_wp2_with fail
              go_roundw
              case rel => exact ⟨j + 1, mkY n y A F, g, mkW n y A F ws, M, rs, Y', G, by omega, by go_num, H6, ⟨hF', by omega⟩, HB6⟩
              case measure => simp [intOf]; omega
            · have e0 : mkR n y A F = y := by unfold mkR; rw [hb, if_pos rfl]
              rw [e0] at P
              have y0 : (0 : Int) ≤ (y : Int) := by omega
              go_upto_region 15 with fail
              go_region_held3 (fun w' => w'.cell? ⟨pw, 0, none⟩ = some (.pointer (some ⟨p, 0, none⟩)) ∧ w'.cell? ⟨xb, 1, none⟩ = some (.int .i64 A) ∧ w'.cell? ⟨xb, 2, none⟩ = some (.int .i64 F)) (first | exact ⟨c0, z1, z2⟩ | exact ⟨u0, u1, u2⟩ | go_keep)
                (first | (go_at_call 19; refine P.mono ?_; rintro e w6 ⟨rfl, ha6, s6⟩; have H6 : Hid (Wf w6 pw p q pc pq s nb n o (mkY n y A F) g (mkW n y A F ws) (nC o) M rs) := (H5.out.below hd).arena ha6 s6; have HX6 : Hid (w6.heap[xb]? = _) := Wf.fr (H5.out.below hd) ((hd.block xb lxb).trans HX5.out) (sv_fr (pc := pc) (pq := pq) s6); have HB6 : Hid (Below w1.heap.size w1 w6) := (HB5.out.trans (hd.mono hsz)).trans (s6.below hsz (by omega) (by omega)); obtain ⟨_, u1, u2, _, _⟩ := cellx HX6.out; have u0 := H6.out.cells.1; clear ha6 s6))
              clear P c0 c1 c3 z0 z1 z2 z3 u0 u1 u2
              obtain ⟨Y', hF'⟩ := HF.out.1.made H5.out.wod.ar.hl A F
              obtain ⟨_, _, c3, lpw6, lnb6⟩ := H6.out.cells
              obtain ⟨rc, rf⟩ := H6.out.rcell kc lkc
              have hd6 := (Below.refl w6.heap.size w6).drew
              go_upto_region 17 with fail
              go_region_held3 (fun w' => w'.cell? ⟨pw, 3, none⟩ = some (.slice (some ⟨nb, 0, none⟩) 12 12)) (first | exact c3 | exact u0 | exact (World.cell?_setCell_other _ _ _ _ (by simp; omega)).trans u0 | go_keep)
                (first | (go_at_call 21; refine (ref_any y _).mono ?_; rintro e w7 ⟨rfl, hb7'⟩; have hb7 : Below w6.heap.size w6 w7 := hd6.trans hb7'; have u0 := (hb7.cell (p := ⟨pw, 3, none⟩) lpw6).trans c3; have u1 := (hb7.cell (p := ⟨nb, kc, none⟩) lnb6).trans rc; have u2 := (hb7.frozen (p := ⟨nb, kc, none⟩) lnb6).trans rf))
              have H8 : Hid (Wf (w7.setCell ⟨nb, kc, none⟩ (.int .i64 (ew 3 y))) pw p q pc pq s nb n o (mkY n y A F) g (mkW n y A F ws) (nC o) M (rs.set kc (ew 3 y))) := (H6.out.below hb7).root kc (ew 3 y)
              have hB7 := HB6.out.trans (hb7.mono HB6.out.size)
              have HB8 : Hid (Below w1.heap.size w1 (w7.setCell ⟨nb, kc, none⟩ (.int .i64 (ew 3 y)))) := hB7.trans (((Fr.refl (fun k => k = nb) w7).set nb kc _ rfl).below hB7.size (fun k e => by have e : k = nb := e; omega))
              clear u0 u1 u2 c3 rc rf hb7 hb7' hB7 H6 HB6 HX6
              generalize w7.setCell ⟨nb, kc, none⟩ (.int .i64 (ew 3 y)) = w8 at *
              go_wp2_with fail
              go_roundw
              case rel => exact ⟨j + 1, mkY n y A F, g, mkW n y A F ws, M, _, Y', G, by omega, by go_num, H8, ⟨hF', by omega⟩, HB8⟩
              case measure => simp [intOf]; omega
          · by_cases d2 : d = 2
            · subst d2
              obtain ⟨ra, _⟩ := H5.out.rcell ka lka
              obtain ⟨rb, _⟩ := H5.out.rcell kc lkc
              have hd := (Below.refl w5.heap.size w5).drew
              have hsz := HB5.out.size
              have P := set_any (w := w5.drew) (rs.getD ka 0) F (rs.getD kc 0) (H5.out.below hd).wod (by omega)
              have KF : Hid (_) := HF.out.1.stW H5.out.wod.ar.hl (by omega) H5.out.wod.ar.hy H5.out.wod.ar.hO H5.out.wod.ar.hg (rs.getD ka 0) F (rs.getD kc 0)
              have KM := stM_len (N := n) (y := y) (g := g) (ws := ws) (rs.getD ka 0) F (rs.getD kc 0) (nC o) M
              have HR : Hid (∀ w' ws' M', Wf w' pw p q pc pq s nb n o y g ws' (nC o) M' rs → w'.cell? ⟨nb, ka, none⟩ = some (.int .i64 (rs.getD ka 0)) ∧ w'.cell? ⟨nb, kc, none⟩ = some (.int .i64 (rs.getD kc 0))) := fun w' ws' M' h => ⟨(h.rcell ka lka).1, (h.rcell kc lkc).1⟩
              generalize stM n y g ws (rs.getD ka 0) F (rs.getD kc 0) (nC o) M = M' at *
              generalize stW n y g ws (rs.getD ka 0) F (rs.getD kc 0) = ws' at *
              generalize fcC n y g ws (rs.getD ka 0) F = cd at *
              generalize rs.getD ka 0 = xa at *
              generalize rs.getD kc 0 = xc at *
              go_upto_region 19 with fail
              go_region_held3 (fun w' => w'.cell? ⟨pw, 3, none⟩ = some (.slice (some ⟨nb, 0, none⟩) 12 12) ∧ w'.cell? ⟨nb, ka, none⟩ = some (.int .i64 xa) ∧ w'.cell? ⟨nb, kc, none⟩ = some (.int .i64 xc) ∧ w'.cell? ⟨xb, 2, none⟩ = some (.int .i64 F)) (first | exact ⟨c3, ra, rb, z2⟩ | exact ⟨u0, u1.1, u1.2, u2⟩ | go_keep)
                (first | (go_at_call 27; refine P.mono ?_; rintro e w6 ⟨rfl, hw6, f6⟩; have H6 : Hid (Wf w6 pw p q pc pq s nb n o y g ws' (nC o) M' rs) := (H5.out.below hd).turn hw6 f6; have HX6 : Hid (w6.heap[xb]? = _) := Wf.fr (H5.out.below hd) ((hd.block xb lxb).trans HX5.out) f6; have HB6 : Hid (Below w1.heap.size w1 w6) := (HB5.out.trans (hd.mono hsz)).trans (f6.below hsz (fun k e => by rcases e with e | e | e | e <;> omega)); obtain ⟨_, _, u2, _, _⟩ := cellx HX6.out; have u0 := H6.out.cells.2.2.1; have u1 := HR.out _ _ _ H6.out; clear hw6 f6))
              clear P c0 c1 c3 z0 z1 z2 z3 u0 u1 u2 ra rb
              go_wp2_with fail
              go_roundw
              case rel => exact ⟨j + 1, y, g, ws', M', rs, Y, G, by omega, by go_num, H6, ⟨KF.out, by omega⟩, HB6⟩
              case measure => simp [intOf]; omega
            · by_cases d3 : d = 3
              · subst d3
                obtain ⟨ra, _⟩ := H5.out.rcell ka lka
                have hd := (Below.refl w5.heap.size w5).drew
                have hsz := HB5.out.size
                have P := get_any (rs.getD ka 0) F w5.drew (H5.out.below hd).cells.1 (H5.out.below hd).wod.ar
                have hfin : Hid (Full2 n y g ws Y G ∧ M.length ≤ j + 1) := ⟨HF.out.1, by omega⟩
                have HR : Hid (∀ w', Wf w' pw p q pc pq s nb n o y g ws (nC o) M rs → w'.cell? ⟨nb, ka, none⟩ = some (.int .i64 (rs.getD ka 0))) := fun w' h => (h.rcell ka lka).1
                generalize (if fcC n y g ws (rs.getD ka 0) F = 0 then ld n y g ws (aV (rs.getD ka 0) + 1 + F) else 0) = yv at *
                generalize fcC n y g ws (rs.getD ka 0) F = cd at *
                generalize rs.getD ka 0 = xa at *
                go_upto_region 21 with fail
                go_region_held3 (fun w' => w'.cell? ⟨pw, 3, none⟩ = some (.slice (some ⟨nb, 0, none⟩) 12 12) ∧ w'.cell? ⟨nb, ka, none⟩ = some (.int .i64 xa) ∧ w'.cell? ⟨xb, 2, none⟩ = some (.int .i64 F)) (first | exact ⟨c3, ra, z2⟩ | exact ⟨u0, u1, u2⟩ | go_keep)
                  (first | (go_at_call 26; refine P.mono ?_; rintro e w6 ⟨rfl, hb6'⟩; have hb6 : Below w5.heap.size w5 w6 := hd.trans hb6'; have H6 : Hid (Wf w6 pw p q pc pq s nb n o y g ws (nC o) M rs) := H5.out.below hb6; have HB6 : Hid (Below w1.heap.size w1 w6) := HB5.out.trans (hb6.mono hsz); obtain ⟨_, _, u2, _, _⟩ := cellx ((hb6.block xb lxb).trans HX5.out); have u0 := H6.out.cells.2.2.1; have u1 := HR.out _ H6.out; clear hb6 hb6'))
                clear P c0 c1 c3 z0 z1 z2 z3 u1 u2 ra
                obtain ⟨rc, rf⟩ := H6.out.rcell kc lkc
                have H8 : Hid (Wf (w6.setCell ⟨nb, kc, none⟩ (.int .i64 yv)) pw p q pc pq s nb n o y g ws (nC o) M (rs.set kc yv)) := H6.out.root kc yv
                have HB8 : Hid (Below w1.heap.size w1 (w6.setCell ⟨nb, kc, none⟩ (.int .i64 yv))) := HB6.out.trans (((Fr.refl (fun k => k = nb) w6).set nb kc _ rfl).below HB6.out.size (fun k e => by have e : k = nb := e; omega))
                have lnb6 := H6.out.cells.2.2.2.2
                by_cases hcd : cd = 0
                · subst hcd
                  go_wp2_with fail
                  go_roundw
                  case rel => exact ⟨j + 1, y, g, ws, M, _, Y, G, by omega, by go_num, H8, hfin, HB8⟩
                  case measure => simp [intOf]; omega
                · have hcb : (cd == 0) = false := by simpa using hcd
                  go_wp2_with fail
                  go_roundw
                  case rel => exact ⟨j + 1, y, g, ws, M, rs, Y, G, by omega, by go_num, H6, hfin, HB6⟩
                  case measure => simp [intOf]; omega
              · have e0 : (d == 0) = false := by simpa using d0
                have e2 : (d == 2) = false := by simpa using d2
                have e3 : (d == 3) = false := by simpa using d3
                have hfin : Hid (Full2 n y g ws Y G ∧ M.length ≤ j + 1) := ⟨HF.out.1, by omega⟩
                go_wp2_with fail
                go_roundw
                case rel => exact ⟨j + 1, y, g, ws, M, rs, Y, G, by omega, by go_num, H5, hfin, HB5⟩
                case measure => simp [intOf]; omega
        · obtain rfl : j = l.length := by omega
          iterate 25 go_step
          refine tail_wp H.out HF.out.1 ?_
          intro a' w' ha hd hb
          have hfin : Below w.heap.size w w' := (hb1.trans (HB.out.mono hb1.size)).trans (hb.mono (Nat.le_trans hb1.size HB.out.size))
          simp only [Array.getD_eq_getD_getElem?] at ha
          exact bodyPost_ret (v := .bool true) (by simp [results, Try.results5, ha]) hd ⟨rfl, hfin⟩

end Go.Proofs.Ytglddgjljohkiab.WVs
