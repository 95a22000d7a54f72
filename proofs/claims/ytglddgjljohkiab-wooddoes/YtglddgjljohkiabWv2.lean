/- woodBegun: a contract. -/
import Derived.Test.YtglddgjljohkiabWv1
namespace Go.Proofs.Ytglddgjljohkiab
open Go.RowKit W Kp Stl

theorem wf_new {w w' : World} {pw p q pc pq s nb n o : Nat} (hW : Wod w' pw p q pc pq n o 0 0 (List.replicate (n + o) 0) (nC o) [] (.pointer (some ⟨s, 0, none⟩)) (.slice (some ⟨nb, 0, none⟩) 12 12)) (hs : w'.heap[s]? = some (.cells #[.slice none 0 0, .slice none 0 0] 29 (0, 0))) (hr : w'.heap[nb]? = some (.cells ((tw 2 12).map (Value.int .i64)).toArray 2 (0, 0))) (_ : Below w.heap.size w w') (h0 : 16 ≤ n) :
    Wf w' pw p q pc pq s nb n o 0 0 (List.replicate (n + o) 0) (nC o) [] (tw 2 12) := by
  refine ⟨hW, hs, hr, by decide, fun e => ?_⟩
  have := hW.ar.hq
  rw [← e, hr] at this
  simp only [Option.some.injEq, Obj.cells.injEq, and_true] at this
  have h2 := congrArg (fun a : Array Value => a[0]?) this
  rw [show n + o = (n + o - 1) + 1 by omega] at h2
  simp [tw, List.replicate_succ] at h2

set_option maxRecDepth 100000 in
set_option maxHeartbeats 4000000 in
theorem woodBegun_any (w : World) : Calls Try.prog 15 #[] w fun e w' => e = .returned (.bool true) ∧ Below w.heap.size w w' := by
  go_enter Try.func15, Try.ntmps15
  go_wp2_with fail
  refine (newW_yes 16 8 w (by omega) (by omega) (by omega)).mono ?_
  rintro e w1 ⟨pw, p, q, pc, pq, s, nb, rfl, hW, hs, hr, ⟨g1, g2, g3, g4, g5, g6, g7⟩, hb1⟩
  have h1 := wf_new hW hs hr hb1 (by omega)
  clear hW hs hr
  have hs1 := hb1.size
  have hba := (Below.refl w1.heap.size w1).alloc (Nat.le_refl _) (.cells #[.int .i64 0, .int .i64 0] 44)
  have H2 : Hid (Wf (w1.alloc (.cells #[.int .i64 0, .int .i64 0] 44)) pw p q pc pq s nb 16 8 0 0 (List.replicate 24 0) (nC 8) [] (tw 2 12)) := h1.below hba
  have HB2 : Hid (Below w.heap.size w (w1.alloc (.cells #[.int .i64 0, .int .i64 0] 44))) := hb1.trans (hba.mono hs1)
  obtain ⟨c0, _, c3, lpw, lnb⟩ := H2.out.cells
  clear h1 hba hb1
  go_wp2_with fail
  refine (make_yes 1 2 _ H2.out.wod.ar (by decide +kernel) (by decide)).mono ?_
  rintro e w3 ⟨rfl, ha3, s3⟩
  have H3 : Hid (Wf w3 pw p q pc pq s nb 16 8 3 0 W0b (nC 8) [] (tw 2 12)) := H2.out.arena ha3 s3
  have HB3 : Hid (Below w.heap.size w w3) := HB2.out.trans (s3.below HB2.out.size g2 g3)
  clear H2 HB2 ha3 s3 c0 c3 lpw lnb
  obtain ⟨c0, _, c3, lpw, lnb⟩ := H3.out.cells
  obtain ⟨rc, rf⟩ := H3.out.rcell 0 (by omega)
  have npn := H3.out.apart.2.2.1
  have hd := (Below.refl w3.heap.size w3).drew
  go_wp2_with fail
  go_region_held3 (fun w' => w'.cell? ⟨pw, 3, none⟩ = some (.slice (some ⟨nb, 0, none⟩) 12 12)) (first | exact c3 | exact u0 | exact (World.cell?_setCell_other _ _ _ _ (by simp; omega)).trans u0 | go_keep)
    (first | (go_at_call 21; refine (ref_any 0 _).mono ?_; rintro e w4 ⟨rfl, hb4'⟩; have hb4 : Below w3.heap.size w3 w4 := hd.trans hb4'; have u0 := (hb4.cell (p := ⟨pw, 3, none⟩) lpw).trans c3; have u1 := (hb4.cell (p := ⟨nb, 0, none⟩) lnb).trans rc; have u2 := (hb4.frozen (p := ⟨nb, 0, none⟩) lnb).trans rf))
  have H5 : Hid (Wf (w4.setCell ⟨nb, 0, none⟩ (.int .i64 (ew 3 0))) pw p q pc pq s nb 16 8 3 0 W0b (nC 8) [] R0b) := (H3.out.below hb4).root 0 (ew 3 0)
  have hb34 := HB3.out.trans (hb4.mono HB3.out.size)
  have HB5 : Hid (Below w.heap.size w (w4.setCell ⟨nb, 0, none⟩ (.int .i64 (ew 3 0)))) := hb34.trans (((Fr.refl (fun k => k = nb) w4).set nb 0 _ rfl).below hb34.size (fun k e => by have e : k = nb := e; omega))
  clear H3 HB3 hb4 hb34 u0 u1 u2 c0 c3 rc rf hd lpw lnb npn hb4'
  generalize w4.setCell ⟨nb, 0, none⟩ (.int .i64 (ew 3 0)) = w5 at *
  go_wp2_with fail
  refine (ref_any 0 _).mono ?_
  rintro e w6 ⟨rfl, hb6⟩
  have H6 := H5.out.below hb6
  have HB6 : Hid (Below w.heap.size w w6) := HB5.out.trans (hb6.mono HB5.out.size)
  clear H5 HB5 hb6
  go_wp2_with fail
  have P := set_any (ew 3 0) 1 20 H6.wod (by simp)
  rw [b1, b2] at P
  refine P.mono ?_
  clear P
  rintro e w7 ⟨rfl, hW7, f7⟩
  have H7 : Hid (Wf w7 pw p q pc pq s nb 16 8 3 0 W1b (nC 8) [] R0b) := H6.turn hW7 f7
  have HB7 : Hid (Below w.heap.size w w7) := HB6.out.trans (f7.below HB6.out.size (fun k e => by rcases e with e | e | e | e <;> omega))
  clear H6 HB6 hW7 f7
  go_wp2_with fail
  refine (ref_any 0 _).mono ?_
  rintro e w8 ⟨rfl, hb8⟩
  have H8 := H7.out.below hb8
  have HB8 : Hid (Below w.heap.size w w8) := HB7.out.trans (hb8.mono HB7.out.size)
  clear H7 HB7 hb8
  go_wp2_with fail
  have P := get_any (ew 3 0) 1 w8 H8.wod.cells.1 H8.wod.ar
  rw [b3, if_pos rfl, b4] at P
  refine P.mono ?_
  clear P
  rintro e w9 ⟨rfl, hb9⟩
  have H9 := H8.below hb9
  have HB9 : Hid (Below w.heap.size w w9) := HB8.out.trans (hb9.mono HB8.out.size)
  clear H8 HB8 hb9
  go_wp2_with fail
  refine (viewW_any H9).mono ?_
  rintro e w10 ⟨r2, d2, na, nn, nc, rfl, hr, hn, hnn, hb10⟩
  rw [b5] at hr
  rw [b6] at hn hnn
  have HBA : Hid (Below w.heap.size w w10) := HB9.out.trans (hb10.mono HB9.out.size)
  obtain ⟨br, or, er, lr, cr⟩ := hr (by decide)
  obtain ⟨m, hm, hf, hc⟩ := hn
  obtain ⟨x0, hx0⟩ : ∃ x0, m = [x0] := by
    match m, hm with
    | [x0], _ => exact ⟨x0, rfl⟩
    | [], hm => simp [nds] at hm
    | _ :: _ :: _, hm => simp [nds] at hm
  subst hx0
  obtain ⟨k0, ad0, cp0, vs0⟩ := x0
  simp [nds] at hm
  obtain ⟨rfl, rfl⟩ := hm
  obtain ⟨bn, on, en, ln, cn⟩ := hc (by simp)
  have cn0 := (cn 0 (1, ad0, cp0, [(0, 0), (1, 5)]) rfl).2
  obtain ⟨bf, of, ef, lf, cf⟩ := hf (1, ad0, cp0, [(0, 0), (1, 5)]) (by simp) (by simp)
  have cf1 := (cf 1 (by simp)).2
  have cr0 := (cr 0 (by simp)).1
  have hn1 : nn = 1 := hnn
  clear hnn hr
  dsimp only at ef cf1 cn0
  subst ef er en hn1
  simp at cn0 cf1 cr0
  clear H9 HB9 hb10 hc hf cn cf cr
  go_wp2_with fail
  go_ret
  exact ⟨rfl, HBA.out.alloc HBA.out.size _⟩

end Go.Proofs.Ytglddgjljohkiab
