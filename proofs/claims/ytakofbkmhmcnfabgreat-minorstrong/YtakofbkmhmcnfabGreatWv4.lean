/- SameView of what is the same: a contract. -/
import Derived.Test.YtakofbkmhmcnfabGreatWv3
namespace Go.Proofs.YtakofbkmhmcnfabGreat
open Go.RowKit W Kp Stl

/-- One of the nodes. -/
theorem Ln.at {w : World} {ad : Option Addr} {ns : List (Int × List (Int × Int))} (h : Ln w ad ns) {i : Nat} (hi : i < ns.length) : ∃ b o fa fc, ad = some ⟨b, o, none⟩ ∧ b < w.heap.size ∧ w.cell? ⟨b, o + i * 2, none⟩ = some (.int .i64 (ns.getD i (0, [])).1) ∧ w.cell? ⟨b, o + i * 2 + 1, none⟩ = some (.slice fa (ns.getD i (0, [])).2.length fc) ∧ Lp w fa (ns.getD i (0, [])).2 := by
  obtain ⟨m, h1, h2, h3⟩ := h
  have hl : m.length = ns.length := by rw [← h1]; simp [nds]
  obtain ⟨b, o, e, hb, hc⟩ := h3 (by omega)
  obtain ⟨x, hx⟩ : ∃ x, m[i]? = some x := ⟨_, List.getElem?_eq_getElem (by omega)⟩
  have en : ns.getD i (0, []) = (x.1, x.2.2.2) := by
    subst h1
    rw [List.getD_eq_getElem?_getD, nds, List.getElem?_map, hx]
    rfl
  rw [en]
  exact ⟨b, o, _, _, e, hb, (hc i _ hx).1, (hc i _ hx).2, h2 _ (List.mem_of_getElem? hx)⟩

set_option maxRecDepth 100000 in
set_option maxHeartbeats 2000000 in
theorem sameView_eq (r1 r2 n1 n2 : Option Addr) (c1 c2 d1 d2 : Nat) (vs : List (Int × Int)) (ns : List (Int × List (Int × Int))) (w : World) (hm : vs.length ≤ 100000) (hl : ns.length ≤ 100000) (hf : ∀ nd ∈ ns, nd.2.length ≤ 100000) (h1 : Lp w r1 vs) (h2 : Lp w r2 vs) (h3 : Ln w n1 ns) (h4 : Ln w n2 ns) :
    Calls Tryz.prog 22 #[.agg #[.slice r1 vs.length c1, .slice n1 ns.length d1], .agg #[.slice r2 vs.length c2, .slice n2 ns.length d2]] w fun e w' => e = .returned (.bool true) ∧ Below w.heap.size w w' := by
  have ba := ((Below.refl w.heap.size w).alloc (Nat.le_refl _) (.cells #[.slice r1 vs.length c1, .slice n1 ns.length d1] 50)).alloc (by simp) (.cells #[.slice r2 vs.length c2, .slice n2 ns.length d2] 50)
  have k0 : ((w.alloc (.cells #[.slice r1 vs.length c1, .slice n1 ns.length d1] 50)).alloc (.cells #[.slice r2 vs.length c2, .slice n2 ns.length d2] 50)).cell? ⟨w.heap.size, 1, none⟩ = some (.slice n1 ns.length d1) := by simp [go_sem]
  have k1 : ((w.alloc (.cells #[.slice r1 vs.length c1, .slice n1 ns.length d1] 50)).alloc (.cells #[.slice r2 vs.length c2, .slice n2 ns.length d2] 50)).cell? ⟨w.heap.size + 1, 1, none⟩ = some (.slice n2 ns.length d2) := by simp [go_sem]
  have hs0 : ((w.alloc (.cells #[.slice r1 vs.length c1, .slice n1 ns.length d1] 50)).alloc (.cells #[.slice r2 vs.length c2, .slice n2 ns.length d2] 50)).heap.size = w.heap.size + 2 := by simp
  have P := sameVals_eq r1 r2 c1 c2 vs _ hm (h1.below ba) (h2.below ba)
  have H3 : Hid (∀ w', Below w.heap.size w w' → Ln w' n1 ns) := fun w' hb => h3.below hb
  have H4 : Hid (∀ w', Below w.heap.size w w' → Ln w' n2 ns) := fun w' hb => h4.below hb
  have HF : Hid (∀ nd ∈ ns, nd.2.length ≤ 100000) := hf
  clear h1 h2 h3 h4 hf
  go_enter Tryz.func22, Tryz.ntmps22
  go_wp2_with fail
  refine P.mono ?_
  clear P
  rintro e w1 ⟨rfl, hb1⟩
  have hB1 := ba.trans (hb1.mono (by omega))
  have hs1 := hb1.size
  rw [hs0] at hs1
  have x0 := (hb1.cell (p := ⟨w.heap.size, 1, none⟩) (by show w.heap.size < _; omega)).trans k0
  have x1 := (hb1.cell (p := ⟨w.heap.size + 1, 1, none⟩) (by show w.heap.size + 1 < _; omega)).trans k1
  clear ba k0 k1 hs0 hb1
  go_wp2_with fail
  go_loopw [5] (fun iv wr => ∃ j : Nat, j ≤ ns.length ∧ iv = .int .i64 j ∧ Below w1.heap.size w1 wr) (fun iv _ => ns.length - (intOf iv).toNat)
  case atStart => exact ⟨0, Nat.zero_le _, rfl, Below.refl _ _⟩
  case round =>
    obtain ⟨j, hj, rfl, hb⟩ := hrel
    have hsr := hb.size
    have hBr := hB1.trans (hb.mono (by omega))
    have y0 := (hb.cell (p := ⟨w.heap.size, 1, none⟩) (by show w.heap.size < _; omega)).trans x0
    have y1 := (hb.cell (p := ⟨w.heap.size + 1, 1, none⟩) (by show w.heap.size + 1 < _; omega)).trans x1
    have ly0 : w.heap.size < wr.heap.size := by omega
    have ly1 : w.heap.size + 1 < wr.heap.size := by omega
    by_cases hlt : j < ns.length
    · obtain ⟨b1, o1, fa1, fc1, e1, l1, z1, z2, z3⟩ := (H3.out wr hBr).at hlt
      obtain ⟨b2, o2, fa2, fc2, e2, l2, z4, z5, z6⟩ := (H4.out wr hBr).at hlt
      subst e1 e2
      have hfl : (ns.getD j (0, [])).2.length ≤ 100000 := HF.out _ (by rw [List.getD_eq_getElem?_getD, List.getElem?_eq_getElem hlt]; exact List.getElem_mem hlt)
      generalize (ns.getD j (0, [])).1 = kd at z1 z4
      generalize (ns.getD j (0, [])).2 = fs at z2 z3 z5 z6 hfl
      have j0 : (0 : Int) ≤ (j : Int) := by omega
      have j1 : (j : Int) < (ns.length : Int) := by omega
      have hd := (Below.refl wr.heap.size wr).drew
      have P := sameVals_eq fa1 fa2 fc1 fc2 fs wr.drew hfl (z3.below hd) (z6.below hd)
      clear z3 z6 x0 x1
      go_wp2_with fail
      go_region_held3 (fun w' => w'.cell? ⟨w.heap.size, 1, none⟩ = some (.slice (some ⟨b1, o1, none⟩) ns.length d1) ∧ w'.cell? ⟨w.heap.size + 1, 1, none⟩ = some (.slice (some ⟨b2, o2, none⟩) ns.length d2) ∧ w'.cell? ⟨b1, o1 + j * 2, none⟩ = some (.int .i64 kd) ∧ w'.cell? ⟨b1, o1 + j * 2 + 1, none⟩ = some (.slice fa1 fs.length fc1) ∧ w'.cell? ⟨b2, o2 + j * 2, none⟩ = some (.int .i64 kd) ∧ w'.cell? ⟨b2, o2 + j * 2 + 1, none⟩ = some (.slice fa2 fs.length fc2)) (first | exact ⟨y0, y1, z1, z2, z4, z5⟩ | exact ⟨u0, u1, u2, u3, u4, u5⟩ | go_keep)
        (first | (go_at_call 75; refine P.mono ?_; rintro e w3 ⟨rfl, hb3'⟩; have hb3 : Below wr.heap.size wr w3 := hd.trans hb3'; have u0 := (hb3.cell (p := ⟨w.heap.size, 1, none⟩) ly0).trans y0; have u1 := (hb3.cell (p := ⟨w.heap.size + 1, 1, none⟩) ly1).trans y1; have u2 := (hb3.cell (p := ⟨b1, o1 + j * 2, none⟩) l1).trans z1; have u3 := (hb3.cell (p := ⟨b1, o1 + j * 2 + 1, none⟩) l1).trans z2; have u4 := (hb3.cell (p := ⟨b2, o2 + j * 2, none⟩) l2).trans z4; have u5 := (hb3.cell (p := ⟨b2, o2 + j * 2 + 1, none⟩) l2).trans z5))
      have hbN : Below w1.heap.size w1 w3 := hb.trans (hb3.mono hsr)
      clear P u0 u1 u2 u3 u4 u5 y0 y1 z1 z2 z4 z5 hb3 hb3' hd
      go_wp2_with fail
      go_roundw
      case rel => exact ⟨j + 1, by omega, by go_num, hbN⟩
      case measure => simp [intOf]; omega
    · obtain rfl : j = ns.length := by omega
      go_wp2_with fail
      go_ret
      exact ⟨rfl, hBr⟩

end Go.Proofs.YtakofbkmhmcnfabGreat
