/- WoodViews: its look: a contract. -/
import Derived.Test.YtglddgjljohkiabWv5
namespace Go.Proofs.Ytglddgjljohkiab.WVs
open Go.RowKit W Kp Stl

theorem infoBl : (Try.prog.info? 4).map (fun i => (i.zero, i.size, i.bytes)) = some (some (.bool false), 1, 1) := by kernel_rfl

/-- What its look reads and writes. -/
structure Sk (w : World) (vb lb nn : Nat) (r2 na la : Option Addr) (d2 nc lc B : Nat) (L : List Bool) : Prop where
  hv : w.heap[vb]? = some (.cells #[.slice r2 12 d2, .slice na nn nc] 80 (0, 0))
  hl : w.heap[lb]? = some (.cells #[.slice la nn lc] 83 (0, 0))
  row : w.ownsRow B 4 1 (.slice la nn lc) nn (L.map Value.bool)
theorem Sk.below {w w' : World} {vb lb nn : Nat} {r2 na la : Option Addr} {d2 nc lc B : Nat} {L : List Bool} (h : Sk w vb lb nn r2 na la d2 nc lc B L) (hb : Below w.heap.size w w') : Sk w' vb lb nn r2 na la d2 nc lc B L :=
  ⟨(hb.block vb (lt_of_some h.hv)).trans h.hv, (hb.block lb (lt_of_some h.hl)).trans h.hl, row_keep h.row (fun k hk => hb.block k (row_lt h.row k hk).2)⟩

theorem Sk.cell1 {w : World} {vb lb nn : Nat} {r2 na la : Option Addr} {d2 nc lc B : Nat} {L : List Bool} (h : Sk w vb lb nn r2 na la d2 nc lc B L) : w.cell? ⟨vb, 1, none⟩ = some (.slice na nn nc) := by simp [World.cell?, h.hv]

set_option maxRecDepth 100000 in
set_option maxHeartbeats 1000000 in
theorem see_any {w : World} {vb lb nn : Nat} {r2 na la : Option Addr} {d2 nc lc B : Nat} {L : List Bool} (h : Sk w vb lb nn r2 na la d2 nc lc B L) (hn : nn ≤ 4000) (k z : Int) (hz : Vto nn (k, z)) :
    Calls Try.prog 37 #[.agg #[.int .i64 k, .int .i64 z], .pointer (some ⟨vb, 0, none⟩), .pointer (some ⟨lb, 0, none⟩)] w fun e w' => e = .returned (.bool true) ∧ Sk w' vb lb nn r2 na la d2 nc lc B (sLd L (k, z)) ∧ Fr (fun j => some j = (Value.slice la nn lc).ownBlock) w w' := by
  have H : Hid (Sk w vb lb nn r2 na la d2 nc lc B L) := h
  have ba := (Below.refl w.heap.size w).alloc (Nat.le_refl _) (.cells #[.int .i64 k, .int .i64 z] 85)
  have c0 : w.cell? ⟨vb, 1, none⟩ = some (.slice na nn nc) := by simp [World.cell?, h.hv]
  have c1 : w.cell? ⟨lb, 0, none⟩ = some (.slice la nn lc) := by simp [World.cell?, h.hl]
  have l0 := lt_of_some h.hv
  have l1 := lt_of_some h.hl
  clear h
  by_cases h3 : k = 3
  · subst h3
    obtain ⟨z0, z1⟩ := hz rfl
    dsimp only at z0 z1
    obtain ⟨z, rfl⟩ := Int.eq_ofNat_of_zero_le z0
    have hz1 : z < nn := by omega
    obtain ⟨b, cap, eb⟩ := row_shape H.out.row (by omega)
    cases eb
    have hLl : (L.map Value.bool).length = nn * 1 := H.out.row.1
    obtain ⟨u, hu⟩ : ∃ u, (L.map Value.bool)[z]? = some u := ⟨_, List.getElem?_eq_getElem (by omega)⟩
    obtain ⟨rc, rf⟩ := row_cell H.out.row hu
    have lb2 := (row_lt H.out.row b rfl).2
    have es : sLd L (3, (z : Int)) = L.set z true := by simp [sLd]
    rw [es]
    have hz2 : ¬ ((nn : Int) ≤ (z : Int)) := by omega
    have hF : Fr (fun j => some j = (Value.slice (some ⟨b, 0, none⟩) nn lc).ownBlock) w ((w.setCell ⟨b, z, none⟩ (.bool true))) := (Fr.refl _ w).set b z _ rfl
    have HS : Hid (Sk (w.setCell ⟨b, z, none⟩ (.bool true)) vb lb nn r2 na (some ⟨b, 0, none⟩) d2 nc lc B (L.set z true)) := by
      refine ⟨(Below.heap_setCell _ _ _ _ (fun e => ?_)).trans H.out.hv, (Below.heap_setCell _ _ _ _ (fun e => ?_)).trans H.out.hl, by rw [List.map_set]; exact row_put H.out.row z _⟩
      · have e : vb = b := e
        obtain ⟨cur, hc⟩ := row_type H.out.row b rfl
        rw [← e, H.out.hv] at hc
        simp at hc
      · have e : lb = b := e
        obtain ⟨cur, hc⟩ := row_type H.out.row b rfl
        rw [← e, H.out.hl] at hc
        simp at hc
    have HFr : Hid (_) := hF
    clear hu hLl es hz hF H
    go_enter Try.func37, Try.ntmps37
    go_wp2_with fail
    go_ret
    exact ⟨rfl, HS.out.below ((Below.refl _ _).alloc (Nat.le_refl _) _), HFr.out.alloc _⟩
  · have es : sLd L (k, z) = L := by simp [sLd, h3]
    rw [es]
    have hne : (k != 3) = true := by simpa using h3
    clear es hz h3
    go_enter Try.func37, Try.ntmps37
    go_wp2_with fail
    go_ret
    exact ⟨rfl, H.out.below ba, Fr.of ba⟩

end Go.Proofs.Ytglddgjljohkiab.WVs
