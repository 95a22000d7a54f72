/- View: a contract, with where what it tells lies: in blocks that are new. -/
import Derived.Test.YtakofbkmhmcnfabGreatJ23
namespace Go.Proofs.YtakofbkmhmcnfabGreat
open Go.RowKit W Kp Stl

/-- Values lie at an address, in a block from base on. -/
def LpN (w : World) (base : Nat) (ad : Option Addr) (l : List (Int × Int)) : Prop := Lp w ad l ∧ (0 < l.length → ∃ b o, ad = some ⟨b, o, none⟩ ∧ base ≤ b)
/-- Nodes lie at an address, all of them in blocks from base on. -/
def LnN (w : World) (base : Nat) (ad : Option Addr) (ns : List (Int × List (Int × Int))) : Prop :=
  ∃ m : List Vnd, nds m = ns ∧ (∀ x ∈ m, Lp w x.2.1 x.2.2.2) ∧ (∀ k, Fb m k → base ≤ k) ∧ (0 < m.length → ∃ b o, ad = some ⟨b, o, none⟩ ∧ base ≤ b ∧ b < w.heap.size ∧ ∀ i x, m[i]? = some x → w.cell? ⟨b, o + i * 2, none⟩ = some (.int .i64 x.1) ∧ w.cell? ⟨b, o + i * 2 + 1, none⟩ = some (.slice x.2.1 x.2.2.2.length x.2.2.1))
theorem LnN.ln {w : World} {base : Nat} {ad : Option Addr} {ns : List (Int × List (Int × Int))} (h : LnN w base ad ns) : Ln w ad ns := by
  obtain ⟨m, h1, h2, _, h4⟩ := h
  exact ⟨m, h1, h2, fun hp => by
    obtain ⟨b, o, e, _, l, c⟩ := h4 hp
    exact ⟨b, o, e, l, c⟩⟩
theorem LpN.fr {F : Nat → Prop} {w w' : World} {base : Nat} {ad : Option Addr} {l : List (Int × Int)} (h : LpN w base ad l) (f : Fr F w w') (hF : ∀ b, F b → b < base) : LpN w' base ad l :=
  ⟨h.1.keep f.size (fun hp b e => by
    obtain ⟨b0, o0, e0, hb⟩ := h.2 hp
    obtain ⟨b1, o1, e1, l1, _⟩ := h.1 hp
    rw [e0] at e e1
    cases e
    cases e1
    exact f.block b0 l1 (fun d => by have h9 : b0 < base := hF b0 d; omega)), h.2⟩
theorem LnN.fr {F : Nat → Prop} {w w' : World} {base : Nat} {ad : Option Addr} {ns : List (Int × List (Int × Int))} (h : LnN w base ad ns) (f : Fr F w w') (hF : ∀ b, F b → b < base) : LnN w' base ad ns := by
  obtain ⟨m, h1, h2, h3, h4⟩ := h
  refine ⟨m, h1, fun x hx => (h2 x hx).keep f.size (fun hp b e => ?_), h3, fun hp => ?_⟩
  · obtain ⟨b1, o1, e1, l1, _⟩ := h2 x hx hp
    rw [e1] at e
    cases e
    have h8 := h3 b1 ⟨x, hx, hp, o1, e1⟩
    exact f.block b1 l1 (fun d => by have h9 : b1 < base := hF b1 d; omega)
  · obtain ⟨b, o, e, g1, g2, c⟩ := h4 hp
    have hb : w'.heap[b]? = w.heap[b]? := f.block b g2 (fun d => by have := hF _ d; omega)
    exact ⟨b, o, e, g1, Nat.lt_of_lt_of_le g2 f.size, fun i x hx => ⟨(World.cell?_of_block (a := ⟨b, o + i * 2, none⟩) hb).trans (c i x hx).1, (World.cell?_of_block (a := ⟨b, o + i * 2 + 1, none⟩) hb).trans (c i x hx).2⟩⟩
theorem LpN.below {w w' : World} {base : Nat} {ad : Option Addr} {l : List (Int × Int)} (h : LpN w base ad l) (hb : Below w.heap.size w w') : LpN w' base ad l := h.fr (F := fun _ => False) (Fr.of hb) (fun _ d => d.elim)
theorem LnN.below {w w' : World} {base : Nat} {ad : Option Addr} {ns : List (Int × List (Int × Int))} (h : LnN w base ad ns) (hb : Below w.heap.size w w') : LnN w' base ad ns := h.fr (F := fun _ => False) (Fr.of hb) (fun _ d => d.elim)

section
variable {w : World} {pw p q N O y g : Nat} {ws : List Int} {sd : Nat} {v0 : Value} {a1 : Option Addr} {k1 : Nat} {Q : List En} {l : List Int} {ra : Option Addr} {rc : Nat}

set_option maxRecDepth 100000 in
set_option maxHeartbeats 1000000 in
theorem view_new (hq : Wq w pw p q N O y g ws sd v0 a1 k1 Q) (c3 : w.cell? ⟨pw, 3, none⟩ = some (.slice ra l.length rc)) (hl : Lq w ra l) (hm : l.length ≤ 100000) :
    Calls Tryz.prog 20 #[.pointer (some ⟨pw, 0, none⟩)] w fun e w' => ∃ r2 d2 na nn nc, e = .returned (.agg #[.slice r2 l.length d2, .slice na nn nc]) ∧ LpN w' w.heap.size r2 (vwL N y g ws Q l).1 ∧ LnN w' w.heap.size na (vwL N y g ws Q l).2.2 ∧ nn = (vwL N y g ws Q l).2.2.length ∧ Below w.heap.size w w' := by
  have ba := (Below.refl w.heap.size w).alloc (Nat.le_refl _) (.cells #[.slice none 0 0, .slice none 0 0] 50)
  have hr0 := heap_alloc_new w (.cells #[.slice none 0 0, .slice none 0 0] 50)
  have hq0 := hq.low ba
  have hl0 := hl.kf (Kf.of (B := 0) ba)
  have lpw := World.block_lt_of_cell? w _ c3
  have c30 := (ba.cell (p := ⟨pw, 3, none⟩) lpw).trans c3
  have lpw0 : pw < (w.alloc (.cells #[.slice none 0 0, .slice none 0 0] 50)).heap.size := Nat.lt_of_lt_of_le lpw ba.size
  have lr0 : w.heap.size < (w.alloc (.cells #[.slice none 0 0, .slice none 0 0] 50)).heap.size := by simp
  have P := newWalk_any hq0.c0 hq0.ar
  have k1' := hq.ar.hN'
  have k2' := hq.ar.hy
  have k3' := hq.ar.hO
  have k4' := hq.ar.hg
  have hTb : ∀ a ∈ thY N y g ws ++ thO N y g ws, 0 ≤ a ∧ a < 2000 := fun a ha => by
    rcases List.mem_append.1 ha with ha | ha
    · have := thY_bd a ha; omega
    · have := thO_bd a ha; omega
  have hTl : (thY N y g ws ++ thO N y g ws).length ≤ 100000 := by
    have h1 : (thY N y g ws).length ≤ 2000 := ths_le _ _
    have h2 : (thO N y g ws).length ≤ 2000 := ths_le _ _
    simp
    omega
  have KV : Hid (∀ (kb mq : Nat) (w1 : World), Wk (w.alloc (.cells #[.slice none 0 0, .slice none 0 0] 50)) w1 kb mq pw (thY N y g ws ++ thO N y g ws) ([], []) (.slice none 0 0) [] → Calls Tryz.prog 74 #[.pointer (some ⟨kb, 0, none⟩), .slice ra l.length rc] w1 fun e w' => ∃ vn' m' a2 c2, e = .returned (.slice a2 l.length c2) ∧ w'.ownsRow w1.heap.size 91 2 (.slice a2 l.length c2) l.length (ev (vwL N y g ws Q l).1) ∧ Wk (w.alloc (.cells #[.slice none 0 0, .slice none 0 0] 50)) w' kb mq pw (thY N y g ws ++ thO N y g ws) (vwL N y g ws Q l).2 vn' m' ∧ Kv (w.alloc (.cells #[.slice none 0 0, .slice none 0 0] 50)) w1 [] w' m' ∧ (∀ k, Fb m' k → some k ≠ (Value.slice a2 l.length c2).ownBlock)) :=
    fun kb mq w1 h1 => values_any (meet_any hq0 hTb hTl _) (met_go _) h1 (VOk.start _) (by simp) l ra rc (hl0.kf (Kf.of (B := 0) h1.bel)) hm
  have hvl : Hid ((vwL N y g ws Q l).1.length = l.length) := vls_len _ _ _ _
  clear hq hq0 hl hl0 k1' k2' k3' k4' hTb hTl c3
  generalize vwL N y g ws Q l = R at *
  obtain ⟨V, s⟩ := R
  generalize thY N y g ws ++ thO N y g ws = T at *
  dsimp only at *
  go_enter Tryz.func20, Tryz.ntmps20
  go_wp2_with fail
  refine P.mono ?_
  clear P
  rintro e w1 ⟨kb, mq, rfl, h1⟩
  have x3 := (h1.bel.cell (p := ⟨pw, 3, none⟩) lpw0).trans c30
  have H1 : Hid (_) := h1
  clear h1
  go_wp2_with fail
  refine (KV.out kb mq w1 H1.out).mono ?_
  clear KV
  rintro e w2 ⟨vn, m, a2, c2, rfl, hr2, hW2, hK2, _⟩
  obtain ⟨na, nc, e2⟩ := row_slice hW2.row
  subst e2
  have z2 := hW2.cells.2.2.1
  have hb2 := ba.trans (hW2.bel.mono ba.size)
  have hr3 := (hW2.bel.block _ lr0).trans hr0
  have y0 : w2.cell? ⟨w.heap.size, 0, none⟩ = some (.slice none 0 0) := by simp [World.cell?, hr3]
  have y1 : w2.cell? ⟨w.heap.size, 1, none⟩ = some (.slice none 0 0) := by simp [World.cell?, hr3]
  have f0 : w2.frozen? ⟨w.heap.size, 0, none⟩ = false := by simp [World.frozen?, hr3]
  have f1 : w2.frozen? ⟨w.heap.size, 1, none⟩ = false := by simp [World.frozen?, hr3]
  have l2 : w.heap.size < w2.heap.size := lt_of_some hr3
  have HW2 : Hid (_ ∧ _) := ⟨hW2, hr2⟩
  have hml : Hid (m.length = s.2.length) := hW2.len
  have HB2 : Hid (_) := hb2
  have HR3 : Hid (_ = _) := hr3
  have hs1 : w.heap.size ≤ w1.heap.size := by
    have := H1.out.bel.size
    simp at this
    omega
  have HFB : Hid (∀ k, Fb m k → w.heap.size ≤ k) := fun k hk => (hK2.2 k hk).elim (fun ⟨x, hx, _⟩ => by cases hx) (fun d => Nat.le_trans hs1 d)
  clear hW2 hr2 hK2 hb2 hr3 ba hr0 x3 c30 H1
  go_wp2_with fail
  obtain ⟨W0, hW0⟩ : ∃ W0, W0 = (w2.setCell ⟨w.heap.size, 0, none⟩ (.slice a2 l.length c2)).setCell ⟨w.heap.size, 1, none⟩ (.slice na m.length nc) := ⟨_, rfl⟩
  rw [← hW0]
  have g0 : W0.cell? ⟨w.heap.size, 0, none⟩ = some (.slice a2 l.length c2) := by
    rw [hW0, World.cell?_setCell_other _ _ _ _ (by simp)]
    exact World.cell?_setCell_same _ _ _ y0
  have g1 : W0.cell? ⟨w.heap.size, 1, none⟩ = some (.slice na m.length nc) := by
    rw [hW0]
    exact World.cell?_setCell_same _ _ _ ((World.cell?_setCell_other w2 ⟨w.heap.size, 0, none⟩ ⟨w.heap.size, 1, none⟩ _ (by simp)).trans y1)
  have hF : Fr (fun k => k = w.heap.size) w2 W0 := by rw [hW0]; exact ((Fr.refl (fun k => k = w.heap.size) w2).set w.heap.size 0 _ rfl).set w.heap.size 1 _ rfl
  clear hW0
  obtain ⟨hW2, hr2⟩ := HW2.out
  have eL : ∀ {ad : Option Addr} {L : List (Int × Int)}, Lv w2 ad L → Lp W0 ad L := fun {ad L} h => h.1.keep hF.size (fun hp b e => by
    obtain ⟨b0, o0, cs, e0, hb⟩ := h.2 hp
    rw [e0] at e
    cases e
    refine hF.block _ (lt_of_some hb) (fun c => ?_)
    have c : b0 = w.heap.size := c
    rw [c, HR3.out] at hb
    simp at hb)
  refine bodyPost_ret (v := .agg #[.slice a2 l.length c2, .slice na m.length nc]) (by simp [results, Tryz.results20, go_sem, g0, g1]) rfl ⟨a2, c2, na, m.length, nc, rfl, ⟨eL (Lv.of (by rw [hvl.out]; exact hr2)), fun hp => ?_⟩, ⟨m, hW2.nd, fun x hx => eL (hW2.fl x hx), HFB.out, fun hp => ?_⟩, hml.out, HB2.out.trans (hF.below (Nat.le_of_lt l2) (fun k e => Nat.le_of_eq (Eq.symm e)))⟩
  · obtain ⟨b, cap, e⟩ := row_shape hr2 (by rw [← hvl.out]; exact hp)
    cases e
    exact ⟨b, 0, rfl, Nat.le_trans hs1 (row_lt hr2 b rfl).1⟩
  obtain ⟨b, cap, e⟩ := row_shape hW2.row hp
  cases e
  have hbs := (row_lt hW2.row b rfl).1
  simp at hbs
  obtain ⟨cur, hcur⟩ := row_type hW2.row b rfl
  have hne : b ≠ w.heap.size := fun c => by
    rw [c, HR3.out] at hcur
    simp at hcur
  refine ⟨b, 0, rfl, by omega, Nat.lt_of_lt_of_le (lt_of_some hcur) hF.size, fun i x hx => ?_⟩
  obtain ⟨n1, n2⟩ := nv_get m i x hx
  rw [Nat.zero_add]
  exact ⟨(World.cell?_of_block (a := ⟨b, i * 2, none⟩) (hF.block b (lt_of_some hcur) hne)).trans (row_cell hW2.row n1).1, (World.cell?_of_block (a := ⟨b, i * 2 + 1, none⟩) (hF.block b (lt_of_some hcur) hne)).trans (row_cell hW2.row n2).1⟩
end

end Go.Proofs.YtakofbkmhmcnfabGreat
