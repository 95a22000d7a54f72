/- Joined: Wr1, Wp3, Wr3, Ar1, Ar2, Ar3, Ar4, Ar5, Ar6, Ar7, Ar8, Same, ABegun, Ar9. -/
import Derived.Test.YtogknhogphkddaaGreatJ01
import Derived.Test.YtogknhogphkddaaGreatJ02
import Derived.Deep.RegionWith
import Derived.Deep.RegionLaw
/- The document's world in memory, by labels. -/
namespace Go.Proofs.YtogknhogphkddaaGreat
open Go.RowKit W Kp Stl

abbrev Tnd := Tw1 × Option Addr × Nat
def tv (m : List Tnd) : List Value := m.flatMap fun x => [.int .i64 x.1.1, .slice x.2.1 x.1.2.1.length x.2.2, .bool x.1.2.2.1, .bool x.1.2.2.2]
theorem tv_append (a b : List Tnd) : tv (a ++ b) = tv a ++ tv b := by simp [tv]
theorem tv_get : ∀ (l : List Tnd) (i : Nat) (x : Tnd), l[i]? = some x → (tv l)[i * 4]? = some (.int .i64 x.1.1) ∧ (tv l)[i * 4 + 1]? = some (.slice x.2.1 x.1.2.1.length x.2.2) ∧ (tv l)[i * 4 + 2]? = some (.bool x.1.2.2.1) ∧ (tv l)[i * 4 + 3]? = some (.bool x.1.2.2.2)
  | [], i, x, h => by simp at h
  | e :: r, 0, x, h => by
    simp at h
    subst h
    simp [tv]
  | e :: r, i + 1, x, h => by
    have h2 := tv_get r i x (by simpa using h)
    have e1 : (tv (e :: r)) = .int .i64 e.1.1 :: .slice e.2.1 e.1.2.1.length e.2.2 :: .bool e.1.2.2.1 :: .bool e.1.2.2.2 :: tv r := by simp [tv]
    rw [e1, show (i + 1) * 4 = i * 4 + 1 + 1 + 1 + 1 by omega]
    simpa using h2
theorem tv_set : ∀ (l : List Tnd) (i : Nat) (x : Tnd) (ad : Option Addr) (c : Nat) (vs : List (Int × Int)), l[i]? = some x → tv (l.set i ((x.1.1, vs, x.1.2.2), ad, c)) = (tv l).set (i * 4 + 1) (.slice ad vs.length c)
  | [], _, _, _, _, _, _ => rfl
  | e :: l, 0, x, ad, c, vs, h => by
    simp at h
    subst h
    simp [tv]
  | e :: l, i + 1, x, ad, c, vs, h => by
    have ih := tv_set l i x ad c vs (by simpa using h)
    have e1 : (tv (e :: l)) = .int .i64 e.1.1 :: .slice e.2.1 e.1.2.1.length e.2.2 :: .bool e.1.2.2.1 :: .bool e.1.2.2.2 :: tv l := by simp [tv]
    have e2 : (tv (e :: l.set i ((x.1.1, vs, x.1.2.2), ad, c))) = .int .i64 e.1.1 :: .slice e.2.1 e.1.2.1.length e.2.2 :: .bool e.1.2.2.1 :: .bool e.1.2.2.2 :: tv (l.set i ((x.1.1, vs, x.1.2.2), ad, c)) := by simp [tv]
    rw [List.set_cons_succ, e2, e1, ih, show (i + 1) * 4 + 1 = i * 4 + 1 + 1 + 1 + 1 + 1 by omega]
    simp


structure Mr (rp rb : Nat) (most grow : Int) (own : Nat → Nat) (s : Wrs) (m : List Tnd) (vT v2 v3 : Value) (w : World) : Prop where
  blk : w.heap[rp]? = some (.cells #[vT, .slice (some ⟨rb, 0, none⟩) 12 12, v2, v3, .int .i64 most, .int .i64 grow] 60 (0, 0))
  b1 : own rp = 1
  row : w.ownsRow 0 73 4 vT m.length (tv m)
  ro : ∀ b, some b = vT.ownBlock → own b = 2
  nd : m.map (fun x => x.1) = s.T
  fl : ∀ x ∈ m, Lp w x.2.1 x.1.2.1 ∧ (0 < x.1.2.1.length → ∃ b o, x.2.1 = some ⟨b, o, none⟩ ∧ own b = 3)
  rt : w.heap[rb]? = some (.cells (ev s.rs).toArray 54 (0, 0))
  rl : s.rs.length = 12
  r1 : own rb = 4
  g2 : w.ownsRow 0 71 2 v2 s.rg.length (ev s.rg)
  g2o : ∀ b, some b = v2.ownBlock → own b = 5
  g3 : w.ownsRow 0 71 2 v3 s.wt.length (ev s.wt)
  g3o : ∀ b, some b = v3.ownBlock → own b = 6
  lt : ∀ b, own b ≠ 0 → b < w.heap.size

section
variable {rp rb : Nat} {most grow : Int} {own : Nat → Nat} {s : Wrs} {m : List Tnd} {vT v2 v3 : Value} {w w' : World}

theorem Lp.at {ad : Option Addr} {l : List (Int × Int)} (h : Lp w ad l) (hs : w.heap.size ≤ w'.heap.size) (hk : ∀ b o, 0 < l.length → ad = some ⟨b, o, none⟩ → w'.heap[b]? = w.heap[b]?) : Lp w' ad l :=
  h.keep hs (fun hp a e => by
    obtain ⟨b, o, e', hb, _⟩ := h hp
    rw [e] at e'
    cases e'
    exact hk _ _ hp e)
theorem Mr.but (h : Mr rp rb most grow own s m vT v2 v3 w) (hs : w.heap.size ≤ w'.heap.size) (hk : ∀ b, b < w.heap.size → own b ≠ 0 → w'.heap[b]? = w.heap[b]?) : Mr rp rb most grow own s m vT v2 v3 w' :=
  { blk := (hk _ (lt_of_some h.blk) (by rw [h.b1]; decide)).trans h.blk, b1 := h.b1
    row := row_keep h.row (fun b e => hk b (row_lt h.row b e).2 (by rw [h.ro b e]; decide)), ro := h.ro, nd := h.nd
    fl := fun x hx => ⟨(h.fl x hx).1.at hs (fun b o hp e => by
      obtain ⟨b', o', e', ho⟩ := (h.fl x hx).2 hp
      rw [e] at e'
      cases e'
      exact hk _ (h.lt _ (by rw [ho]; decide)) (by rw [ho]; decide)), (h.fl x hx).2⟩
    rt := (hk _ (lt_of_some h.rt) (by rw [h.r1]; decide)).trans h.rt, rl := h.rl, r1 := h.r1
    g2 := row_keep h.g2 (fun b e => hk b (row_lt h.g2 b e).2 (by rw [h.g2o b e]; decide)), g2o := h.g2o
    g3 := row_keep h.g3 (fun b e => hk b (row_lt h.g3 b e).2 (by rw [h.g3o b e]; decide)), g3o := h.g3o
    lt := fun b hb => Nat.lt_of_lt_of_le (h.lt b hb) hs }
end

def wrO (rp rb : Nat) (most grow : Int) : Ob Wrs where
  J F s w := ∃ own m vT v2 v3, Mr rp rb most grow own s m vT v2 v3 w ∧ ∀ b, F b ↔ own b ≠ 0
  lt := by
    rintro F s w ⟨own, m, vT, v2, v3, h, hF⟩ b hb
    exact h.lt b ((hF b).1 hb)
  keep := by
    rintro F s w w' ⟨own, m, vT, v2, v3, h, hF⟩ hs hk
    exact ⟨own, m, vT, v2, v3, h.but hs (fun b _ hb => hk b ((hF b).2 hb)), hF⟩

section
variable {rp rb : Nat} {most grow : Int} {F : Nat → Prop} {s : Wrs} {w w' : World}

theorem wr_cells (h : (wrO rp rb most grow).J F s w) : w.cell? ⟨rp, 1, none⟩ = some (.slice (some ⟨rb, 0, none⟩) 12 12) ∧ w.cell? ⟨rp, 4, none⟩ = some (.int .i64 most) ∧ w.cell? ⟨rp, 5, none⟩ = some (.int .i64 grow) ∧ rp < w.heap.size ∧ rb < w.heap.size ∧ (∀ o, w.frozen? ⟨rp, o, none⟩ = false) ∧ s.rs.length = 12 ∧
    (∀ i, i < 12 → w.cell? ⟨rb, i * 2, none⟩ = some (.int .i64 (s.rs.getD i (0, 0)).1) ∧ w.cell? ⟨rb, i * 2 + 1, none⟩ = some (.int .i64 (s.rs.getD i (0, 0)).2) ∧ w.frozen? ⟨rb, i * 2, none⟩ = false ∧ w.frozen? ⟨rb, i * 2 + 1, none⟩ = false) := by
  obtain ⟨own, m, vT, v2, v3, h, hF⟩ := h
  have h1 := h.blk
  have h2 := h.rt
  have hl := h.rl
  refine ⟨by simp [World.cell?, h1], by simp [World.cell?, h1], by simp [World.cell?, h1], lt_of_some h1, lt_of_some h2, fun o => by simp [World.frozen?, h1], hl, fun i hi => ?_⟩
  obtain ⟨e1, e2⟩ := ev_get s.rs i (by omega)
  refine ⟨?_, ?_, by simp [World.frozen?, h2], by simp [World.frozen?, h2]⟩
  · simp [World.cell?, h2]
    simpa using e1
  · simp [World.cell?, h2]
    simpa using e2
theorem wr_root (h : (wrO rp rb most grow).J F s w) (i : Nat) (x : Int × Int) : (wrO rp rb most grow).J F { s with rs := s.rs.set i x } ((w.setCell ⟨rb, i * 2, none⟩ (.int .i64 x.1)).setCell ⟨rb, i * 2 + 1, none⟩ (.int .i64 x.2)) ∧ Tn F w F ((w.setCell ⟨rb, i * 2, none⟩ (.int .i64 x.1)).setCell ⟨rb, i * 2 + 1, none⟩ (.int .i64 x.2)) := by
  obtain ⟨own, m, vT, v2, v3, h, hF⟩ := h
  have fr : Fr (fun b => b = rb) w ((w.setCell ⟨rb, i * 2, none⟩ (.int .i64 x.1)).setCell ⟨rb, i * 2 + 1, none⟩ (.int .i64 x.2)) := ((Fr.refl (fun b => b = rb) w).set rb _ _ rfl).set rb _ _ rfl
  refine ⟨⟨own, m, vT, v2, v3, ?_, hF⟩, ⟨fr.mono (fun b e => (hF b).2 (by rw [e, h.r1]; decide)), fun _ h => Or.inl h⟩⟩
  generalize hw : (w.setCell ⟨rb, i * 2, none⟩ (.int .i64 x.1)).setCell ⟨rb, i * 2 + 1, none⟩ (.int .i64 x.2) = w' at fr
  have hk : ∀ b, b < w.heap.size → own b ≠ 4 → w'.heap[b]? = w.heap[b]? := fun b hb hn => fr.block b hb (fun e => hn (by rw [e]; exact h.r1))
  exact { blk := (hk _ (lt_of_some h.blk) (by rw [h.b1]; decide)).trans h.blk, b1 := h.b1
          row := row_keep h.row (fun b e => hk b (row_lt h.row b e).2 (by rw [h.ro b e]; decide)), ro := h.ro, nd := h.nd
          fl := fun y hy => ⟨(h.fl y hy).1.at fr.size (fun b o hp e => by
            obtain ⟨b', o', e', ho⟩ := (h.fl y hy).2 hp
            rw [e] at e'
            cases e'
            exact hk _ (h.lt _ (by rw [ho]; decide)) (by rw [ho]; decide)), (h.fl y hy).2⟩
          rt := by
            have hq := h.rt
            rw [← hw]
            simp only [World.setCell, Array.getElem?_modify, if_true, hq, Option.map_some]
            simp [ev_root]
          rl := by rw [List.length_set]; exact h.rl
          r1 := h.r1
          g2 := row_keep h.g2 (fun b e => hk b (row_lt h.g2 b e).2 (by rw [h.g2o b e]; decide)), g2o := h.g2o
          g3 := row_keep h.g3 (fun b e => hk b (row_lt h.g3 b e).2 (by rw [h.g3o b e]; decide)), g3o := h.g3o
          lt := fun b hb => Nat.lt_of_lt_of_le (h.lt b hb) fr.size }
theorem wr_things (h : (wrO rp rb most grow).J F s w) : ∃ aT cT, w.cell? ⟨rp, 0, none⟩ = some (.slice aT s.T.length cT) ∧ (0 < s.T.length → ∃ b, aT = some ⟨b, 0, none⟩ ∧ b ≠ rp ∧ b ≠ rb) ∧ ∀ (i : Nat) (x : Tw1), s.T[i]? = some x → ∃ b ad cp, aT = some ⟨b, 0, none⟩ ∧ w.cell? ⟨b, i * 4, none⟩ = some (.int .i64 x.1) ∧ w.cell? ⟨b, i * 4 + 1, none⟩ = some (.slice ad x.2.1.length cp) ∧ w.cell? ⟨b, i * 4 + 2, none⟩ = some (.bool x.2.2.1) ∧ w.cell? ⟨b, i * 4 + 3, none⟩ = some (.bool x.2.2.2) ∧ Lp w ad x.2.1 ∧ ∀ fb fo, 0 < x.2.1.length → ad = some ⟨fb, fo, none⟩ → fb ≠ rb ∧ fb ≠ rp ∧ F fb := by
  obtain ⟨own, m, vT, v2, v3, h, hF⟩ := h
  have h1 := h.blk
  obtain ⟨aT, cT, eT⟩ := row_slice h.row
  have el : m.length = s.T.length := by rw [← h.nd]; simp
  refine ⟨aT, cT, by simp [World.cell?, h1, eT, el], fun hp => ?_, fun i x hx => ?_⟩
  · obtain ⟨b, cap, e⟩ := row_shape h.row (by omega)
    rw [eT] at e
    cases e
    have hb := h.ro b (by rw [eT]; rfl)
    exact ⟨b, rfl, fun e => by rw [e, h.b1] at hb; omega, fun e => by rw [e, h.r1] at hb; omega⟩
  · rw [← h.nd] at hx
    obtain ⟨y, hy, rfl⟩ : ∃ y, m[i]? = some y ∧ y.1 = x := by
      simp at hx
      obtain ⟨a, b, c⟩ := hx
      exact ⟨_, c, rfl⟩
    have hi : i < m.length := (List.getElem?_eq_some_iff.1 hy).1
    rcases h.row.2 with ⟨_, h0⟩ | ⟨g, cap', cur, hv, hb, hh, h3, h4, h5, h6⟩
    · omega
    · rw [eT] at hv
      simp at hv
      obtain ⟨rfl, _, rfl⟩ := hv
      obtain ⟨k0, k1, k2, k3⟩ := tv_get m i y hy
      rw [← h6, List.getElem?_take_of_lt (by omega)] at k0 k1 k2 k3
      refine ⟨g, y.2.1, y.2.2, rfl, ?_, ?_, ?_, ?_, (h.fl y (List.mem_of_getElem? hy)).1, fun fb fo hp e => ?_⟩
      · simp [World.cell?, hh]
        simpa using k0
      · simp [World.cell?, hh]
        simpa using k1
      · simp [World.cell?, hh]
        simpa using k2
      · simp [World.cell?, hh]
        simpa using k3
      · obtain ⟨b', o', e', ho⟩ := (h.fl y (List.mem_of_getElem? hy)).2 hp
        rw [e] at e'
        cases e'
        exact ⟨fun c => by rw [c, h.r1] at ho; omega, fun c => by rw [c, h.b1] at ho; omega, (hF _).2 (by rw [ho]; decide)⟩
theorem wr_row (h : (wrO rp rb most grow).J F s w) : ∃ m vT, m.map (fun x => x.1) = s.T ∧ w.cell? ⟨rp, 0, none⟩ = some vT ∧ w.ownsRow 0 73 4 vT m.length (tv m) ∧ (some rp ≠ vT.ownBlock ∧ some rb ≠ vT.ownBlock) ∧ (∀ b, some b = vT.ownBlock → F b) ∧
    -- one more thing
    (∀ (x : Tnd) (v1 : Value) (w1 : World), Fr (fun b => some b = vT.ownBlock) w w1 → w1.ownsRow 0 73 4 v1 (m ++ [x]).length (tv (m ++ [x])) → (∀ b, some b = v1.ownBlock → some b = vT.ownBlock ∨ w.heap.size ≤ b) → Lp w1 x.2.1 x.1.2.1 → (∀ b o, 0 < x.1.2.1.length → x.2.1 = some ⟨b, o, none⟩ → ¬ F b ∧ some b ≠ v1.ownBlock) →
      (wrO rp rb most grow).J (fun b => F b ∨ some b = v1.ownBlock ∨ (0 < x.1.2.1.length ∧ ∃ o, x.2.1 = some ⟨b, o, none⟩)) { s with T := s.T ++ [x.1] } (w1.setCell ⟨rp, 0, none⟩ v1) ∧ Fr F w (w1.setCell ⟨rp, 0, none⟩ v1)) ∧
    -- other values of a thing
    (∀ (i : Nat) (x : Tnd) (ad : Option Addr) (c : Nat) (vs : List (Int × Int)) (b : Nat), m[i]? = some x → some b = vT.ownBlock → Lp w ad vs → (∀ b o, 0 < vs.length → ad = some ⟨b, o, none⟩ → ¬ F b) →
      (wrO rp rb most grow).J (fun b => F b ∨ (0 < vs.length ∧ ∃ o, ad = some ⟨b, o, none⟩)) { s with T := s.T.set i (x.1.1, vs, x.1.2.2) } (w.setCell ⟨b, i * 4 + 1, none⟩ (.slice ad vs.length c)) ∧ Fr F w (w.setCell ⟨b, i * 4 + 1, none⟩ (.slice ad vs.length c))) := by
  classical
  obtain ⟨own, m, vT, v2, v3, h, hF⟩ := h
  have h1 := h.blk
  have own0 : ∀ b, ¬ F b → own b = 0 := fun b hb => Classical.byContradiction (fun c => hb ((hF b).2 c))
  have rne : some rp ≠ vT.ownBlock ∧ some rb ≠ vT.ownBlock := ⟨fun e => by have := h.ro rp e; rw [h.b1] at this; omega, fun e => by have := h.ro rb e; rw [h.r1] at this; omega⟩
  refine ⟨m, vT, h.nd, by simp [World.cell?, h1], h.row, rne, fun b e => (hF b).2 (by rw [h.ro b e]; decide), fun x v1 w1 f1 ho hn hL hxn => ?_, fun i x ad c vs b hx hb hL hxn => ?_⟩
  · have hnw : ∀ b, some b = v1.ownBlock → own b = 2 ∨ own b = 0 := fun b e => (hn b e).elim (fun e => Or.inl (h.ro b e)) (fun hl => Or.inr (Classical.byContradiction (fun c => by have := h.lt b c; omega)))
    have xnw : ∀ b, (0 < x.1.2.1.length ∧ ∃ o, x.2.1 = some ⟨b, o, none⟩) → own b = 0 ∧ some b ≠ v1.ownBlock := fun b ⟨hp, o, e⟩ => ⟨own0 b (hxn b o hp e).1, (hxn b o hp e).2⟩
    have e1 : ∀ b j, own b = j → j ≠ 0 → j ≠ 2 → (if some b = v1.ownBlock then 2 else if (0 < x.1.2.1.length ∧ ∃ o, x.2.1 = some ⟨b, o, none⟩) then 3 else own b) = j := fun b j e h0 h2 => by
      rw [if_neg (fun c => by rcases hnw b c with c | c <;> omega), if_neg (fun c => by have := (xnw b c).1; omega)]
      exact e
    have sz : (w1.setCell ⟨rp, 0, none⟩ v1).heap.size = w1.heap.size := by simp [World.setCell]
    have hk : ∀ b, b < w.heap.size → own b ≠ 2 → own b ≠ 1 → (w1.setCell ⟨rp, 0, none⟩ v1).heap[b]? = w.heap[b]? := fun b hb h2 h1' => (Below.heap_setCell _ _ _ _ (fun e => h1' (by have e : b = rp := e; rw [e]; exact h.b1))).trans (f1.block b hb (fun e => h2 (h.ro b e)))
    have hrp : ¬ some rp = v1.ownBlock := fun e => by rcases hnw rp e with c | c <;> rw [h.b1] at c <;> omega
    refine ⟨⟨fun b => if some b = v1.ownBlock then 2 else if (0 < x.1.2.1.length ∧ ∃ o, x.2.1 = some ⟨b, o, none⟩) then 3 else own b, m ++ [x], v1, v2, v3, ?_, fun b => ?_⟩, ?_⟩
    · exact { blk := by
                have hq := (f1.block rp (lt_of_some h1) rne.1).trans h1
                simp only [World.setCell, Array.getElem?_modify, if_true, hq, Option.map_some]
                simp
              b1 := e1 _ _ h.b1 (by decide) (by decide)
              row := row_keep ho (fun b e => Below.heap_setCell _ _ _ _ (fun e' => hrp (by have e' : b = rp := e'; rw [← e']; exact e)))
              ro := fun b e => by rw [if_pos e]
              nd := by simp [h.nd]
              fl := fun y hy => by
                rcases List.mem_append.1 hy with hy | hy
                · refine ⟨(h.fl y hy).1.at (by rw [sz]; exact f1.size) (fun b o hp e => ?_), fun hp => ?_⟩
                  · obtain ⟨b', o', e', ho'⟩ := (h.fl y hy).2 hp
                    rw [e] at e'
                    cases e'
                    exact hk _ (h.lt _ (by rw [ho']; decide)) (by rw [ho']; decide) (by rw [ho']; decide)
                  · obtain ⟨b', o', e', ho'⟩ := (h.fl y hy).2 hp
                    exact ⟨b', o', e', e1 _ _ ho' (by decide) (by decide)⟩
                · simp at hy
                  subst hy
                  refine ⟨hL.at (by rw [sz]; exact Nat.le_refl _) (fun b o hp e => Below.heap_setCell _ _ _ _ (fun e' => ?_)), fun hp => ?_⟩
                  · have e' : b = rp := e'
                    have := (xnw b ⟨hp, o, e⟩).1
                    rw [e', h.b1] at this
                    omega
                  · obtain ⟨b, o, e, _⟩ := hL hp
                    exact ⟨b, o, e, by rw [if_neg (xnw b ⟨hp, o, e⟩).2, if_pos ⟨hp, o, e⟩]⟩
              rt := (hk _ (lt_of_some h.rt) (by rw [h.r1]; decide) (by rw [h.r1]; decide)).trans h.rt
              rl := h.rl
              r1 := e1 _ _ h.r1 (by decide) (by decide)
              g2 := row_keep h.g2 (fun b e => hk b (row_lt h.g2 b e).2 (by rw [h.g2o b e]; decide) (by rw [h.g2o b e]; decide)), g2o := fun b e => e1 _ _ (h.g2o b e) (by decide) (by decide)
              g3 := row_keep h.g3 (fun b e => hk b (row_lt h.g3 b e).2 (by rw [h.g3o b e]; decide) (by rw [h.g3o b e]; decide)), g3o := fun b e => e1 _ _ (h.g3o b e) (by decide) (by decide)
              lt := fun b hb => by
                rw [sz]
                by_cases c1 : some b = v1.ownBlock
                · exact (row_lt ho b c1).2
                · by_cases c2 : 0 < x.1.2.1.length ∧ ∃ o, x.2.1 = some ⟨b, o, none⟩
                  · obtain ⟨hp, o, e⟩ := c2
                    obtain ⟨b', o', e', hb', _⟩ := hL hp
                    rw [e] at e'
                    cases e'
                    exact hb'
                  · rw [if_neg c1, if_neg c2] at hb
                    exact Nat.lt_of_lt_of_le (h.lt b hb) f1.size }
    · by_cases c1 : some b = v1.ownBlock
      · simp [c1]
      · by_cases c2 : 0 < x.1.2.1.length ∧ ∃ o, x.2.1 = some ⟨b, o, none⟩
        · simp only [if_neg c1, if_pos c2]
          exact ⟨fun _ => by decide, fun _ => Or.inr (Or.inr c2)⟩
        · simp only [if_neg c1, if_neg c2]
          exact ⟨fun d => d.elim (hF b).1 (fun d => d.elim (fun d => absurd d c1) (fun d => absurd d c2)), fun d => Or.inl ((hF b).2 d)⟩
    · exact (f1.mono (fun b e => (hF b).2 (by rw [h.ro b e]; decide))).trans ((Fr.refl (fun b => b = rp) w1).set rp 0 _ rfl) (fun b e => Or.inl ((hF b).2 (by rw [e, h.b1]; decide)))
  · have ob := h.ro b hb
    have xnw : ∀ b, (0 < vs.length ∧ ∃ o, ad = some ⟨b, o, none⟩) → own b = 0 := fun b ⟨hp, o, e⟩ => own0 b (hxn b o hp e)
    have e1 : ∀ b j, own b = j → j ≠ 0 → (if (0 < vs.length ∧ ∃ o, ad = some ⟨b, o, none⟩) then 3 else own b) = j := fun b j e h0 => by
      rw [if_neg (fun c => by have := xnw b c; omega)]
      exact e
    have sz : (w.setCell ⟨b, i * 4 + 1, none⟩ (.slice ad vs.length c)).heap.size = w.heap.size := by simp [World.setCell]
    have hk : ∀ k, own k ≠ 2 → (w.setCell ⟨b, i * 4 + 1, none⟩ (.slice ad vs.length c)).heap[k]? = w.heap[k]? := fun k h2 => Below.heap_setCell _ _ _ _ (fun e => h2 (by have e : k = b := e; rw [e]; exact ob))
    obtain ⟨aT, cT, eT⟩ := row_slice h.row
    have hrow : (w.setCell ⟨b, i * 4 + 1, none⟩ (.slice ad vs.length c)).ownsRow 0 73 4 vT (m.set i ((x.1.1, vs, x.1.2.2), ad, c)).length (tv (m.set i ((x.1.1, vs, x.1.2.2), ad, c))) := by
      obtain ⟨b', cap, e⟩ := row_shape h.row (Nat.lt_of_le_of_lt (Nat.zero_le i) (List.getElem?_eq_some_iff.1 hx).1)
      have eb : b = b' := by
        rw [e] at hb
        simpa [Value.ownBlock] using hb
      subst eb
      rw [List.length_set, tv_set m i x ad c vs hx]
      have := h.row
      rw [e] at this ⊢
      exact row_put this _ _
    refine ⟨⟨fun b => if (0 < vs.length ∧ ∃ o, ad = some ⟨b, o, none⟩) then 3 else own b, m.set i ((x.1.1, vs, x.1.2.2), ad, c), vT, v2, v3, ?_, fun k => ?_⟩, ?_⟩
    · exact { blk := (hk _ (by rw [h.b1]; decide)).trans h.blk
              b1 := e1 _ _ h.b1 (by decide)
              row := hrow
              ro := fun k e => e1 _ _ (h.ro k e) (by decide)
              nd := by rw [List.map_set, h.nd]
              fl := fun y hy => by
                rcases List.mem_or_eq_of_mem_set hy with hy | hy
                · refine ⟨(h.fl y hy).1.at (by rw [sz]; exact Nat.le_refl _) (fun b o hp e => ?_), fun hp => ?_⟩
                  · obtain ⟨b', o', e', ho'⟩ := (h.fl y hy).2 hp
                    rw [e] at e'
                    cases e'
                    exact hk _ (by rw [ho']; decide)
                  · obtain ⟨b', o', e', ho'⟩ := (h.fl y hy).2 hp
                    exact ⟨b', o', e', e1 _ _ ho' (by decide)⟩
                · subst hy
                  refine ⟨hL.at (by rw [sz]; exact Nat.le_refl _) (fun b o hp e => hk _ (by have := xnw b ⟨hp, o, e⟩; omega)), fun hp => ?_⟩
                  obtain ⟨b, o, e, _⟩ := hL hp
                  exact ⟨b, o, e, by rw [if_pos ⟨hp, o, e⟩]⟩
              rt := (hk _ (by rw [h.r1]; decide)).trans h.rt
              rl := h.rl
              r1 := e1 _ _ h.r1 (by decide)
              g2 := row_keep h.g2 (fun b e => hk b (by rw [h.g2o b e]; decide)), g2o := fun b e => e1 _ _ (h.g2o b e) (by decide)
              g3 := row_keep h.g3 (fun b e => hk b (by rw [h.g3o b e]; decide)), g3o := fun b e => e1 _ _ (h.g3o b e) (by decide)
              lt := fun k hb' => by
                rw [sz]
                by_cases c2 : 0 < vs.length ∧ ∃ o, ad = some ⟨k, o, none⟩
                · obtain ⟨hp, o, e⟩ := c2
                  obtain ⟨b', o', e', hb', _⟩ := hL hp
                  rw [e] at e'
                  cases e'
                  exact hb'
                · rw [if_neg c2] at hb'
                  exact h.lt k hb' }
    · by_cases c2 : 0 < vs.length ∧ ∃ o, ad = some ⟨k, o, none⟩
      · simp only [if_pos c2]
        exact ⟨fun _ => by decide, fun _ => Or.inr c2⟩
      · simp only [if_neg c2]
        exact ⟨fun d => d.elim (hF k).1 (fun d => absurd d c2), fun d => Or.inl ((hF k).2 d)⟩
    · exact (Fr.refl F w).set b _ _ ((hF b).2 (by rw [ob]; decide))
theorem wr_regs (h : (wrO rp rb most grow).J F s w) : ∃ v2 v3, w.cell? ⟨rp, 2, none⟩ = some v2 ∧ w.cell? ⟨rp, 3, none⟩ = some v3 ∧ w.ownsRow 0 71 2 v2 s.rg.length (ev s.rg) ∧ w.ownsRow 0 71 2 v3 s.wt.length (ev s.wt) ∧ some rp ≠ v2.ownBlock ∧
    ∀ (l : List En) (v1 : Value) (w1 : World), Fr (fun b => some b = v2.ownBlock) w w1 → w1.ownsRow 0 71 2 v1 l.length (ev l) → (∀ b, some b = v1.ownBlock → some b = v2.ownBlock ∨ w.heap.size ≤ b) →
      (wrO rp rb most grow).J (fun b => F b ∨ some b = v1.ownBlock) { s with rg := l } (w1.setCell ⟨rp, 2, none⟩ v1) ∧ Fr F w (w1.setCell ⟨rp, 2, none⟩ v1) := by
  obtain ⟨own, m, vT, v2, v3, h, hF⟩ := h
  have h1 := h.blk
  have rne : some rp ≠ v2.ownBlock := fun e => by have := h.g2o rp e; rw [h.b1] at this; omega
  refine ⟨v2, v3, by simp [World.cell?, h1], by simp [World.cell?, h1], h.g2, h.g3, rne, fun l v1 w1 f1 ho hn => ?_⟩
  have hnw : ∀ b, some b = v1.ownBlock → own b = 5 ∨ own b = 0 := fun b e => (hn b e).elim (fun e => Or.inl (h.g2o b e)) (fun hl => Or.inr (Classical.byContradiction (fun c => by have := h.lt b c; omega)))
  have e1 : ∀ b j, own b = j → j ≠ 0 → j ≠ 5 → (if some b = v1.ownBlock then 5 else own b) = j := fun b j e h0 h2 => by
    rw [if_neg (fun c => by rcases hnw b c with c | c <;> omega)]
    exact e
  have sz : (w1.setCell ⟨rp, 2, none⟩ v1).heap.size = w1.heap.size := by simp [World.setCell]
  have hk : ∀ b, b < w.heap.size → own b ≠ 5 → own b ≠ 1 → (w1.setCell ⟨rp, 2, none⟩ v1).heap[b]? = w.heap[b]? := fun b hb h2 h1' => (Below.heap_setCell _ _ _ _ (fun e => h1' (by have e : b = rp := e; rw [e]; exact h.b1))).trans (f1.block b hb (fun e => h2 (h.g2o b e)))
  have hrp : ¬ some rp = v1.ownBlock := fun e => by rcases hnw rp e with c | c <;> rw [h.b1] at c <;> omega
  refine ⟨⟨fun b => if some b = v1.ownBlock then 5 else own b, m, vT, v1, v3, ?_, fun b => ?_⟩, ?_⟩
  · exact { blk := by
              have hq := (f1.block rp (lt_of_some h1) rne).trans h1
              simp only [World.setCell, Array.getElem?_modify, if_true, hq, Option.map_some]
              simp
            b1 := e1 _ _ h.b1 (by decide) (by decide)
            row := row_keep h.row (fun b e => hk b (row_lt h.row b e).2 (by rw [h.ro b e]; decide) (by rw [h.ro b e]; decide))
            ro := fun b e => e1 _ _ (h.ro b e) (by decide) (by decide)
            nd := h.nd
            fl := fun y hy => by
              refine ⟨(h.fl y hy).1.at (by rw [sz]; exact f1.size) (fun b o hp e => ?_), fun hp => ?_⟩
              · obtain ⟨b', o', e', ho'⟩ := (h.fl y hy).2 hp
                rw [e] at e'
                cases e'
                exact hk _ (h.lt _ (by rw [ho']; decide)) (by rw [ho']; decide) (by rw [ho']; decide)
              · obtain ⟨b', o', e', ho'⟩ := (h.fl y hy).2 hp
                exact ⟨b', o', e', e1 _ _ ho' (by decide) (by decide)⟩
            rt := (hk _ (lt_of_some h.rt) (by rw [h.r1]; decide) (by rw [h.r1]; decide)).trans h.rt
            rl := h.rl
            r1 := e1 _ _ h.r1 (by decide) (by decide)
            g2 := row_keep ho (fun b e => Below.heap_setCell _ _ _ _ (fun e' => hrp (by have e' : b = rp := e'; rw [← e']; exact e)))
            g2o := fun b e => by rw [if_pos e]
            g3 := row_keep h.g3 (fun b e => hk b (row_lt h.g3 b e).2 (by rw [h.g3o b e]; decide) (by rw [h.g3o b e]; decide)), g3o := fun b e => e1 _ _ (h.g3o b e) (by decide) (by decide)
            lt := fun b hb => by
              rw [sz]
              by_cases c1 : some b = v1.ownBlock
              · exact (row_lt ho b c1).2
              · rw [if_neg c1] at hb
                exact Nat.lt_of_lt_of_le (h.lt b hb) f1.size }
  · by_cases c1 : some b = v1.ownBlock
    · simp [c1]
    · simp [c1, hF b]
  · exact (f1.mono (fun b e => (hF b).2 (by rw [h.g2o b e]; decide))).trans ((Fr.refl (fun b => b = rp) w1).set rp 2 _ rfl) (fun b e => Or.inl ((hF b).2 (by rw [e, h.b1]; decide)))
end

end Go.Proofs.YtogknhogphkddaaGreat

/- How many words things have. -/
namespace Go.Proofs.YtogknhogphkddaaGreat
open Go.RowKit W Kp Stl

def usP (p : Int × Int) (t : Tw1) : Int × Int := if t.2.2.2 = true then p else if t.2.2.1 = true then (p.1, p.2 + (1 + t.2.1.length)) else (p.1 + (1 + t.2.1.length), p.2)
def usd (l : List Tw1) : Int × Int := l.foldl usP (0, 0)
theorem usd_snoc (l : List Tw1) (t : Tw1) : usd (l ++ [t]) = usP (usd l) t := by simp [usd, List.foldl_append]
theorem usd_bd (l : List Tw1) (h : ∀ t ∈ l, t.2.1.length ≤ 12) : 0 ≤ (usd l).1 ∧ (usd l).1 ≤ 13 * l.length ∧ 0 ≤ (usd l).2 ∧ (usd l).2 ≤ 13 * l.length := by
  have key : ∀ (l : List Tw1) (p : Int × Int), (∀ t ∈ l, t.2.1.length ≤ 12) → p.1 ≤ (l.foldl usP p).1 ∧ (l.foldl usP p).1 ≤ p.1 + 13 * l.length ∧ p.2 ≤ (l.foldl usP p).2 ∧ (l.foldl usP p).2 ≤ p.2 + 13 * l.length := by
    intro l
    induction l with
    | nil => intro p _; simp
    | cons t l ih =>
      intro p hl
      have h1 := ih (usP p t) (fun x hx => hl x (List.mem_cons_of_mem _ hx))
      have h2 := hl t (by simp)
      rw [List.foldl_cons]
      have h3 : p.1 ≤ (usP p t).1 ∧ (usP p t).1 ≤ p.1 + 13 ∧ p.2 ≤ (usP p t).2 ∧ (usP p t).2 ≤ p.2 + 13 := by
        unfold usP
        split
        · omega
        · split
          · dsimp only; omega
          · dsimp only; omega
      simp only [List.length_cons]
      omega
  have := key l (0, 0) h
  unfold usd
  dsimp only at this
  omega

end Go.Proofs.YtogknhogphkddaaGreat

/- The document's world: Used: a contract. -/
namespace Go.Proofs.YtogknhogphkddaaGreat
open Go.RowKit W Kp Stl

section
variable {rp rb : Nat} {most grow : Int} {F : Nat → Prop} {s : Wrs} {w : World}

set_option maxRecDepth 100000 in
set_option maxHeartbeats 1000000 in
theorem usedW_any (h : (wrO rp rb most grow).J F s w) (hT : ∀ t ∈ s.T, t.2.1.length ≤ 12) (hl : s.T.length ≤ 10000) :
    Calls Tryz.prog 11 #[.pointer (some ⟨rp, 0, none⟩)] w fun e w' => e = .returned (.tuple #[.int .i64 (usd s.T).1, .int .i64 (usd s.T).2]) ∧ Below w.heap.size w w' := by
  have HJ : Hid ((wrO rp rb most grow).J F s w) := h
  have HT : Hid (∀ t ∈ s.T, t.2.1.length ≤ 12) := hT
  clear h hT
  go_enter Tryz.func11, Tryz.ntmps11
  go_wp2_with fail
  go_loopw [4, 5, 6] (fun av bv iv wr => ∃ (j : Nat) (x y : Int), j ≤ s.T.length ∧ iv = .int .i64 j ∧ av = .int .i64 x ∧ bv = .int .i64 y ∧ Hid (usd (s.T.take j) = (x, y)) ∧ Below w.heap.size w wr) (fun _ _ iv _ => s.T.length - (intOf iv).toNat)
  case atStart => exact ⟨0, 0, 0, Nat.zero_le _, rfl, rfl, rfl, rfl, Below.refl _ _⟩
  case round =>
    obtain ⟨j, x, y, hj, rfl, rfl, rfl, HE, hb⟩ := hrel
    have hJ1 := (wrO rp rb most grow).below HJ.out hb
    obtain ⟨aT, cT, c0, _, cx⟩ := wr_things hJ1
    have bd := usd_bd (s.T.take j) (fun t ht => HT.out t (List.mem_of_mem_take ht))
    rw [HE.out] at bd
    have hl2 : (s.T.take j).length = j := by rw [List.length_take]; omega
    rw [hl2] at bd
    dsimp only at bd
    obtain ⟨bd1, bd2, bd3, bd4⟩ := bd
    by_cases hlt : j < s.T.length
    · obtain ⟨t, ht⟩ : ∃ t, s.T[j]? = some t := ⟨_, List.getElem?_eq_getElem hlt⟩
      obtain ⟨b, ad, cp, rfl, x0, x1, x2, x3, _⟩ := cx j t ht
      have hf := HT.out t (List.mem_of_getElem? ht)
      have HS : Hid (usd (s.T.take (j + 1)) = usP (x, y) t) := by
        show _ = _
        rw [List.take_succ_eq_append_getElem hlt, usd_snoc, HE.out]
        congr 1
        rw [List.getElem?_eq_getElem hlt] at ht
        simpa using ht
      obtain ⟨kd, fs, od, dd⟩ := t
      dsimp only at x0 x1 x2 x3 hf
      have j0 : (0 : Int) ≤ (j : Int) := by omega
      have j1 : (j : Int) < (s.T.length : Int) := by omega
      have HB : Hid (Below w.heap.size w (wr.alloc (.cells #[.int .i64 kd, .slice ad fs.length cp, .bool od, .bool dd] 73))) := hb.alloc hb.size _
      clear hJ1 cx hb ht
      cases dd
      · cases od
        · have HS2 : Hid (usd (s.T.take (j + 1)) = (x + (1 + fs.length), y)) := HS.out
          go_wp2_with fail
          go_roundw
          case rel => exact ⟨j + 1, x + (1 + fs.length), y, by omega, by go_num, by go_num, rfl, HS2, HB.out⟩
          case measure => simp [intOf]; omega
        · have HS2 : Hid (usd (s.T.take (j + 1)) = (x, y + (1 + fs.length))) := HS.out
          go_wp2_with fail
          go_roundw
          case rel => exact ⟨j + 1, x, y + (1 + fs.length), by omega, by go_num, rfl, by go_num, HS2, HB.out⟩
          case measure => simp [intOf]; omega
      · have HS2 : Hid (usd (s.T.take (j + 1)) = (x, y)) := HS.out
        go_wp2_with fail
        go_roundw
        case rel => exact ⟨j + 1, x, y, by omega, by go_num, rfl, rfl, HS2, HB.out⟩
        case measure => simp [intOf]; omega
    · obtain rfl : j = s.T.length := by omega
      rw [List.take_length] at HE
      clear hJ1 cx
      go_wp2_with fail
      go_ret2
      rw [HE.out]
      exact ⟨rfl, hb⟩
end

end Go.Proofs.YtogknhogphkddaaGreat

/- What the functions of package arena that only look return, at whatever place: contracts, over the seat's own translation; nothing that was in memory turns. -/
namespace Go.Proofs.YtogknhogphkddaaGreat
open Go.RowKit W

def hB (b u a : Int) : Bool := decide (b ≤ a ∧ a < b + u)
set_option maxRecDepth 100000 in
set_option maxHeartbeats 400000 in
theorem bounds_any {p q N O y g : Nat} {ws : List Int} (w : World) (h : At w p q N O y g ws) :
    Calls Tryz.prog 57 #[.pointer (some ⟨p, 0, none⟩)] w fun e w' => e = .returned (.tuple #[.int .i64 0, .int .i64 N]) ∧ Below w.heap.size w w' := by
  obtain ⟨c0, c1, c2, c3, c4, c5, c6⟩ := h.cells
  go_enter Tryz.func57, Tryz.ntmps57
  go_wp2_with fail
  go_quiet (fail)
  go_wp2_with fail
  go_ret2
  exact ⟨rfl, below_drewN (Below.refl _ _) _⟩

end Go.Proofs.YtogknhogphkddaaGreat

/- What New, Free, Clear, Cut and take of package arena do: contracts, over the seat's own translation; no block but the arena's turns. -/
namespace Go.Proofs.YtogknhogphkddaaGreat
open Go.RowKit W

theorem info64A : (Tryz.prog.info? 2).map (fun i => (i.zero, i.size, i.bytes)) = some (some (.int .i64 0), 1, 8) := by kernel_rfl

theorem made_row {w : World} {b k n : Nat} (h : w.ownsRow b 2 1 (.slice (some ⟨k, 0, none⟩) n n) n (madeCells (Value.int .i64 0).cells (n * 1)).toList) :
    w.heap[k]? = some (.cells ((List.replicate n (0 : Int)).map (Value.int .i64)).toArray 2 (0, 0)) := by
  obtain ⟨h1, h2⟩ := h
  rcases h2 with ⟨e, _⟩ | ⟨k', cap, cur, hv, hb, hh, h3, h4, h5, h6⟩
  · cases e
  · cases hv
    rw [hh]
    have : cur.toList = (List.replicate n (0 : Int)).map (Value.int .i64) := by
      rw [← List.take_of_length_le (l := cur.toList) (i := n * 1) (by simp; omega), h6]
      show (madeCells #[Value.int .i64 0] (n * 1)).toList = _
      rw [toList_madeCells_one]
      simp
    rw [← this]

theorem new_top {w : World} {k : Nat} (o : Obj) (h : w.heap.size = k) : (w.alloc o).heap[k]? = some o := by
  subst h; exact heap_alloc_new _ _

theorem after_make {w w1 : World} {a b : Value} {t : TypeId} (hg : (w.alloc (.cells #[a, b] t)).grownBy w1 none) :
    w1.cell? ⟨w.heap.size, 0, none⟩ = some a ∧ w1.cell? ⟨w.heap.size, 1, none⟩ = some b ∧ w1.frozen? ⟨w.heap.size, 0, none⟩ = false ∧ w1.frozen? ⟨w.heap.size, 1, none⟩ = false ∧ w.heap.size < w1.heap.size := by
  have hb := hg.block w.heap.size (by simp) (by simp)
  have hz := hg.size
  have e : (w.alloc (.cells #[a, b] t)).heap[w.heap.size]? = some (.cells #[a, b] t) := heap_alloc_new _ _
  rw [e] at hb
  refine ⟨?_, ?_, ?_, ?_, by simp at hz; omega⟩ <;> simp [World.cell?, World.frozen?, hb]

set_option maxRecDepth 100000 in
set_option maxHeartbeats 400000 in
theorem new_yes (n o : Int) (w : World) (h0 : 16 ≤ n) (h1 : n ≤ 256) (h2 : 0 ≤ o) (h3 : o ≤ 1024) :
    Calls Tryz.prog 56 #[.int .i64 n, .int .i64 o] w fun e w' => ∃ p q, e = .returned (.tuple #[.pointer (some ⟨p, 0, none⟩), .agg #[.int .i64 0, .int .i64 0]]) ∧ At w' p q n.toNat o.toNat 0 0 (List.replicate (n.toNat + o.toNat) 0) ∧ w.heap.size ≤ p ∧ w.heap.size ≤ q ∧ Below w.heap.size w w' := by
  obtain ⟨n, rfl⟩ := Int.eq_ofNat_of_zero_le (show 0 ≤ n by omega)
  obtain ⟨o, rfl⟩ := Int.eq_ofNat_of_zero_le h2
  simp only [Int.toNat_natCast]
  obtain ⟨i0, hi, hz0, hz1, hz2⟩ := info_parts info64A
  go_enter Tryz.func56, Tryz.ntmps56
  go_wp2_with (at_make; refine wpList_make_full _ rfl _ _ 118 rfl w.heap.size 2 i0 (.int .i64 0) 1 Tryz.underlying118 hi hz0 hz1 .i64 .i64 _ _ (n + o) rfl rfl (by omega) (by omega) (by rw [hz2]; omega) (by unfold maxLen; omega) (by simp) ?_; intro w1 hown hgrow; obtain ⟨c0, c1, f0, f1, hz⟩ := after_make hgrow)
  have hr := made_row hown
  simp only [World.size_alloc] at hr
  have hlt := lt_of_some hr
  refine bodyPost_ret (v := .tuple #[.pointer (some ⟨w1.heap.size, 0, none⟩), .agg #[.int .i64 0, .int .i64 0]]) (by simp [results, Tryz.results56, go_sem, c0, c1, hz]) rfl ⟨w1.heap.size, w.heap.size + 1, rfl, ⟨?_, ?_, by simp, by omega, by omega, by omega, by omega, by omega⟩, by omega, by omega, ?_⟩
  · exact new_top _ (by simp [World.setCell])
  · refine (Below.heap_alloc _ _ _ (by simp [World.setCell]; omega)).trans ?_
    rw [Below.heap_setCell _ _ _ _ (by simp), Below.heap_setCell _ _ _ _ (by simp)]
    exact hr
  · refine Below.alloc (Below.setCell (Below.setCell ?_ ?_ _) ?_ _) ?_ _
    · exact ((Below.refl _ _).alloc (Nat.le_refl _) _).grown hgrow (by simp) (fun _ h => by cases h)
    · exact Nat.le_refl _
    · exact Nat.le_refl _
    · simp [World.setCell]; omega

set_option maxRecDepth 100000 in
set_option maxHeartbeats 400000 in
theorem new_no (n o : Int) (w : World) (h : n < 16 ∨ 256 < n ∨ o < 0 ∨ 1024 < o) :
    Calls Tryz.prog 56 #[.int .i64 n, .int .i64 o] w fun e w' => e = .returned (.tuple #[.pointer none, .agg #[.int .i64 1, .int .i64 (-1)]]) ∧ Below w.heap.size w w' := by
  by_cases h1 : n < 16
  · go_enter Tryz.func56, Tryz.ntmps56
    go_wp2_with fail
    exact bodyPost_ret (v := .tuple #[.pointer none, .agg #[.int .i64 1, .int .i64 (-1)]]) (by simp [results, Tryz.results56, go_sem]) rfl ⟨rfl, (Below.refl _ _).alloc (Nat.le_refl _) _⟩
  by_cases h2 : 256 < n
  · go_enter Tryz.func56, Tryz.ntmps56
    go_wp2_with fail
    exact bodyPost_ret (v := .tuple #[.pointer none, .agg #[.int .i64 1, .int .i64 (-1)]]) (by simp [results, Tryz.results56, go_sem]) rfl ⟨rfl, (Below.refl _ _).alloc (Nat.le_refl _) _⟩
  by_cases h3 : o < 0
  · go_enter Tryz.func56, Tryz.ntmps56
    go_wp2_with fail
    exact bodyPost_ret (v := .tuple #[.pointer none, .agg #[.int .i64 1, .int .i64 (-1)]]) (by simp [results, Tryz.results56, go_sem]) rfl ⟨rfl, (Below.refl _ _).alloc (Nat.le_refl _) _⟩
  have h4 : 1024 < o := by omega
  go_enter Tryz.func56, Tryz.ntmps56
  go_wp2_with fail
  exact bodyPost_ret (v := .tuple #[.pointer none, .agg #[.int .i64 1, .int .i64 (-1)]]) (by simp [results, Tryz.results56, go_sem]) rfl ⟨rfl, (Below.refl _ _).alloc (Nat.le_refl _) _⟩

end Go.Proofs.YtogknhogphkddaaGreat

/- What Make of package arena does: a contract, over the seat's own translation; no block but the arena's turns. -/
namespace Go.Proofs.YtogknhogphkddaaGreat
open Go.RowKit W

def fil (ws : List Int) (y : Nat) (hd : Int) : Nat → List Int
  | 0 => ws.set y hd
  | k + 1 => (fil ws y hd k).set (y + 1 + k) 2

end Go.Proofs.YtogknhogphkddaaGreat

/- What Move of package arena does: a contract, over the seat's own translation; no block but the arena's words turns. -/
namespace Go.Proofs.YtogknhogphkddaaGreat
open Go.RowKit W

def Mv (w w' : World) (g : Nat) (cur : List Value) (off : Nat) (cs : List Value) : Prop :=
  (cs = [] ∧ w' = w) ∨ w' = w.setRow g (splice cur off cs).toArray

theorem step_copy_mv {P : Program} {ops : Array Oper} {o : Oper} {a : Act} {w : World} {K : Act → World → Prop} {Q : Exit → Act → World → Prop} {E : Prop} (hgd : o.guard = none) (d s : Operand) (dT sT elem : TypeId)
    (ho : o.op = .call { callee := .builtin .copy, args := #[d, s], argTypes := #[dT, sT] }) (hu : P.underlying dT = some (.slice elem)) (hsz : (P.info? elem).map (·.size) = some 1)
    (dp sp : Option Addr) (dLen dCap sLen sCap : Nat) (hd : a.eval d = .slice dp dLen dCap) (hs : a.eval s = .slice sp sLen sCap)
    (g off : Nat) (cur : List Value) (t : TypeId) (hg : w.heap[g]? = some (.cells cur.toArray t (0, 0))) (cs : List Value) (hn : cs.length = Nat.min sLen dLen)
    (hpos : 0 < cs.length → dp = some ⟨g, off, none⟩ ∧ ∃ ad, sp = some ad ∧ ∀ j v, cs[j]? = some v → w.cell? (ad.add j) = some v)
    (hfit : off + cs.length ≤ cur.length) (h1 : ∀ v ∈ cs, v.oneCell' = true)
    (h : ∀ w', Mv w w' g cur off cs → K (a.put o.dst (goInt cs.length)) w') :
    if Region.wanted o (yielded ops a.tmps) = true then Oper.wp P o a w K Q else E := by
  rw [if_pos (show Region.wanted o (yielded ops a.tmps) = true by simp [Region.wanted, hgd])]
  rcases Nat.eq_zero_or_pos cs.length with h0 | h0
  · have ec : cs = [] := List.eq_nil_of_length_eq_zero h0
    subst ec
    have hrun := run_copy_none (P := P) w dT sT o.type elem dp sp dLen dCap sLen sCap hu hsz (by simpa using hn.symm)
    unfold Oper.wp
    simp [execOp, ho, resolve, invoke, builtin, hd, hs, hrun, Result.andThen]
    exact h w (Or.inl ⟨rfl, rfl⟩)
  · obtain ⟨ed, ad, es, hsrc⟩ := hpos h0
    subst ed es
    have hrun := run_copy_row (P := P) w dT sT o.type elem g off dLen dCap ad sLen sCap cur.toArray t cs hu hsz hg hn hsrc (by simpa using hfit) h1
    unfold Oper.wp
    simp [execOp, ho, resolve, invoke, builtin, hd, hs, hrun, Result.andThen]
    exact h _ (Or.inr (by simp [splice]))

theorem size64 : (Tryz.prog.info? 2).map (·.size) = some 1 := by kernel_rfl

theorem ints_one (l : List Int) : ∀ v ∈ l.map (Value.int .i64), v.oneCell' = true := by
  intro v hv
  obtain ⟨x, _, rfl⟩ := List.mem_map.1 hv
  rfl

theorem splice_map (ws cs : List Int) (t : Nat) : splice (ws.map (Value.int .i64)) t (cs.map (Value.int .i64)) = (splice ws t cs).map (Value.int .i64) := by
  simp [splice, List.map_take, List.map_drop]

end Go.Proofs.YtogknhogphkddaaGreat

/- What Copy of package arena does: a contract, over the seat's own translation; no block but the arena's turns. -/
namespace Go.Proofs.YtogknhogphkddaaGreat
open Go.RowKit W

def endA (N y g : Nat) (a : Int) : Int := if hB 0 y a = true then (y : Int) else (N : Int) + g
end Go.Proofs.YtogknhogphkddaaGreat

/- What Words of package arena answers: a contract, over the seat's own translation; nothing that was in memory turns. -/
namespace Go.Proofs.YtogknhogphkddaaGreat
open Go.RowKit W

end Go.Proofs.YtogknhogphkddaaGreat

/- What Things of package arena answers: contracts of it, of the looks that it hands over, and of what shows them each place, over the seat's own translation; nothing that was in memory turns. -/
namespace Go.Proofs.YtogknhogphkddaaGreat
open Go.RowKit W

theorem infoInt : (Tryz.prog.info? 3).map (fun i => (i.zero, i.size, i.bytes)) = some (some (.int .i64 0), 1, 8) := by kernel_rfl

end Go.Proofs.YtogknhogphkddaaGreat

/- What Things of package arena answers: its own contract, over the seat's own translation; nothing that was in memory turns. -/
namespace Go.Proofs.YtogknhogphkddaaGreat
open Go.RowKit W


end Go.Proofs.YtogknhogphkddaaGreat

/- The document's comparisons of two lists answer true where both hold the same numbers: contracts, over the seat's own translation; nothing that was in memory turns. -/
namespace Go.Proofs.YtogknhogphkddaaGreat
open Go.RowKit W

end Go.Proofs.YtogknhogphkddaaGreat

/- The statements on arenas begin by a few steps in a small arena: they answer as the statements ask, in whatever memory; nothing that was in memory turns. -/
namespace Go.Proofs.YtogknhogphkddaaGreat
open Go.RowKit W

def B1 : List Int := fil (List.replicate 24 0) 0 33 2
theorem e16 : endA 16 16 0 0 = 16 := by decide +kernel
end Go.Proofs.YtogknhogphkddaaGreat

/- Make and Copy of package arena in one contract each, whatever they are asked; what words are where a thing was made. -/
namespace Go.Proofs.YtogknhogphkddaaGreat
open Go.RowKit W

end Go.Proofs.YtogknhogphkddaaGreat
