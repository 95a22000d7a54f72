/- Joined: Wr1, Gr1, Vw3. -/
import Derived.Test.YtnalfnlmaallmaaGreatJ10
import Derived.Test.YtnalfnlmaallmaaGreatJ09
import Derived.Deep.RegionHeld3
namespace Go.Proofs.YtnalfnlmaallmaaGreat
open Go.RowKit W Kp Stl
abbrev Tw1 := Int × List (Int × Int) × Bool × Bool
abbrev Tnd := Tw1 × Option Addr × Nat
def tv (m : List Tnd) : List Value := m.flatMap fun x => [.int .i64 x.1.1, .slice x.2.1 x.1.2.1.length x.2.2, .bool x.1.2.2.1, .bool x.1.2.2.2]
theorem tv_append (a b : List Tnd) : tv (a ++ b) = tv a ++ tv b := by simp [tv]
theorem tv_get : ∀ (l : List Tnd) (i : Nat) (x : Tnd), l[i]? = some x -> (tv l)[i * 4]? = some (.int .i64 x.1.1) /\ (tv l)[i * 4 + 1]? = some (.slice x.2.1 x.1.2.1.length x.2.2) /\ (tv l)[i * 4 + 2]? = some (.bool x.1.2.2.1) /\ (tv l)[i * 4 + 3]? = some (.bool x.1.2.2.2)
 | [], i, x, h => by simp at h
 | e :: r, 0, x, h => by
  simp at h
  subst h
  simp [tv]
 | e :: r, i + 1, x, h => by
  have h2 := tv_get r i x (by simpa using h)
  have e1 : (tv (e :: r)) = .int .i64 e.1.1 :: .slice e.2.1 e.1.2.1.length e.2.2 :: .bool e.1.2.2.1 :: .bool e.1.2.2.2 :: tv r := by simp [tv]
  rw [e1, show (i + 1) * 4 = i * 4 + 1 + 1 + 1 + 1 by omega]
  simpa using h2
theorem tv_set : ∀ (l : List Tnd) (i : Nat) (x : Tnd) (ad : Option Addr) (c : Nat) (vs : List (Int × Int)), l[i]? = some x -> tv (l.set i ((x.1.1, vs, x.1.2.2), ad, c)) = (tv l).set (i * 4 + 1) (.slice ad vs.length c)
 | [], _, _, _, _, _, _ => rfl
 | e :: l, 0, x, ad, c, vs, h => by
  simp at h
  subst h
  simp [tv]
 | e :: l, i + 1, x, ad, c, vs, h => by
  have ih := tv_set l i x ad c vs (by simpa using h)
  have e1 : (tv (e :: l)) = .int .i64 e.1.1 :: .slice e.2.1 e.1.2.1.length e.2.2 :: .bool e.1.2.2.1 :: .bool e.1.2.2.2 :: tv l := by simp [tv]
  have e2 : (tv (e :: l.set i ((x.1.1, vs, x.1.2.2), ad, c))) = .int .i64 e.1.1 :: .slice e.2.1 e.1.2.1.length e.2.2 :: .bool e.1.2.2.1 :: .bool e.1.2.2.2 :: tv (l.set i ((x.1.1, vs, x.1.2.2), ad, c)) := by simp [tv]
  rw [List.set_cons_succ, e2, e1, ih, show (i + 1) * 4 + 1 = i * 4 + 1 + 1 + 1 + 1 + 1 by omega]
  simp
structure Wrs where
  T : List Tw1
  rs : List (Int × Int)
  rg : List En
  wt : List En
structure Mr (rp rb : Nat) (most grow : Int) (own : Nat -> Nat) (s : Wrs) (m : List Tnd) (vT v2 v3 : Value) (w : World) : Prop where
  blk : w.heap[rp]? = some (.cells #[vT, .slice (some ⟨rb, 0, none⟩) 12 12, v2, v3, .int .i64 most, .int .i64 grow] 121 (0, 0))
  b1 : own rp = 1
  row : w.ownsRow 0 126 4 vT m.length (tv m)
  ro : ∀ b, some b = vT.ownBlock -> own b = 2
  nd : m.map (fun x => x.1) = s.T
  fl : ∀ x ∈ m, Lp w x.2.1 x.1.2.1 /\ (0 < x.1.2.1.length -> ∃ b o, x.2.1 = some ⟨b, o, none⟩ /\ own b = 3)
  rt : w.heap[rb]? = some (.cells (ev s.rs).toArray 100 (0, 0))
  rl : s.rs.length = 12
  r1 : own rb = 4
  g2 : w.ownsRow 0 124 2 v2 s.rg.length (ev s.rg)
  g2o : ∀ b, some b = v2.ownBlock -> own b = 5
  g3 : w.ownsRow 0 124 2 v3 s.wt.length (ev s.wt)
  g3o : ∀ b, some b = v3.ownBlock -> own b = 6
  lt : ∀ b, own b ≠ 0 -> b < w.heap.size
section
variable {rp rb : Nat} {most grow : Int} {own : Nat -> Nat} {s : Wrs} {m : List Tnd} {vT v2 v3 : Value} {w w' : World}
theorem Lp.at {ad : Option Addr} {l : List (Int × Int)} (h : Lp w ad l) (hs : w.heap.size <= w'.heap.size) (hk : ∀ b o, 0 < l.length -> ad = some ⟨b, o, none⟩ -> w'.heap[b]? = w.heap[b]?) : Lp w' ad l :=
 h.keep hs (fun hp a e => by
  obtain ⟨b, o, e', hb, _⟩ := h hp
  rw [e] at e'
  cases e'
  exact hk _ _ hp e)
theorem Mr.but (h : Mr rp rb most grow own s m vT v2 v3 w) (hs : w.heap.size <= w'.heap.size) (hk : ∀ b, b < w.heap.size -> own b ≠ 0 -> w'.heap[b]? = w.heap[b]?) : Mr rp rb most grow own s m vT v2 v3 w' :=
  { blk := (hk _ (lt_of_some h.blk) (by rw [h.b1]; decide)).trans h.blk, b1 := h.b1
    row := row_keep h.row (fun b e => hk b (row_lt h.row b e).2 (by rw [h.ro b e]; decide)), ro := h.ro, nd := h.nd
    fl := fun x hx => ⟨(h.fl x hx).1.at hs (fun b o hp e => by
      obtain ⟨b', o', e', ho⟩ := (h.fl x hx).2 hp
      rw [e] at e'
      cases e'
      exact hk _ (h.lt _ (by rw [ho]; decide)) (by rw [ho]; decide)), (h.fl x hx).2⟩
    rt := (hk _ (lt_of_some h.rt) (by rw [h.r1]; decide)).trans h.rt, rl := h.rl, r1 := h.r1
    g2 := row_keep h.g2 (fun b e => hk b (row_lt h.g2 b e).2 (by rw [h.g2o b e]; decide)), g2o := h.g2o
    g3 := row_keep h.g3 (fun b e => hk b (row_lt h.g3 b e).2 (by rw [h.g3o b e]; decide)), g3o := h.g3o
    lt := fun b hb => Nat.lt_of_lt_of_le (h.lt b hb) hs }
end
def wrO (rp rb : Nat) (most grow : Int) : Ob Wrs where
  J F s w := ∃ own m vT v2 v3, Mr rp rb most grow own s m vT v2 v3 w /\ ∀ b, F b ↔ own b ≠ 0
  lt := by
    rintro F s w ⟨own, m, vT, v2, v3, h, hF⟩ b hb
    exact h.lt b ((hF b).1 hb)
  keep := by
    rintro F s w w' ⟨own, m, vT, v2, v3, h, hF⟩ hs hk
    exact ⟨own, m, vT, v2, v3, h.but hs (fun b _ hb => hk b ((hF b).2 hb)), hF⟩
section
variable {rp rb : Nat} {most grow : Int} {F : Nat -> Prop} {s : Wrs} {w w' : World}
theorem ev_root : ∀ (l : List (Int × Int)) (i : Nat) (x : Int × Int), ev (l.set i x) = ((ev l).set (i * 2) (.int .i64 x.1)).set (i * 2 + 1) (.int .i64 x.2)
 | [], _, _ => rfl
 | e :: l, 0, x => by simp [ev]
 | e :: l, i + 1, x => by
  have ih := ev_root l i x
  have e1 : ev (e :: l) = .int .i64 e.1 :: .int .i64 e.2 :: ev l := by simp [ev]
  have e2 : ev ((e :: l).set (i + 1) x) = .int .i64 e.1 :: .int .i64 e.2 :: ev (l.set i x) := by simp [ev]
  rw [e1, e2, ih, show (i + 1) * 2 = i * 2 + 1 + 1 by omega]
  simp
theorem wr_cells (h : (wrO rp rb most grow).J F s w) : w.cell? ⟨rp, 1, none⟩ = some (.slice (some ⟨rb, 0, none⟩) 12 12) /\ w.cell? ⟨rp, 4, none⟩ = some (.int .i64 most) /\ w.cell? ⟨rp, 5, none⟩ = some (.int .i64 grow) /\ rp < w.heap.size /\ rb < w.heap.size /\ (∀ o, w.frozen? ⟨rp, o, none⟩ = false) /\ s.rs.length = 12 /\
  (∀ i, i < 12 -> w.cell? ⟨rb, i * 2, none⟩ = some (.int .i64 (s.rs.getD i (0, 0)).1) /\ w.cell? ⟨rb, i * 2 + 1, none⟩ = some (.int .i64 (s.rs.getD i (0, 0)).2) /\ w.frozen? ⟨rb, i * 2, none⟩ = false /\ w.frozen? ⟨rb, i * 2 + 1, none⟩ = false) := by
 obtain ⟨own, m, vT, v2, v3, h, hF⟩ := h
 have h1 := h.blk
 have h2 := h.rt
 have hl := h.rl
 refine ⟨by simp [World.cell?, h1], by simp [World.cell?, h1], by simp [World.cell?, h1], lt_of_some h1, lt_of_some h2, fun o => by simp [World.frozen?, h1], hl, fun i hi => ?_⟩
 obtain ⟨e1, e2⟩ := ev_get s.rs i (by omega)
 refine ⟨?_, ?_, by simp [World.frozen?, h2], by simp [World.frozen?, h2]⟩
 ·simp [World.cell?, h2]
  simpa using e1
 ·simp [World.cell?, h2]
  simpa using e2
theorem wr_root (h : (wrO rp rb most grow).J F s w) (i : Nat) (x : Int × Int) : (wrO rp rb most grow).J F { s with rs := s.rs.set i x } ((w.setCell ⟨rb, i * 2, none⟩ (.int .i64 x.1)).setCell ⟨rb, i * 2 + 1, none⟩ (.int .i64 x.2)) /\ Tn F w F ((w.setCell ⟨rb, i * 2, none⟩ (.int .i64 x.1)).setCell ⟨rb, i * 2 + 1, none⟩ (.int .i64 x.2)) := by
  obtain ⟨own, m, vT, v2, v3, h, hF⟩ := h
  have fr : Fr (fun b => b = rb) w ((w.setCell ⟨rb, i * 2, none⟩ (.int .i64 x.1)).setCell ⟨rb, i * 2 + 1, none⟩ (.int .i64 x.2)) := ((Fr.refl (fun b => b = rb) w).set rb _ _ rfl).set rb _ _ rfl
  refine ⟨⟨own, m, vT, v2, v3, ?_, hF⟩, ⟨fr.mono (fun b e => (hF b).2 (by rw [e, h.r1]; decide)), fun _ h => Or.inl h⟩⟩
  generalize hw : (w.setCell ⟨rb, i * 2, none⟩ (.int .i64 x.1)).setCell ⟨rb, i * 2 + 1, none⟩ (.int .i64 x.2) = w' at fr
  have hk : ∀ b, b < w.heap.size -> own b ≠ 4 -> w'.heap[b]? = w.heap[b]? := fun b hb hn => fr.block b hb (fun e => hn (by rw [e]; exact h.r1))
  exact { blk := (hk _ (lt_of_some h.blk) (by rw [h.b1]; decide)).trans h.blk, b1 := h.b1
          row := row_keep h.row (fun b e => hk b (row_lt h.row b e).2 (by rw [h.ro b e]; decide)), ro := h.ro, nd := h.nd
          fl := fun y hy => ⟨(h.fl y hy).1.at fr.size (fun b o hp e => by
            obtain ⟨b', o', e', ho⟩ := (h.fl y hy).2 hp
            rw [e] at e'
            cases e'
            exact hk _ (h.lt _ (by rw [ho]; decide)) (by rw [ho]; decide)), (h.fl y hy).2⟩
          rt := by
            have hq := h.rt
            rw [<- hw]
            simp only [World.setCell, Array.getElem?_modify, if_true, hq, Option.map_some]
            simp [ev_root]
          rl := by rw [List.length_set]; exact h.rl
          r1 := h.r1
          g2 := row_keep h.g2 (fun b e => hk b (row_lt h.g2 b e).2 (by rw [h.g2o b e]; decide)), g2o := h.g2o
          g3 := row_keep h.g3 (fun b e => hk b (row_lt h.g3 b e).2 (by rw [h.g3o b e]; decide)), g3o := h.g3o
          lt := fun b hb => Nat.lt_of_lt_of_le (h.lt b hb) fr.size }
theorem wr_things (h : (wrO rp rb most grow).J F s w) : ∃ aT cT, w.cell? ⟨rp, 0, none⟩ = some (.slice aT s.T.length cT) /\ (0 < s.T.length -> ∃ b, aT = some ⟨b, 0, none⟩ /\ b ≠ rp /\ b ≠ rb) /\ ∀ (i : Nat) (x : Tw1), s.T[i]? = some x -> ∃ b ad cp, aT = some ⟨b, 0, none⟩ /\ w.cell? ⟨b, i * 4, none⟩ = some (.int .i64 x.1) /\ w.cell? ⟨b, i * 4 + 1, none⟩ = some (.slice ad x.2.1.length cp) /\ w.cell? ⟨b, i * 4 + 2, none⟩ = some (.bool x.2.2.1) /\ w.cell? ⟨b, i * 4 + 3, none⟩ = some (.bool x.2.2.2) /\ Lp w ad x.2.1 /\ ∀ fb fo, 0 < x.2.1.length -> ad = some ⟨fb, fo, none⟩ -> fb ≠ rb /\ fb ≠ rp /\ F fb := by
 obtain ⟨own, m, vT, v2, v3, h, hF⟩ := h
 have h1 := h.blk
 obtain ⟨aT, cT, eT⟩ := row_slice h.row
 have el : m.length = s.T.length := by rw [<- h.nd]; simp
 refine ⟨aT, cT, by simp [World.cell?, h1, eT, el], fun hp => ?_, fun i x hx => ?_⟩
 ·obtain ⟨b, cap, e⟩ := row_shape h.row (by omega)
  rw [eT] at e
  cases e
  have hb := h.ro b (by rw [eT]; rfl)
  exact ⟨b, rfl, fun e => by rw [e, h.b1] at hb; omega, fun e => by rw [e, h.r1] at hb; omega⟩
 ·rw [<- h.nd] at hx
  obtain ⟨y, hy, rfl⟩ : ∃ y, m[i]? = some y /\ y.1 = x := by
   simp at hx
   obtain ⟨a, b, c⟩ := hx
   exact ⟨_, c, rfl⟩
  have hi : i < m.length := (List.getElem?_eq_some_iff.1 hy).1
  rcases h.row.2 with ⟨_, h0⟩ | ⟨g, cap', cur, hv, hb, hh, h3, h4, h5, h6⟩
  ·omega
  ·rw [eT] at hv
   simp at hv
   obtain ⟨rfl, _, rfl⟩ := hv
   obtain ⟨k0, k1, k2, k3⟩ := tv_get m i y hy
   rw [<- h6, List.getElem?_take_of_lt (by omega)] at k0 k1 k2 k3
   refine ⟨g, y.2.1, y.2.2, rfl, ?_, ?_, ?_, ?_, (h.fl y (List.mem_of_getElem? hy)).1, fun fb fo hp e => ?_⟩
   ·simp [World.cell?, hh]
    simpa using k0
   ·simp [World.cell?, hh]
    simpa using k1
   ·simp [World.cell?, hh]
    simpa using k2
   ·simp [World.cell?, hh]
    simpa using k3
   ·obtain ⟨b', o', e', ho⟩ := (h.fl y (List.mem_of_getElem? hy)).2 hp
    rw [e] at e'
    cases e'
    exact ⟨fun c => by rw [c, h.r1] at ho; omega, fun c => by rw [c, h.b1] at ho; omega, (hF _).2 (by rw [ho]; decide)⟩
theorem wr_row (h : (wrO rp rb most grow).J F s w) : ∃ m vT, m.map (fun x => x.1) = s.T /\ w.cell? ⟨rp, 0, none⟩ = some vT /\ w.ownsRow 0 126 4 vT m.length (tv m) /\ (some rp ≠ vT.ownBlock /\ some rb ≠ vT.ownBlock) /\ (∀ b, some b = vT.ownBlock -> F b) /\
    -- one more thing
    (∀ (x : Tnd) (v1 : Value) (w1 : World), Fr (fun b => some b = vT.ownBlock) w w1 -> w1.ownsRow 0 126 4 v1 (m ++ [x]).length (tv (m ++ [x])) -> (∀ b, some b = v1.ownBlock -> some b = vT.ownBlock \/ w.heap.size <= b) -> Lp w1 x.2.1 x.1.2.1 -> (∀ b o, 0 < x.1.2.1.length -> x.2.1 = some ⟨b, o, none⟩ -> ¬ F b /\ some b ≠ v1.ownBlock) ->
      (wrO rp rb most grow).J (fun b => F b \/ some b = v1.ownBlock \/ (0 < x.1.2.1.length /\ ∃ o, x.2.1 = some ⟨b, o, none⟩)) { s with T := s.T ++ [x.1] } (w1.setCell ⟨rp, 0, none⟩ v1) /\ Fr F w (w1.setCell ⟨rp, 0, none⟩ v1)) /\
    -- other values of a thing
    (∀ (i : Nat) (x : Tnd) (ad : Option Addr) (c : Nat) (vs : List (Int × Int)) (b : Nat), m[i]? = some x -> some b = vT.ownBlock -> Lp w ad vs -> (∀ b o, 0 < vs.length -> ad = some ⟨b, o, none⟩ -> ¬ F b) ->
      (wrO rp rb most grow).J (fun b => F b \/ (0 < vs.length /\ ∃ o, ad = some ⟨b, o, none⟩)) { s with T := s.T.set i (x.1.1, vs, x.1.2.2) } (w.setCell ⟨b, i * 4 + 1, none⟩ (.slice ad vs.length c)) /\ Fr F w (w.setCell ⟨b, i * 4 + 1, none⟩ (.slice ad vs.length c))) := by
  classical
  obtain ⟨own, m, vT, v2, v3, h, hF⟩ := h
  have h1 := h.blk
  have own0 : ∀ b, ¬ F b -> own b = 0 := fun b hb => Classical.byContradiction (fun c => hb ((hF b).2 c))
  have rne : some rp ≠ vT.ownBlock /\ some rb ≠ vT.ownBlock := ⟨fun e => by have := h.ro rp e; rw [h.b1] at this; omega, fun e => by have := h.ro rb e; rw [h.r1] at this; omega⟩
  refine ⟨m, vT, h.nd, by simp [World.cell?, h1], h.row, rne, fun b e => (hF b).2 (by rw [h.ro b e]; decide), fun x v1 w1 f1 ho hn hL hxn => ?_, fun i x ad c vs b hx hb hL hxn => ?_⟩
  · have hnw : ∀ b, some b = v1.ownBlock -> own b = 2 \/ own b = 0 := fun b e => (hn b e).elim (fun e => Or.inl (h.ro b e)) (fun hl => Or.inr (Classical.byContradiction (fun c => by have := h.lt b c; omega)))
    have xnw : ∀ b, (0 < x.1.2.1.length /\ ∃ o, x.2.1 = some ⟨b, o, none⟩) -> own b = 0 /\ some b ≠ v1.ownBlock := fun b ⟨hp, o, e⟩ => ⟨own0 b (hxn b o hp e).1, (hxn b o hp e).2⟩
    have e1 : ∀ b j, own b = j -> j ≠ 0 -> j ≠ 2 -> (if some b = v1.ownBlock then 2 else if (0 < x.1.2.1.length /\ ∃ o, x.2.1 = some ⟨b, o, none⟩) then 3 else own b) = j := fun b j e h0 h2 => by
      rw [if_neg (fun c => by rcases hnw b c with c | c <;> omega), if_neg (fun c => by have := (xnw b c).1; omega)]
      exact e
    have sz : (w1.setCell ⟨rp, 0, none⟩ v1).heap.size = w1.heap.size := by simp [World.setCell]
    have hk : ∀ b, b < w.heap.size -> own b ≠ 2 -> own b ≠ 1 -> (w1.setCell ⟨rp, 0, none⟩ v1).heap[b]? = w.heap[b]? := fun b hb h2 h1' => (Below.heap_setCell _ _ _ _ (fun e => h1' (by have e : b = rp := e; rw [e]; exact h.b1))).trans (f1.block b hb (fun e => h2 (h.ro b e)))
    have hrp : ¬ some rp = v1.ownBlock := fun e => by rcases hnw rp e with c | c <;> rw [h.b1] at c <;> omega
    refine ⟨⟨fun b => if some b = v1.ownBlock then 2 else if (0 < x.1.2.1.length /\ ∃ o, x.2.1 = some ⟨b, o, none⟩) then 3 else own b, m ++ [x], v1, v2, v3, ?_, fun b => ?_⟩, ?_⟩
    · exact { blk := by
                have hq := (f1.block rp (lt_of_some h1) rne.1).trans h1
                simp only [World.setCell, Array.getElem?_modify, if_true, hq, Option.map_some]
                simp
              b1 := e1 _ _ h.b1 (by decide) (by decide)
              row := row_keep ho (fun b e => Below.heap_setCell _ _ _ _ (fun e' => hrp (by have e' : b = rp := e'; rw [<- e']; exact e)))
              ro := fun b e => by rw [if_pos e]
              nd := by simp [h.nd]
              fl := fun y hy => by
                rcases List.mem_append.1 hy with hy | hy
                · refine ⟨(h.fl y hy).1.at (by rw [sz]; exact f1.size) (fun b o hp e => ?_), fun hp => ?_⟩
                  · obtain ⟨b', o', e', ho'⟩ := (h.fl y hy).2 hp
                    rw [e] at e'
                    cases e'
                    exact hk _ (h.lt _ (by rw [ho']; decide)) (by rw [ho']; decide) (by rw [ho']; decide)
                  · obtain ⟨b', o', e', ho'⟩ := (h.fl y hy).2 hp
                    exact ⟨b', o', e', e1 _ _ ho' (by decide) (by decide)⟩
                · simp at hy
                  subst hy
                  refine ⟨hL.at (by rw [sz]; exact Nat.le_refl _) (fun b o hp e => Below.heap_setCell _ _ _ _ (fun e' => ?_)), fun hp => ?_⟩
                  · have e' : b = rp := e'
                    have := (xnw b ⟨hp, o, e⟩).1
                    rw [e', h.b1] at this
                    omega
                  · obtain ⟨b, o, e, _⟩ := hL hp
                    exact ⟨b, o, e, by rw [if_neg (xnw b ⟨hp, o, e⟩).2, if_pos ⟨hp, o, e⟩]⟩
              rt := (hk _ (lt_of_some h.rt) (by rw [h.r1]; decide) (by rw [h.r1]; decide)).trans h.rt
              rl := h.rl
              r1 := e1 _ _ h.r1 (by decide) (by decide)
              g2 := row_keep h.g2 (fun b e => hk b (row_lt h.g2 b e).2 (by rw [h.g2o b e]; decide) (by rw [h.g2o b e]; decide)), g2o := fun b e => e1 _ _ (h.g2o b e) (by decide) (by decide)
              g3 := row_keep h.g3 (fun b e => hk b (row_lt h.g3 b e).2 (by rw [h.g3o b e]; decide) (by rw [h.g3o b e]; decide)), g3o := fun b e => e1 _ _ (h.g3o b e) (by decide) (by decide)
              lt := fun b hb => by
                rw [sz]
                by_cases c1 : some b = v1.ownBlock
                · exact (row_lt ho b c1).2
                · by_cases c2 : 0 < x.1.2.1.length /\ ∃ o, x.2.1 = some ⟨b, o, none⟩
                  · obtain ⟨hp, o, e⟩ := c2
                    obtain ⟨b', o', e', hb', _⟩ := hL hp
                    rw [e] at e'
                    cases e'
                    exact hb'
                  · rw [if_neg c1, if_neg c2] at hb
                    exact Nat.lt_of_lt_of_le (h.lt b hb) f1.size }
    · by_cases c1 : some b = v1.ownBlock
      · simp [c1]
      · by_cases c2 : 0 < x.1.2.1.length /\ ∃ o, x.2.1 = some ⟨b, o, none⟩
        · simp only [if_neg c1, if_pos c2]
          exact ⟨fun _ => by decide, fun _ => Or.inr (Or.inr c2)⟩
        · simp only [if_neg c1, if_neg c2]
          exact ⟨fun d => d.elim (hF b).1 (fun d => d.elim (fun d => absurd d c1) (fun d => absurd d c2)), fun d => Or.inl ((hF b).2 d)⟩
    · exact (f1.mono (fun b e => (hF b).2 (by rw [h.ro b e]; decide))).trans ((Fr.refl (fun b => b = rp) w1).set rp 0 _ rfl) (fun b e => Or.inl ((hF b).2 (by rw [e, h.b1]; decide)))
  · have ob := h.ro b hb
    have xnw : ∀ b, (0 < vs.length /\ ∃ o, ad = some ⟨b, o, none⟩) -> own b = 0 := fun b ⟨hp, o, e⟩ => own0 b (hxn b o hp e)
    have e1 : ∀ b j, own b = j -> j ≠ 0 -> (if (0 < vs.length /\ ∃ o, ad = some ⟨b, o, none⟩) then 3 else own b) = j := fun b j e h0 => by
      rw [if_neg (fun c => by have := xnw b c; omega)]
      exact e
    have sz : (w.setCell ⟨b, i * 4 + 1, none⟩ (.slice ad vs.length c)).heap.size = w.heap.size := by simp [World.setCell]
    have hk : ∀ k, own k ≠ 2 -> (w.setCell ⟨b, i * 4 + 1, none⟩ (.slice ad vs.length c)).heap[k]? = w.heap[k]? := fun k h2 => Below.heap_setCell _ _ _ _ (fun e => h2 (by have e : k = b := e; rw [e]; exact ob))
    obtain ⟨aT, cT, eT⟩ := row_slice h.row
    have hrow : (w.setCell ⟨b, i * 4 + 1, none⟩ (.slice ad vs.length c)).ownsRow 0 126 4 vT (m.set i ((x.1.1, vs, x.1.2.2), ad, c)).length (tv (m.set i ((x.1.1, vs, x.1.2.2), ad, c))) := by
      obtain ⟨b', cap, e⟩ := row_shape h.row (Nat.lt_of_le_of_lt (Nat.zero_le i) (List.getElem?_eq_some_iff.1 hx).1)
      have eb : b = b' := by
        rw [e] at hb
        simpa [Value.ownBlock] using hb
      subst eb
      rw [List.length_set, tv_set m i x ad c vs hx]
      have := h.row
      rw [e] at this ⊢
      exact row_put this _ _
    refine ⟨⟨fun b => if (0 < vs.length /\ ∃ o, ad = some ⟨b, o, none⟩) then 3 else own b, m.set i ((x.1.1, vs, x.1.2.2), ad, c), vT, v2, v3, ?_, fun k => ?_⟩, ?_⟩
    · exact { blk := (hk _ (by rw [h.b1]; decide)).trans h.blk
              b1 := e1 _ _ h.b1 (by decide)
              row := hrow
              ro := fun k e => e1 _ _ (h.ro k e) (by decide)
              nd := by rw [List.map_set, h.nd]
              fl := fun y hy => by
                rcases List.mem_or_eq_of_mem_set hy with hy | hy
                · refine ⟨(h.fl y hy).1.at (by rw [sz]; exact Nat.le_refl _) (fun b o hp e => ?_), fun hp => ?_⟩
                  · obtain ⟨b', o', e', ho'⟩ := (h.fl y hy).2 hp
                    rw [e] at e'
                    cases e'
                    exact hk _ (by rw [ho']; decide)
                  · obtain ⟨b', o', e', ho'⟩ := (h.fl y hy).2 hp
                    exact ⟨b', o', e', e1 _ _ ho' (by decide)⟩
                · subst hy
                  refine ⟨hL.at (by rw [sz]; exact Nat.le_refl _) (fun b o hp e => hk _ (by have := xnw b ⟨hp, o, e⟩; omega)), fun hp => ?_⟩
                  obtain ⟨b, o, e, _⟩ := hL hp
                  exact ⟨b, o, e, by rw [if_pos ⟨hp, o, e⟩]⟩
              rt := (hk _ (by rw [h.r1]; decide)).trans h.rt
              rl := h.rl
              r1 := e1 _ _ h.r1 (by decide)
              g2 := row_keep h.g2 (fun b e => hk b (by rw [h.g2o b e]; decide)), g2o := fun b e => e1 _ _ (h.g2o b e) (by decide)
              g3 := row_keep h.g3 (fun b e => hk b (by rw [h.g3o b e]; decide)), g3o := fun b e => e1 _ _ (h.g3o b e) (by decide)
              lt := fun k hb' => by
                rw [sz]
                by_cases c2 : 0 < vs.length /\ ∃ o, ad = some ⟨k, o, none⟩
                · obtain ⟨hp, o, e⟩ := c2
                  obtain ⟨b', o', e', hb', _⟩ := hL hp
                  rw [e] at e'
                  cases e'
                  exact hb'
                · rw [if_neg c2] at hb'
                  exact h.lt k hb' }
    · by_cases c2 : 0 < vs.length /\ ∃ o, ad = some ⟨k, o, none⟩
      · simp only [if_pos c2]
        exact ⟨fun _ => by decide, fun _ => Or.inr c2⟩
      · simp only [if_neg c2]
        exact ⟨fun d => d.elim (hF k).1 (fun d => absurd d c2), fun d => Or.inl ((hF k).2 d)⟩
    · exact (Fr.refl F w).set b _ _ ((hF b).2 (by rw [ob]; decide))
theorem wr_regs (h : (wrO rp rb most grow).J F s w) : ∃ v2 v3, w.cell? ⟨rp, 2, none⟩ = some v2 /\ w.cell? ⟨rp, 3, none⟩ = some v3 /\ w.ownsRow 0 124 2 v2 s.rg.length (ev s.rg) /\ w.ownsRow 0 124 2 v3 s.wt.length (ev s.wt) /\ some rp ≠ v2.ownBlock /\
    ∀ (l : List En) (v1 : Value) (w1 : World), Fr (fun b => some b = v2.ownBlock) w w1 -> w1.ownsRow 0 124 2 v1 l.length (ev l) -> (∀ b, some b = v1.ownBlock -> some b = v2.ownBlock \/ w.heap.size <= b) ->
      (wrO rp rb most grow).J (fun b => F b \/ some b = v1.ownBlock) { s with rg := l } (w1.setCell ⟨rp, 2, none⟩ v1) /\ Fr F w (w1.setCell ⟨rp, 2, none⟩ v1) := by
  obtain ⟨own, m, vT, v2, v3, h, hF⟩ := h
  have h1 := h.blk
  have rne : some rp ≠ v2.ownBlock := fun e => by have := h.g2o rp e; rw [h.b1] at this; omega
  refine ⟨v2, v3, by simp [World.cell?, h1], by simp [World.cell?, h1], h.g2, h.g3, rne, fun l v1 w1 f1 ho hn => ?_⟩
  have hnw : ∀ b, some b = v1.ownBlock -> own b = 5 \/ own b = 0 := fun b e => (hn b e).elim (fun e => Or.inl (h.g2o b e)) (fun hl => Or.inr (Classical.byContradiction (fun c => by have := h.lt b c; omega)))
  have e1 : ∀ b j, own b = j -> j ≠ 0 -> j ≠ 5 -> (if some b = v1.ownBlock then 5 else own b) = j := fun b j e h0 h2 => by
    rw [if_neg (fun c => by rcases hnw b c with c | c <;> omega)]
    exact e
  have sz : (w1.setCell ⟨rp, 2, none⟩ v1).heap.size = w1.heap.size := by simp [World.setCell]
  have hk : ∀ b, b < w.heap.size -> own b ≠ 5 -> own b ≠ 1 -> (w1.setCell ⟨rp, 2, none⟩ v1).heap[b]? = w.heap[b]? := fun b hb h2 h1' => (Below.heap_setCell _ _ _ _ (fun e => h1' (by have e : b = rp := e; rw [e]; exact h.b1))).trans (f1.block b hb (fun e => h2 (h.g2o b e)))
  have hrp : ¬ some rp = v1.ownBlock := fun e => by rcases hnw rp e with c | c <;> rw [h.b1] at c <;> omega
  refine ⟨⟨fun b => if some b = v1.ownBlock then 5 else own b, m, vT, v1, v3, ?_, fun b => ?_⟩, ?_⟩
  · exact { blk := by
              have hq := (f1.block rp (lt_of_some h1) rne).trans h1
              simp only [World.setCell, Array.getElem?_modify, if_true, hq, Option.map_some]
              simp
            b1 := e1 _ _ h.b1 (by decide) (by decide)
            row := row_keep h.row (fun b e => hk b (row_lt h.row b e).2 (by rw [h.ro b e]; decide) (by rw [h.ro b e]; decide))
            ro := fun b e => e1 _ _ (h.ro b e) (by decide) (by decide)
            nd := h.nd
            fl := fun y hy => by
              refine ⟨(h.fl y hy).1.at (by rw [sz]; exact f1.size) (fun b o hp e => ?_), fun hp => ?_⟩
              · obtain ⟨b', o', e', ho'⟩ := (h.fl y hy).2 hp
                rw [e] at e'
                cases e'
                exact hk _ (h.lt _ (by rw [ho']; decide)) (by rw [ho']; decide) (by rw [ho']; decide)
              · obtain ⟨b', o', e', ho'⟩ := (h.fl y hy).2 hp
                exact ⟨b', o', e', e1 _ _ ho' (by decide) (by decide)⟩
            rt := (hk _ (lt_of_some h.rt) (by rw [h.r1]; decide) (by rw [h.r1]; decide)).trans h.rt
            rl := h.rl
            r1 := e1 _ _ h.r1 (by decide) (by decide)
            g2 := row_keep ho (fun b e => Below.heap_setCell _ _ _ _ (fun e' => hrp (by have e' : b = rp := e'; rw [<- e']; exact e)))
            g2o := fun b e => by rw [if_pos e]
            g3 := row_keep h.g3 (fun b e => hk b (row_lt h.g3 b e).2 (by rw [h.g3o b e]; decide) (by rw [h.g3o b e]; decide)), g3o := fun b e => e1 _ _ (h.g3o b e) (by decide) (by decide)
            lt := fun b hb => by
              rw [sz]
              by_cases c1 : some b = v1.ownBlock
              · exact (row_lt ho b c1).2
              · rw [if_neg c1] at hb
                exact Nat.lt_of_lt_of_le (h.lt b hb) f1.size }
  · by_cases c1 : some b = v1.ownBlock
    · simp [c1]
    · simp [c1, hF b]
  · exact (f1.mono (fun b e => (hF b).2 (by rw [h.g2o b e]; decide))).trans ((Fr.refl (fun b => b = rp) w1).set rp 2 _ rfl) (fun b e => Or.inl ((hF b).2 (by rw [e, h.b1]; decide)))
end
end Go.Proofs.YtnalfnlmaallmaaGreat

namespace Go.Proofs.YtnalfnlmaallmaaGreat
open Go.RowKit W Kp Stl
def inS (L : List Bool) (v : Int × Int) : Bool := !(v.1 == 3) || L.getD v.2.toNat false
def adS (L : List Bool) (v : Int × Int) : List Bool := if inS L v = true then L else L.set v.2.toNat true
def t0 : Tw1 := (0, [], false, false)
def Kps (T : List Tw1) (wt : List En) (X : Nat -> Prop) (i : Nat) (v : Int × Int) : Prop :=
 (((T.getD i t0).1 = 1 \/ (T.getD i t0).1 = 2) /\ v ∈ (T.getD i t0).2.1) \/ ((T.getD i t0).1 = 3 /\ v = (T.getD i t0).2.1.getD 1 (0, 0)) \/
 ((T.getD i t0).1 = 4 /\ (((T.getD i t0).2.1.getD 0 (0, 0)).1 = 3 -> X ((T.getD i t0).2.1.getD 0 (0, 0)).2.toNat) /\ v = (T.getD i t0).2.1.getD 1 (0, 0)) \/
 ((T.getD i t0).1 = 5 /\ ∃ e ∈ wt, e.1 = i /\ v = (3, e.2))
theorem Kps.mono {T : List Tw1} {wt : List En} {X Y : Nat -> Prop} (hXY : ∀ i, X i -> Y i) {i : Nat} {v : Int × Int} (h : Kps T wt X i v) : Kps T wt Y i v := by
 rcases h with h | h | ⟨h1, h2, h3⟩ | h
 ·exact Or.inl h
 ·exact Or.inr (Or.inl h)
 ·exact Or.inr (Or.inr (Or.inl ⟨h1, fun c => hXY _ (h2 c), h3⟩))
 ·exact Or.inr (Or.inr (Or.inr h))
def Cls (T : List Tw1) (wt : List En) (X : Nat -> Prop) : Prop := ∀ i, i < T.length -> X i -> ∀ v, Kps T wt X i v -> v.1 = 3 -> X v.2.toNat
def Ls_ (L : List Bool) : Nat -> Prop := fun i => L.getD i false = true
structure Grn (T : List Tw1) (wt : List En) (is out : List Bool) : Prop where
  len : out.length = is.length
  up : ∀ i, Ls_ is i -> Ls_ out i
  cl : Cls T wt (Ls_ out)
  lt : ∀ X, Cls T wt X -> (∀ i, Ls_ is i -> X i) -> ∀ i, Ls_ out i -> X i
theorem adS_len (L : List Bool) (v : Int × Int) : (adS L v).length = L.length := by
 unfold adS
 split
 ·rfl
 ·rw [List.length_set]
theorem inS_no {L : List Bool} {v : Int × Int} (h : inS L v = false) : v.1 = 3 /\ L.getD v.2.toNat false = false := by
 unfold inS at h
 rw [Bool.or_eq_false_iff] at h
 exact ⟨by simpa using h.1, h.2⟩
theorem inS_yes {L : List Bool} {v : Int × Int} (h : inS L v = true) : v.1 = 3 -> Ls_ L v.2.toNat := fun h3 => by
 unfold inS at h
 rw [h3] at h
 unfold Ls_
 simpa using h
theorem getD_setB (L : List Bool) (i j : Nat) (h : i < L.length) : (L.set i true).getD j false = if i = j then true else L.getD j false := by
 rw [List.getD_eq_getElem?_getD, List.getD_eq_getElem?_getD, List.getElem?_set]
 split
 ·rename_i e
  subst e
  rfl
 ·rfl
def cnt (L : List Bool) : Nat := (L.filter (fun b => !b)).length
theorem cnt_set : ∀ (L : List Bool) (i : Nat), L.getD i true = false -> cnt (L.set i true) + 1 = cnt L
 | [], i, h => by simp at h
 | b :: L, 0, h => by
  have h : b = false := by simpa using h
  subst h
  simp [cnt]
 | b :: L, i + 1, h => by
  have h : L.getD i true = false := by simpa using h
  have ih := cnt_set L i h
  unfold cnt at ih ⊢
  rw [List.set_cons_succ]
  cases b
  ·simp only [Bool.not_false, List.filter_cons_of_pos, List.length_cons]
   omega
  ·rw [List.filter_cons_of_neg (by simp), List.filter_cons_of_neg (by simp)]
   exact ih
theorem adS_up (L : List Bool) (v : Int × Int) (i : Nat) (h : Ls_ L i) : Ls_ (adS L v) i := by
 unfold adS
 split
 ·exact h
 ·unfold Ls_ at h ⊢
  by_cases c : v.2.toNat < L.length
  ·rw [getD_setB _ _ _ c]
   split
   ·rfl
   ·exact h
  ·rw [List.set_eq_of_length_le (by omega)]
   exact h
theorem adS_in {L : List Bool} {v : Int × Int} (hv : v.1 = 3 -> v.2.toNat < L.length) : v.1 = 3 -> Ls_ (adS L v) v.2.toNat := fun h3 => by
 cases h : inS L v
 ·unfold adS
  rw [if_neg (by rw [h]; simp)]
  unfold Ls_
  rw [getD_setB _ _ _ (hv h3), if_pos rfl]
 ·unfold adS
  rw [if_pos h]
  exact inS_yes h h3
theorem adS_of {L : List Bool} {v : Int × Int} {X : Nat -> Prop} (h : ∀ i, Ls_ L i -> X i) (hv : v.1 = 3 -> X v.2.toNat) : ∀ i, Ls_ (adS L v) i -> X i := fun i hi => by
 cases hs : inS L v
 ·have h3 := (inS_no hs).1
  unfold adS at hi
  rw [if_neg (by rw [hs]; simp)] at hi
  unfold Ls_ at hi
  by_cases c : v.2.toNat < L.length
  ·rw [getD_setB _ _ _ c] at hi
   split at hi
   ·rename_i e
    rw [<- e]
    exact hv h3
   ·exact h i hi
  ·rw [List.set_eq_of_length_le (by omega)] at hi
   exact h i hi
 ·unfold adS at hi
  rw [if_pos hs] at hi
  exact h i hi
theorem adS_cnt {L : List Bool} {v : Int × Int} (hv : v.1 = 3 -> v.2.toNat < L.length) (h : inS L v = false) : cnt (adS L v) < cnt L := by
 obtain ⟨h3, h2⟩ := inS_no h
 unfold adS
 rw [if_neg (by rw [h]; simp)]
 have c := hv h3
 have e : L.getD v.2.toNat true = false := by
  rw [List.getD_eq_getElem?_getD, List.getElem?_eq_getElem c] at h2 ⊢
  simpa using h2
 have := cnt_set L v.2.toNat e
 omega
structure Pas (T : List Tw1) (wt : List En) (is P0 L : List Bool) (more : Bool) (i : Nat) : Prop where
  len : L.length = is.length
  up : ∀ k, Ls_ is k -> Ls_ L k
  lt : ∀ X, Cls T wt X -> (∀ k, Ls_ is k -> X k) -> ∀ k, Ls_ L k -> X k
  no : more = false -> L = P0 /\ ∀ k, k < i -> k < T.length -> Ls_ L k -> ∀ v, Kps T wt (Ls_ L) k v -> v.1 = 3 -> Ls_ L v.2.toNat
  yes : more = true -> cnt L < cnt P0
theorem Pas.add {T : List Tw1} {wt : List En} {is P0 L : List Bool} {more : Bool} {i : Nat} (h : Pas T wt is P0 L more i) (hi : i < T.length) (hL : Ls_ L i) {v : Int × Int} (hk : Kps T wt (Ls_ L) i v) (hv : v.1 = 3 -> v.2.toNat < L.length) : Pas T wt is P0 (adS L v) (!inS L v || more) i := by
 refine ⟨(adS_len L v).trans h.len, fun k hk => adS_up L v k (h.up k hk), fun X hX hi' k hk' => adS_of (h.lt X hX hi') (fun h3 => hX i hi (h.lt X hX hi' i hL) v (hk.mono (h.lt X hX hi')) h3) k hk', fun hm => ?_, fun hm => ?_⟩
 ·rw [Bool.or_eq_false_iff] at hm
  obtain ⟨m1, m2⟩ := hm
  have m1 : inS L v = true := by simpa using m1
  have e : adS L v = L := by unfold adS; rw [if_pos m1]
  rw [e]
  exact h.no m2
 ·cases hs : inS L v
  ·have h1 := adS_cnt hv hs
   have h2 : cnt L <= cnt P0 := by
    cases more
    ·rw [(h.no rfl).1]
     exact Nat.le_refl _
    ·exact Nat.le_of_lt (h.yes rfl)
   omega
  ·have e : adS L v = L := by unfold adS; rw [if_pos hs]
   rw [e]
   rw [hs] at hm
   exact h.yes (by simpa using hm)
theorem Pas.next {T : List Tw1} {wt : List En} {is P0 L : List Bool} {more : Bool} {i : Nat} (h : Pas T wt is P0 L more i) (hn : more = false -> i < T.length -> Ls_ L i -> ∀ v, Kps T wt (Ls_ L) i v -> v.1 = 3 -> Ls_ L v.2.toNat) : Pas T wt is P0 L more (i + 1) :=
 ⟨h.len, h.up, h.lt, fun hm => ⟨(h.no hm).1, fun k hk hT hLk v hv h3 => by
  by_cases c : k < i
  ·exact (h.no hm).2 k c hT hLk v hv h3
  ·obtain rfl : k = i := by omega
   exact hn hm hT hLk v hv h3⟩, h.yes⟩
theorem Pas.start {T : List Tw1} {wt : List En} {is P0 : List Bool} (h1 : P0.length = is.length) (h2 : ∀ k, Ls_ is k -> Ls_ P0 k) (h3 : ∀ X, Cls T wt X -> (∀ k, Ls_ is k -> X k) -> ∀ k, Ls_ P0 k -> X k) : Pas T wt is P0 P0 false 0 :=
 ⟨h1, h2, h3, fun _ => ⟨rfl, fun k hk => absurd hk (by omega)⟩, fun h => by cases h⟩
theorem Pas.done {T : List Tw1} {wt : List En} {is P0 L : List Bool} (h : Pas T wt is P0 L false T.length) : Grn T wt is L :=
 ⟨h.len, h.up, fun i hi hL v hv h3 => (h.no rfl).2 i hi hi hL v hv h3, h.lt⟩
end Go.Proofs.YtnalfnlmaallmaaGreat

namespace Go.Proofs.YtnalfnlmaallmaaGreat
set_option maxRecDepth 100000
set_option maxHeartbeats 1000000
open Go.RowKit W Kp Stl
def shL (N y g : Nat) (ws : List Int) (Q : List En) (a : Int) : List Int :=
 if pk (ld N y g ws a) = 5 then atL Q (ew 3 a) else (List.range (stN N y g a (pf (ld N y g ws a))).toNat).map (fun i : Nat => ld N y g ws (a + 1 + (i : Int)))
theorem shL_len (N y g : Nat) (ws : List Int) (Q : List En) (a : Int) : (shL N y g ws Q a).length <= Q.length + 12 := by
 unfold shL
 split
 ·have := atL_len Q (ew 3 a)
  omega
 ·have h1 : stN N y g a (pf (ld N y g ws a)) <= 12 := by unfold stN; exact Int.le_trans (Int.min_le_left _ _) (pf_bd _).2
  simp
  omega
section
variable {w : World} {pw p q N O y g : Nat} {ws : List Int} {sd : Nat} {v0 : Value} {a1 : Option Addr} {k1 : Nat} {Q : List En}
theorem shown_any (h : Wq w pw p q N O y g ws sd v0 a1 k1 Q) (kb : Nat) (hk : w.cell? ⟨kb, 0, none⟩ = some (.pointer (some ⟨pw, 0, none⟩))) (a : Int) (l0 : 0 <= a) (l1 : a <= 100000) :
    Calls Tryz.prog 254 #[.pointer (some ⟨kb, 0, none⟩), .int .i64 a, .int .i64 (pk (ld N y g ws a)), .int .i64 (pf (ld N y g ws a))] w fun e w' => ∃ ad cap, e = .returned (.slice ad (shL N y g ws Q a).length cap) /\ w'.ownsRow w.heap.size 2 1 (.slice ad (shL N y g ws Q a).length cap) (shL N y g ws Q a).length ((shL N y g ws Q a).map (Value.int .i64)) /\ Below w.heap.size w w' := by
  obtain ⟨i0, hi, hz0, hz1, hz2⟩ := info_parts info64
  have H : Hid (Wq w pw p q N O y g ws sd v0 a1 k1 Q) := h
  have c0 := h.c0
  have c2 := h.c2
  have lpw := World.block_lt_of_cell? w _ c0
  have lkb := World.block_lt_of_cell? w _ hk
  clear h
  by_cases h5 : pk (ld N y g ws a) = 5
  · have e0 : shL N y g ws Q a = atL Q (ew 3 a) := by unfold shL; rw [if_pos h5]
    rw [e0, h5]
    clear e0 h5
    generalize pf (ld N y g ws a) = f
    have hd := (Below.refl w.heap.size w).drew
    go_enter Tryz.func254, Tryz.ntmps254
    go_wp2_with fail
    go_region_held3 (fun w' => w'.cell? ⟨kb, 0, none⟩ = some (.pointer (some ⟨pw, 0, none⟩)) /\ w'.cell? ⟨pw, 2, none⟩ = some (.pointer (some ⟨sd, 0, none⟩))) (first | exact ⟨hk, c2⟩ | exact ⟨u0, u1⟩ | exact ⟨v0', v1'⟩ | go_keep)
      (first | (have hb8 := hb3; go_at_call 256; refine (atS_any _ sd v0 a1 k1 Q (ew 3 a) (H.out.low hb3).hs (H.out.low hb3).hp (H.out.low hb3).hm).mono ?_; rintro e w5 ⟨ad, cap, rfl, hR5, hb5⟩; have l5 := hb5.size; have v0' := (hb5.cell (p := ⟨kb, 0, none⟩) (Nat.lt_of_lt_of_le lkb l3)).trans u0; have v1' := (hb5.cell (p := ⟨pw, 2, none⟩) (Nat.lt_of_lt_of_le lpw l3)).trans u1)
             | (go_at_call 51; refine (ref_any a _).mono ?_; rintro e w3 ⟨rfl, hb3'⟩; have hb3 : Below w.heap.size w w3 := hd.trans hb3'; have l3 := hb3.size; have u0 := (hb3.cell (p := ⟨kb, 0, none⟩) lkb).trans hk; have u1 := (hb3.cell (p := ⟨pw, 2, none⟩) lpw).trans c2))
    go_wp2_with fail
    go_ret
    exact ⟨ad, cap, rfl, row_base hR5 (fun k e => Nat.le_trans l3 (row_lt hR5 k e).1), hb3.trans (hb5.mono l3)⟩
  · have e0 : shL N y g ws Q a = (List.range (stN N y g a (pf (ld N y g ws a))).toNat).map (fun i : Nat => ld N y g ws (a + 1 + (i : Int))) := by unfold shL; rw [if_neg h5]
    rw [e0]
    have hst : stN N y g a (pf (ld N y g ws a)) <= 12 := by unfold stN; exact Int.le_trans (Int.min_le_left _ _) (pf_bd _).2
    have KS := standing_any a (pf (ld N y g ws a)) w c0 H.out.ar l0 l1
    clear e0
    generalize stN N y g a (pf (ld N y g ws a)) = st at KS hst ⊢
    generalize pf (ld N y g ws a) = f at KS ⊢
    generalize pk (ld N y g ws a) = kd at h5 ⊢
    have KL : Hid (∀ w1 x, Below w.heap.size w w1 -> Calls Tryz.prog 116 #[.pointer (some ⟨p, 0, none⟩), .int .i64 x] w1 fun e w' => e = .returned (.int .i64 (ld N y g ws x)) /\ Below w1.heap.size w1 w') := fun w1 x hb => load_any x w1 (H.out.low hb).ar
    clear H
    simp only [List.length_map, List.length_range]
    go_enter Tryz.func254, Tryz.ntmps254
    go_wp2_with fail
    refine KS.mono ?_
    clear KS
    rintro e w1 ⟨rfl, hb1⟩
    go_wp2_with fail
    go_loopw [9, 30] (fun tv iv wr => ∃ (j : Nat) (at1 : Option Addr) (ct : Nat), j <= st.toNat /\ iv = .int .i64 j /\ tv = .slice at1 j ct /\ wr.ownsRow w.heap.size 2 1 (.slice at1 j ct) j (((List.range j).map (fun i : Nat => ld N y g ws (a + 1 + (i : Int)))).map (Value.int .i64)) /\ Below w.heap.size w wr) (fun _ iv _ => st.toNat - (intOf iv).toNat)
    case atStart => exact ⟨0, none, 0, Nat.zero_le _, rfl, rfl, World.ownsRow_nil _ _ _ _, hb1⟩
    case round =>
      obtain ⟨j, at1, ct, hj, rfl, rfl, hT, hb⟩ := hrel
      clear hb1
      by_cases hlt : j < st.toNat
      · have x0 := (hb.cell (p := ⟨kb, 0, none⟩) lkb).trans hk
        have x1 := (hb.cell (p := ⟨pw, 0, none⟩) lpw).trans c0
        have hj1 : (j : Int) < st := by omega
        have hsz := hb.size
        go_wp2_with fail
        refine (KL.out wr (a + 1 + (j : Int)) hb).mono ?_
        rintro e w2 ⟨rfl, hb2⟩
        have hT2 := row_keep hT (fun k e => hb2.block k (row_lt hT k e).2)
        have hb12 := hb.trans (hb2.mono hsz)
        have hsz2 := hb12.size
        have eL : (((List.range (j + 1)).map (fun i : Nat => ld N y g ws (a + 1 + (i : Int)))).map (Value.int .i64)) = (((List.range j).map (fun i : Nat => ld N y g ws (a + 1 + (i : Int)))).map (Value.int .i64)) ++ [.int .i64 (ld N y g ws (a + 1 + (j : Int)))] := by simp [List.range_succ]
        have EL : Hid (_ = _) := eL
        clear eL hT hb hb2 x0 x1
        generalize ld N y g ws (a + 1 + (j : Int)) = z at EL ⊢
        generalize ((List.range j).map (fun i : Nat => ld N y g ws (a + 1 + (i : Int)))).map (Value.int .i64) = L at hT2 EL
        go_wp2_with (at_builtin; refine wpList_append_own_at _ rfl _ _ 42 rfl w.heap.size 2 i0 (.int .i64 0) 1 8 Tryz.underlying42 hi hz0 hz1 hz2 rfl (by decide) (.slice at1 j ct) j L rfl (row_alloc hT2 _) ⟨w2.heap.size, 0, none⟩ 1 1 [.int .i64 z] rfl rfl ?_ ?_ ?_ ?_ ?_ ?_; (intro j u hj; match j, hj with | 0, hj => (simp at hj; subst hj; simp [Addr.add])); (intro u hu; simp at hu; subst hu; rfl); (unfold maxLen; omega); omega; (simp; omega); intro v' w4 hown4 hgrow4 _ hloc4; obtain ⟨b4, cap4, ev4⟩ := row_shape hown4 (Nat.succ_pos _); subst ev4)
        have hT4 : w4.ownsRow w.heap.size 2 1 (.slice (some ⟨b4, 0, none⟩) (j + 1) cap4) (j + 1) (((List.range (j + 1)).map (fun i : Nat => ld N y g ws (a + 1 + (i : Int)))).map (Value.int .i64)) := by rw [EL.out]; exact hown4
        have hb4 := (hb12.alloc hsz2 _).grown hgrow4 (by simp; omega) (fun k e => (row_lt hT2 k e.symm).1)
        clear hown4 hgrow4 hloc4 hT2 hb12 EL
        go_wp2_with fail
        go_roundw
        case rel => exact ⟨j + 1, some ⟨b4, 0, none⟩, cap4, by omega, by go_num, rfl, hT4, hb4⟩
        case measure => simp [intOf]; omega
      · obtain rfl : j = st.toNat := by omega
        have hj1 : ¬ ((st.toNat : Nat) : Int) < st := by omega
        go_wp2_with fail
        go_ret
        exact ⟨at1, ct, rfl, by rw [List.map_map] at hT; exact hT, hb⟩
end
end Go.Proofs.YtnalfnlmaallmaaGreat
