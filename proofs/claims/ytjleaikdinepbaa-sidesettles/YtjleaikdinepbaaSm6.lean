/- The document's answer on what becomes of entries: a contract, over the seat's own translation. -/
import Derived.Test.YtjleaikdinepbaaSm5
import Derived.Test.YtjleaikdinepbaaStl2
import Derived.Deep.RegionWith
import Derived.Deep.RegionHeld3
import Derived.Laws.EntriesVeiled
namespace Go.Proofs.Ytjleaikdinepbaa
open Go.RowKit W Kp Stl

theorem infoBool : (Try.prog.info? 4).map (fun i => (i.zero, i.size, i.bytes)) = some (some (.bool false), 1, 1) := by kernel_rfl
theorem infoEntry : (Try.prog.info? 97).map (fun i => (i.zero, i.size, i.bytes)) = some (some (.agg #[.int .i64 0, .int .i64 0]), 2, 16) := by kernel_rfl

/-- Flags lie in a block of their own. -/
def Fl (w : World) (k : Nat) (D : List Bool) : Prop := w.heap[k]? = some (.cells (D.map Value.bool).toArray 4 (0, 0))
theorem Fl.cell {w : World} {k : Nat} {D : List Bool} (h : Fl w k D) (i : Nat) (hi : i < D.length) : w.cell? ⟨k, i, none⟩ = some (.bool (D.getD i false)) := by
  unfold Fl at h
  simp [World.cell?, h, List.getElem?_map, List.getElem?_eq_getElem hi]
theorem Fl.frozen {w : World} {k : Nat} {D : List Bool} (h : Fl w k D) (i : Nat) : w.frozen? ⟨k, i, none⟩ = false := by
  unfold Fl at h
  simp [World.frozen?, h]
theorem Fl.set {w : World} {k : Nat} {D : List Bool} (h : Fl w k D) (i : Nat) (b : Bool) : Fl (w.setCell ⟨k, i, none⟩ (.bool b)) k (D.set i b) := by
  unfold Fl at h ⊢
  simp only [World.setCell, Array.getElem?_modify, if_true, h, Option.map_some]
  simp [List.map_set]
theorem Fl.lt {w : World} {k : Nat} {D : List Bool} (h : Fl w k D) : k < w.heap.size := lt_of_some h
theorem Fl.fr {X : Nat → Prop} {w w' : World} {k : Nat} {D : List Bool} (h : Fl w k D) (f : Fr X w w') (hx : ¬ X k) : Fl w' k D := (f.block k h.lt hx).trans h
theorem made_flags {w : World} {b k n : Nat} (h : w.ownsRow b 4 1 (.slice (some ⟨k, 0, none⟩) n n) n (madeCells (Value.bool false).cells (n * 1)).toList) : Fl w k (List.replicate n false) := by
  obtain ⟨h1, h2⟩ := h
  rcases h2 with ⟨e, _⟩ | ⟨k', cap, cur, hv, hb, hh, h3, h4, h5, h6⟩
  · cases e
  · cases hv
    unfold Fl
    rw [hh]
    have : cur.toList = (List.replicate n false).map Value.bool := by
      rw [← List.take_of_length_le (l := cur.toList) (i := n * 1) (by simp; omega), h6]
      show (madeCells #[Value.bool false] (n * 1)).toList = _
      rw [toList_madeCells_one]
      simp
    rw [← this]

theorem Lp.fr {X : Nat → Prop} {w w' : World} {ad : Option Addr} {l : List (Int × Int)} (h : Lp w ad l) (f : Fr X w w') (hx : 0 < l.length → ∀ z, ad = some z → ¬ X z.block) : Lp w' ad l :=
  h.keep f.size (fun hp z e => by
    obtain ⟨b, o, e2, hb, _⟩ := h hp
    rw [e] at e2
    cases e2
    exact f.block _ hb (hx hp _ e))

theorem cell_setB {w : World} {k d : Nat} (i j : Nat) (v : Value) (h : k ≠ d) : ((w.setCell ⟨d, j, none⟩ v).drew).cell? ⟨k, i, none⟩ = w.cell? ⟨k, i, none⟩ :=
  World.cell?_of_block (a := ⟨k, i, none⟩) (Below.heap_setCell _ _ _ _ h)

/-- Which of the first are dead; of the others it is not yet told. -/
def dl (A : List Int) (r : List En) (j : Nat) : List Bool := (r.take j).map (fun e => !A.contains e.2) ++ List.replicate (r.length - j) false
theorem dl_zero (A : List Int) (r : List En) : dl A r 0 = List.replicate r.length false := by simp [dl]
theorem dl_len (A : List Int) (r : List En) (j : Nat) (h : j ≤ r.length) : (dl A r j).length = r.length := by simp [dl]; omega
theorem dl_all (A : List Int) (r : List En) : dl A r r.length = r.map (fun e => !A.contains e.2) := by simp [dl]
theorem dl_set (A : List Int) (r : List En) (j : Nat) (h : j < r.length) : (dl A r j).set j (!A.contains (r.getD j (0, 0)).2) = dl A r (j + 1) := by
  unfold dl
  rw [take_snoc r j h (0, 0), show r.length - j = (r.length - (j + 1)) + 1 by omega, List.replicate_succ, List.map_append]
  have hl : ((r.take j).map (fun e => !A.contains e.2)).length = j := by simp; omega
  rw [List.set_append_right _ _ (by omega), hl, Nat.sub_self, List.set_cons_zero]
  simp

/-- What is alive, and what is kept, by a list. -/
def isL (A : List Int) (x : Int) : Bool := A.contains x
def kpL (L : Pairs) (A : List Int) (x : Int) : List Int := bfs L (L.length + 2) A [x]
theorem mu_le (L : Pairs) (A : List Int) : mu L A ≤ L.length := List.length_filter_le _ _
/-- What comes of entries. -/
def tf (L : Pairs) (A : List Int) (r : List En) : List Int × List En × List En := turns isL (kpL L) (r.length + 1) (r.filter (fun e => !A.contains e.2)) A []

theorem Sb2.drew {w : World} {ba bl bi : Nat} {A : List Int} {L : Pairs} {rowA : Option Nat} {adL : Option Addr} (h : Sb2 w ba bl bi A L rowA adL) : Sb2 w.drew ba bl bi A L rowA adL :=
  h.keep (Nat.le_refl _) rfl rfl rfl (fun _ _ => rfl) (fun _ _ _ => rfl)
/-- One, if it is true. -/
def bval : Value → Nat
  | .bool true => 1
  | _ => 0
/-- What comes in one turn is no more than there is. -/
theorem far_len {L : Pairs} {r : List En} {D M M0 : List Bool} {A A0 : List Int} {C C0 : List En} {i : Nat} (h : Far isL (kpL L) r D (pass isL (kpL L) (rem r D M0) A0 C0 []) i A C M) : C.length ≤ C0.length + (rem r D M0).length := by
  have h1 := (pass_len (is := isL) (kp := kpL L) (rem (r.drop i) (D.drop i) (M.drop i)) A C (rem (r.take i) (D.take i) (M.take i))).2
  have h2 := (pass_len (is := isL) (kp := kpL L) (rem r D M0) A0 C0 []).1
  rw [h.eq] at h1
  simp at h2
  omega

/-- A flag is set: nothing else turns. -/
theorem Sb2.flag {w : World} {ba bl bi bd j : Nat} {A : List Int} {L : Pairs} {rowA : Option Nat} {adL : Option Addr} {D : List Bool} (h : Sb2 w ba bl bi A L rowA adL) (hD : Fl w bd D) (hL : 0 < L.length → ∀ a, adL = some a → a.block ≠ bd) (v : Value) :
    Sb2 (w.setCell ⟨bd, j, none⟩ v) ba bl bi A L rowA adL := by
  unfold Fl at hD
  obtain ⟨a, ca, q1, q2, q3⟩ := h.sl
  obtain ⟨cl, q4⟩ := h.ll
  have q5 := h.is
  refine h.keep (by simp [World.setCell]) ?_ ?_ ?_ (fun k e => ?_) (fun hp a e => ?_)
  · exact Below.heap_setCell _ _ _ _ (fun e => by rw [e, hD] at q1; simp at q1)
  · exact Below.heap_setCell _ _ _ _ (fun e => by rw [e, hD] at q4; simp at q4)
  · exact Below.heap_setCell _ _ _ _ (fun e => by rw [e, hD] at q5; simp at q5)
  · refine Below.heap_setCell _ _ _ _ (fun e' => ?_)
    obtain ⟨cur, hc⟩ := row_type q2 k (by rw [q3, e])
    rw [e', hD] at hc
    simp at hc
  · exact Below.heap_setCell _ _ _ _ (hL hp a e)
/-- A row of entries grows: nothing else turns. -/
theorem Sb2.came {w w1 : World} {B ba bl bi n : Nat} {A : List Int} {L : Pairs} {rowA : Option Nat} {adL : Option Addr} {v : Value} {l : List Value} (h : Sb2 w ba bl bi A L rowA adL) (hO : w.ownsRow B 97 2 v n l) (hg : w.grownBy w1 v.ownBlock)
    (hL : 0 < L.length → ∀ a, adL = some a → a.block < B) : Sb2 w1 ba bl bi A L rowA adL := by
  obtain ⟨a, ca, q1, q2, q3⟩ := h.sl
  obtain ⟨cl, q4⟩ := h.ll
  have q5 := h.is
  obtain ⟨l1, l2, l3, l4, l5⟩ := h.lts
  refine h.keep hg.size ?_ ?_ ?_ (fun k e => ?_) (fun hp a e => ?_)
  · exact hg.block _ l1 (fun e => by obtain ⟨cur, hc⟩ := row_type hO _ e; rw [q1] at hc; simp at hc)
  · exact hg.block _ l2 (fun e => by obtain ⟨cur, hc⟩ := row_type hO _ e; rw [q4] at hc; simp at hc)
  · exact hg.block _ l3 (fun e => by obtain ⟨cur, hc⟩ := row_type hO _ e; rw [q5] at hc; simp at hc)
  · refine hg.block _ (l4 k e) (fun e' => ?_)
    obtain ⟨cur, hc⟩ := row_type hO _ e'
    obtain ⟨cur', hc'⟩ := row_type q2 k (by rw [q3, e])
    rw [hc] at hc'
    simp at hc'
  · refine hg.block _ (l5 hp a e) (fun e' => ?_)
    have := (row_lt hO _ e').1
    have := hL hp a e
    omega
theorem fr_flag {X : Nat → Prop} {w wr : World} {bd j : Nat} (h : Fr X w wr) (hb : w.heap.size ≤ bd) (v : Value) : Fr X w (wr.setCell ⟨bd, j, none⟩ v) :=
  h.trans ((Fr.refl (fun k => k = bd) wr).set bd j v rfl) (fun i c => Or.inr (by omega))

/-- Those of the first that are so. -/
def fl (p : En → Bool) (l : List En) (j : Nat) : List En := (l.take j).filter p
theorem fl_zero (p : En → Bool) (l : List En) : fl p l 0 = [] := by simp [fl]
theorem fl_all (p : En → Bool) (l : List En) : fl p l l.length = l.filter p := by simp [fl]
theorem fl_yes (p : En → Bool) (l : List En) (j : Nat) (h : j < l.length) (hp : p (l.getD j (0, 0)) = true) : fl p l (j + 1) = fl p l j ++ [l.getD j (0, 0)] := by
  unfold fl
  rw [take_snoc l j h (0, 0), List.filter_append, List.filter_cons, hp]
  rfl
theorem fl_no (p : En → Bool) (l : List En) (j : Nat) (h : j < l.length) (hp : p (l.getD j (0, 0)) = false) : fl p l (j + 1) = fl p l j := by
  unfold fl
  rw [take_snoc l j h (0, 0), List.filter_append, List.filter_cons, hp]
  simp
theorem fl_len (p : En → Bool) (l : List En) (j : Nat) : (fl p l j).length ≤ l.length := by
  unfold fl
  refine Nat.le_trans (List.length_filter_le _ _) ?_
  simp; omega

/-- A row that was made ahead stays, where a later one grows. -/
theorem row_past {w w4 : World} {b B2 m n n' : Nat} {e : TypeId} {v v' : Value} {l l' : List Value} {o : Obj} (h : w.ownsRow b e m v n l) (hlt : ∀ k, some k = v.ownBlock → k < B2) (hV : (w.alloc o).ownsRow B2 97 2 v' n' l') (hg : (w.alloc o).grownBy w4 v'.ownBlock) : w4.ownsRow b e m v n l :=
  row_keep h (fun k hk => (hg.block k (by have := (row_lt h k hk).2; simp; omega) (fun e' => by have := (row_lt hV k e').1; have := hlt k hk; omega)).trans (Below.heap_alloc _ _ _ (row_lt h k hk).2))

/-- What stands, behind the turns. -/
structure Env (X : Nat → Prop) (w : World) (bd ba bl bi : Nat) (D : List Bool) (A : List Int) (L : Pairs) (rowR : Option Nat) (adL : Option Addr) (vc : Value) (C : List En) (wr : World) : Prop where
  fl : Fl wr bd D
  sb : Sb2 wr ba bl bi A L rowR adL
  cm : wr.ownsRow w.heap.size 97 2 vc C.length (ev C)
  fr : Fr X w wr
theorem Env.drew {X : Nat → Prop} {w wr : World} {bd ba bl bi : Nat} {D : List Bool} {A : List Int} {L : Pairs} {rowR : Option Nat} {adL : Option Addr} {vc : Value} {C : List En} (h : Env X w bd ba bl bi D A L rowR adL vc C wr) : Env X w bd ba bl bi D A L rowR adL vc C wr.drew :=
  ⟨h.fl, h.sb.drew, h.cm, h.fr.drew⟩
theorem Env.below {X : Nat → Prop} {w wr wr' : World} {bd ba bl bi : Nat} {D : List Bool} {A : List Int} {L : Pairs} {rowR : Option Nat} {adL : Option Addr} {vc : Value} {C : List En} (h : Env X w bd ba bl bi D A L rowR adL vc C wr) (hb : Below wr.heap.size wr wr') : Env X w bd ba bl bi D A L rowR adL vc C wr' :=
  ⟨(hb.block _ h.fl.lt).trans h.fl, h.sb.below hb, row_keep h.cm (fun k e => hb.block k (row_lt h.cm k e).2), h.fr.trans (Fr.of (X := fun _ => False) hb) (fun _ c => c.elim)⟩
theorem Env.grow {X : Nat → Prop} {w wr w4 : World} {B1 bd ba bl bi n : Nat} {D : List Bool} {A : List Int} {L : Pairs} {rowR : Option Nat} {adL : Option Addr} {vc v : Value} {C : List En} {l : List Value} {o : Obj} (h : Env X w bd ba bl bi D A L rowR adL vc C wr)
    (hV : (wr.alloc o).ownsRow B1 97 2 v n l) (hg : (wr.alloc o).grownBy w4 v.ownBlock) (hB : w.heap.size ≤ B1) (hL : 0 < L.length → ∀ a, adL = some a → a.block < w.heap.size) (hC : ∀ k, some k = vc.ownBlock → k < B1) : Env X w bd ba bl bi D A L rowR adL vc C w4 := by
  have hfl := h.fl
  unfold Fl at hfl
  refine ⟨(hg.block bd (by have := h.fl.lt; simp; omega) (fun e => ?_)).trans ((Below.heap_alloc _ _ _ h.fl.lt).trans hfl), (h.sb.below ((Below.refl _ _).alloc (Nat.le_refl _) o)).came hV hg (fun hp a e => by have := hL hp a e; omega), row_past h.cm hC hV hg, (h.fr.alloc o).grown hg (fun k e => Or.inr (by have := (row_lt hV k e.symm).1; omega))⟩
  obtain ⟨cur, hc⟩ := row_type hV bd e
  rw [Below.heap_alloc _ _ _ h.fl.lt, hfl] at hc
  simp at hc

/-- Where the numbers of the document's answer's boxes lie. -/
structure Bx6 (w : World) (ba bl bi bd bm : Nat) : Prop where
  a : w.heap.size = ba
  l : w.heap.size < bl
  i : w.heap.size < bi
  d : w.heap.size < bd
  m : bd < bm

set_option maxRecDepth 100000 in
set_option maxHeartbeats 4000000 in
theorem settled_any {w : World} (ad0 ad1 adL a : Option Addr) (r q : List En) (A : List Int) (L : Pairs) (c0 c1 ca cl : Nat) (hr : r.length ≤ 60) (hq : q.length ≤ 60) (hA : A.length ≤ 100) (hL : L.length ≤ 100)
    (h0 : Lp w ad0 r) (h1 : Lp w ad1 q) (h3 : Lp w adL L) (h2 : w.ownsRow 0 2 1 (.slice a A.length ca) A.length (A.map (Value.int .i64)))
    (k0 : 0 < r.length → ∀ z, ad0 = some z → some z.block ≠ (Value.slice a A.length ca).ownBlock) (k1 : 0 < q.length → ∀ z, ad1 = some z → some z.block ≠ (Value.slice a A.length ca).ownBlock) (k3 : 0 < L.length → ∀ z, adL = some z → some z.block ≠ (Value.slice a A.length ca).ownBlock) :
    Calls Try.prog 76 #[.slice ad0 r.length c0, .slice ad1 q.length c1, .slice a A.length ca, .slice adL L.length cl] w fun e w' => ∃ v1 v2 v3, e = .returned (.tuple #[v1, v2, v3]) ∧ w'.ownsRow w.heap.size 97 2 v1 (r.filter (fun e => A.contains e.2 && (tf L A r).1.contains e.1)).length (ev (r.filter (fun e => A.contains e.2 && (tf L A r).1.contains e.1))) ∧
      w'.ownsRow w.heap.size 97 2 v2 (q.filter (fun e => (tf L A r).1.contains e.1) ++ (tf L A r).2.1.filter (fun e => (tf L A r).1.contains e.1)).length (ev (q.filter (fun e => (tf L A r).1.contains e.1) ++ (tf L A r).2.1.filter (fun e => (tf L A r).1.contains e.1))) ∧ Fr (fun k => some k = (Value.slice a A.length ca).ownBlock) w w' := by
  obtain ⟨i0, hi, hz0, hz1, hz2⟩ := info_parts infoBool
  have tag : True := trivial
  go_enter Try.func76, Try.ntmps76
  go_wp2_with (first
    | (at_make; clear tag; refine wpList_make_full _ rfl _ _ 139 rfl w.heap.size 4 i0 (.bool false) 1 Try.underlying139 hi hz0 hz1 .i64 .i64 _ _ r.length rfl rfl (by omega) (by omega) (by rw [hz2]; omega) (by unfold maxLen; omega) (by simp; omega) ?_; intro w1 hown1 hgrow1)
    | (at_make; refine wpList_make_full _ rfl _ _ 139 rfl w.heap.size 4 i0 (.bool false) 1 Try.underlying139 hi hz0 hz1 .i64 .i64 _ _ r.length rfl rfl (by omega) (by omega) (by rw [hz2]; omega) (by unfold maxLen; omega) (by have := hgrow1.size; simp at this; omega) ?_; intro w2 hown2 hgrow2))
  have s1 := hgrow1.size
  have s2 := hgrow2.size
  simp only [World.size_alloc] at s1
  have hS : Sb2 w2 w.heap.size (w.heap.size + 1) (w.heap.size + 1 + 1) A L (Value.slice a A.length ca).ownBlock adL := by
    have f0 : Fr (fun _ => False) w w2 := (((((Fr.refl _ w).alloc _).alloc _).alloc _).grown hgrow1 (fun _ e => by cases e)).grown hgrow2 (fun _ e => by cases e)
    have z0 : w2.heap[w.heap.size]? = some (.cells #[.slice a A.length ca] 54 (0, 0)) := by
      rw [hgrow2.block _ (by omega) (by simp), hgrow1.block _ (by simp; omega) (by simp), Below.heap_alloc _ _ _ (by simp; omega), Below.heap_alloc _ _ _ (by simp)]
      exact heap_alloc_new _ _
    have z1 : w2.heap[w.heap.size + 1]? = some (.cells #[.slice adL L.length cl] 94 (0, 0)) := by
      rw [hgrow2.block _ (by omega) (by simp), hgrow1.block _ (by simp) (by simp), Below.heap_alloc _ _ _ (by simp)]
      simpa using heap_alloc_new (w.alloc (.cells #[.slice a A.length ca] 54)) (.cells #[.slice adL L.length cl] 94)
    have z2 : w2.heap[w.heap.size + 1 + 1]? = some (.cells #[.func (.func 108) #[] #[.pointer (some ⟨w.heap.size, 0, none⟩)]] 102 (0, 0)) := by
      rw [hgrow2.block _ (by omega) (by simp), hgrow1.block _ (by simp) (by simp)]
      simpa using heap_alloc_new ((w.alloc (.cells #[.slice a A.length ca] 54)).alloc (.cells #[.slice adL L.length cl] 94)) (.cells #[.func (.func 108) #[] #[.pointer (some ⟨w.heap.size, 0, none⟩)]] 102)
    refine ⟨⟨a, ca, z0, row_fr h2 f0 (fun _ _ => id), rfl⟩, ⟨cl, z1⟩, z2, h3.fr f0 (fun _ _ _ => id), fun hp z e => ⟨?_, k3 hp z e⟩⟩
    obtain ⟨b, o, e2, hb, _⟩ := h3 hp
    rw [e] at e2
    cases e2
    simp at hb ⊢
    omega
  have hF : Fr (fun k => some k = (Value.slice a A.length ca).ownBlock) w w2 := (((((Fr.refl _ w).alloc _).alloc _).alloc _).grown hgrow1 (fun _ e => by cases e)).grown hgrow2 (fun _ e => by cases e)
  have hD : Fl w1 (w.heap.size + 1 + 1 + 1) (List.replicate r.length false) := made_flags (by simpa using hown1)
  have hDl := hD.lt
  have hD : Fl w2 (w.heap.size + 1 + 1 + 1) (List.replicate r.length false) := (hgrow2.block _ hD.lt (by simp)).trans hD
  have hM : Fl w2 w1.heap.size (List.replicate r.length false) := made_flags hown2
  obtain ⟨ba, hba⟩ : ∃ ba, ba = w.heap.size := ⟨_, rfl⟩
  have hX : Bx6 w w.heap.size (w.heap.size + 1) (w.heap.size + 1 + 1) (w.heap.size + 1 + 1 + 1) w1.heap.size := ⟨rfl, by omega, by omega, by omega, by omega⟩
  generalize w.heap.size + 1 + 1 + 1 = bd at hD hX ⊢
  generalize w.heap.size + 1 + 1 = bi at hS hX ⊢
  generalize w.heap.size + 1 = bl at hS hX ⊢
  generalize w1.heap.size = bm at hM hX ⊢
  rw [← hba] at hS hX
  rw [← hba]
  have HXa : Hid (w.heap.size = ba) := hX.a
  have hXl := hX.l
  have hXi := hX.i
  have hXd := hX.d
  have hXm := hX.m
  clear hown1 hown2 hgrow1 hgrow2 s1 s2 hX hDl hba
  have H0 : Hid (Lp w ad0 r) := h0
  have H1 : Hid (Lp w ad1 q) := h1
  have K3 : Hid (0 < L.length → ∀ z, adL = some z → z.block < w.heap.size) := fun hp z e => by
    obtain ⟨b, o, e2, hb, _⟩ := h3 hp
    rw [e] at e2
    cases e2
    exact hb
  clear h0 h1 h2 h3
  go_loopw [15] (fun i wr => ∃ j : Nat, j ≤ r.length ∧ i = .int .i64 j ∧ Fl wr bd (dl A r j) ∧ Fl wr bm (List.replicate r.length false) ∧ Sb2 wr ba bl bi A L (Value.slice a A.length ca).ownBlock adL ∧ Fr (fun k => some k = (Value.slice a A.length ca).ownBlock) w wr) (fun i _ => r.length - (intOf i).toNat)
  case atStart => exact ⟨0, Nat.zero_le _, rfl, by rw [dl_zero]; exact hD, hM, hS, hF⟩
  case round =>
    clear hD hM hS hF
    obtain ⟨j, hj, rfl, hD, hM, hS, hF⟩ := hrel
    by_cases hlt : j < r.length
    · have hLw := H0.out.fr hF (fun hp z e => fun c => k0 hp z e c)
      obtain ⟨b0, o0, rfl, hb0, _⟩ := H0.out (by omega)
      obtain ⟨b0', o0', e0, _, hc⟩ := hLw (by omega)
      cases e0
      have nb0 : b0 ≠ bd := by omega
      have nbi : bi ≠ bd := fun e => by
        have h1 := hS.is
        rw [e, show wr.heap[bd]? = _ from hD] at h1
        simp at h1
      obtain ⟨x1, x2⟩ := hc j hlt
      have y0 : wr.cell? ⟨bi, 0, none⟩ = some (.func (.func 108) #[] #[.pointer (some ⟨ba, 0, none⟩)]) := by simp [World.cell?, hS.is]
      have y1 := hD.cell j (by rw [dl_len A r j hj]; exact hlt)
      have y2 := hD.frozen j
      obtain ⟨a', ca', q1, q2, q3⟩ := hS.sl
      have y3 : wr.cell? ⟨ba, 0, none⟩ = some (.slice a' A.length ca') := by simp [World.cell?, q1]
      have hli : (j : Int) < (r.length : Int) := by omega
      have hj0 : (0 : Int) ≤ j := by omega
      have HS : Hid ((dl A r j).set j (!A.contains (r.getD j (0, 0)).2) = dl A r (j + 1)) := dl_set A r j hlt
      generalize (r.getD j (0, 0)).2 = z at x2 HS
      generalize (dl A r j).getD j false = d0 at y1
      clear hc x1
      go_wp2_with fail
      go_region_held3 (fun w' => w'.cell? ⟨bi, 0, none⟩ = some (.func (.func 108) #[] #[.pointer (some ⟨ba, 0, none⟩)]) ∧ w'.cell? ⟨b0, o0 + j * 2 + 1, none⟩ = some (.int .i64 z)) (first | exact ⟨(cell_setB _ _ _ nbi).trans y0, (cell_setB _ _ _ nb0).trans x2⟩ | go_keep)
        (first | (go_at_call 108; refine (is1_any (c := ba) (ca := ca') (a := a') (A := A) z ?_ ?_ ?_).mono ?_; exact y3; exact row_ints q2; omega; rintro e w3 ⟨rfl, rfl⟩))
      have eb : (!decide (z ∈ A)) = !A.contains z := by simp
      have hD' := hD.set j (!A.contains z)
      rw [HS.out, ← eb] at hD'
      have hM' : Fl (wr.setCell ⟨bd, j, none⟩ (.bool (!decide (z ∈ A)))) bm (List.replicate r.length false) := (Below.heap_setCell _ _ _ _ (by simp; omega)).trans hM
      have hS' := hS.flag (j := j) hD (fun hp a e => by have := K3.out hp a e; omega) (.bool (!decide (z ∈ A)))
      have hF' := fr_flag (j := j) hF (Nat.le_of_lt hXd) (.bool (!decide (z ∈ A)))
      clear eb
      go_wp2_with fail
      go_roundw
      case rel => exact ⟨j + 1, by omega, by go_num, hD', hM', hS'.drew, hF'.drew⟩
      case measure => simp [intOf]; omega
    · obtain rfl : j = r.length := by omega
      rw [dl_all] at hD
      obtain ⟨D, HD⟩ : ∃ D, Hid (D = r.map (fun e => !A.contains e.2)) := ⟨_, rfl⟩
      rw [← HD.out] at hD
      have hDl : D.length = r.length := by rw [HD.out]; simp
      have HT0 : Hid (turns isL (kpL L) (r.length + 1) (rem r D (List.replicate r.length false)) A [] = tf L A r) := by
        show turns isL (kpL L) (r.length + 1) (rem r D (List.replicate r.length false)) A [] = tf L A r
        rw [HD.out, rem_first (fun e => A.contains e.2)]
        rfl
      clear hj hlt
      go_wp2_with fail
      go_loopw [16, 17] (fun vc mv wr => ∃ (M : List Bool) (A1 : List Int) (C : List En) (mr : Bool) (rowR : Option Nat) (ac : Option Addr) (cc : Nat), mv = .bool mr ∧ vc = .slice ac C.length cc ∧ wr.ownsRow w.heap.size 97 2 (.slice ac C.length cc) C.length (ev C) ∧ Fl wr bd D ∧ Fl wr bm M ∧ M.length = r.length ∧
          Sb2 wr ba bl bi A1 L rowR adL ∧ Fr (fun k => some k = (Value.slice a A.length ca).ownBlock) w wr ∧ Hid (rowR = (Value.slice a A.length ca).ownBlock ∨ ∃ k, rowR = some k ∧ w.heap.size ≤ k) ∧ A1.length + mu L A1 ≤ 200 + C.length ∧ C.length + (rem r D M).length ≤ r.length ∧
          Hid (mr = true → ∃ n, (rem r D M).length < n ∧ turns isL (kpL L) n (rem r D M) A1 C = tf L A r) ∧ Hid (mr = false → (A1, C, rem r D M) = tf L A r))
        (fun vc mv _ => 2 * (r.length - slen vc) + bval mv)
      case atStart =>
        refine ⟨_, A, [], true, _, none, 0, rfl, rfl, World.ownsRow_nil _ _ _ _, hD, hM, by simp, hS, hF, Or.inl rfl, ?_, ?_, fun _ => ⟨r.length + 1, ?_, HT0.out⟩, fun h => by cases h⟩
        · have := mu_le L A; simp; omega
        · have := rem_len r D (List.replicate r.length false); simp; omega
        · have := rem_len r D (List.replicate r.length false); omega
      case round =>
        clear hM hS hF hD HT0
        obtain ⟨M, A1, C, mr, rowR, ac, cc, rfl, rfl, hO, hD, hM, hMl, hS, hF, HR, hA1, hC, HT, HE⟩ := hrel
        cases mr with
        | true =>
          obtain ⟨n, hn, HT⟩ := HT.out rfl
          clear HE
          go_wp2_with fail
          have hwr0 := hF.size
          go_loopw [16, 17, 18] (fun vc mv iv wr => ∃ (j : Nat) (M2 : List Bool) (A2 : List Int) (C2 : List En) (mr : Bool) (rowR : Option Nat) (ac : Option Addr) (cc : Nat), j ≤ r.length ∧ iv = .int .i64 j ∧ mv = .bool mr ∧ Hid (mr = decide (C.length < C2.length)) ∧ C.length ≤ C2.length ∧ vc = .slice ac C2.length cc ∧
              wr.ownsRow w.heap.size 97 2 (.slice ac C2.length cc) C2.length (ev C2) ∧ Fl wr bd D ∧ Fl wr bm M2 ∧ Hid (Far isL (kpL L) r D (pass isL (kpL L) (rem r D M) A1 C []) j A2 C2 M2) ∧
              Sb2 wr ba bl bi A2 L rowR adL ∧ Fr (fun k => some k = (Value.slice a A.length ca).ownBlock) w wr ∧ Hid (rowR = (Value.slice a A.length ca).ownBlock ∨ ∃ k, rowR = some k ∧ w.heap.size ≤ k) ∧ A2.length + mu L A2 ≤ 200 + C2.length)
            (fun _ _ iv _ => r.length - (intOf iv).toNat)
          case atStart => exact ⟨0, M, A1, C, false, rowR, ac, cc, Nat.zero_le _, rfl, rfl, by simp [Hid], Nat.le_refl _, rfl, hO, hD, hM, Far.start hDl hMl, hS, hF, HR, hA1⟩
          case round =>
            clear hO hD hM hS hF HR hA1 hwr0
            obtain ⟨j, M2, A2, C2, mr, rowR, ac, cc, hj, rfl, rfl, HM, hCC, rfl, hO, hD, hM, HFar, hS, hF, HR, hA2⟩ := hrel
            have hCl := far_len HFar.out
            have hM2 := HFar.out.hM
            by_cases hlt : j < r.length
            · have hLw := H0.out.fr hF (fun hp z e => fun c => k0 hp z e c)
              obtain ⟨b0, o0, e0', hb0, _⟩ := H0.out (by omega)
              obtain ⟨b0', o0', e0, _, hc⟩ := hLw (by omega)
              rw [e0'] at e0
              cases e0
              obtain ⟨x1, x2⟩ := hc j hlt
              have y1 := hD.cell j (by omega)
              have y2 := hM.cell j (by omega)
              have y0 : wr.cell? ⟨bi, 0, none⟩ = some (.func (.func 108) #[] #[.pointer (some ⟨ba, 0, none⟩)]) := by simp [World.cell?, hS.is]
              obtain ⟨a', ca', q1, q2, q3⟩ := hS.sl
              have y3 : wr.cell? ⟨ba, 0, none⟩ = some (.slice a' A2.length ca') := by simp [World.cell?, q1]
              clear hc hLw
              subst e0'
              by_cases hf : (D.getD j false && !M2.getD j false) = true
              · have HF := hf
                rw [Bool.and_eq_true, Bool.not_eq_true'] at HF
                rw [HF.1] at y1
                rw [HF.2] at y2
                clear HF
                cases hg : A2.contains (r.getD j (0, 0)).1
                · have HFar' : Hid (Far isL (kpL L) r D (pass isL (kpL L) (rem r D M) A1 C []) (j + 1) A2 C2 M2) := HFar.out.left hlt hf hg
                  clear hf
                  generalize (r.getD j (0, 0)).1 = g at x1 hg
                  have hg' : ¬ g ∈ A2 := by simpa using hg
                  clear x2 hg
                  go_wp2_with fail
                  go_region_held3 (fun w' => w'.cell? ⟨bd, j, none⟩ = some (.bool true) ∧ w'.cell? ⟨bm, j, none⟩ = some (.bool false) ∧ w'.cell? ⟨bi, 0, none⟩ = some (.func (.func 108) #[] #[.pointer (some ⟨ba, 0, none⟩)]) ∧ w'.cell? ⟨b0, o0 + j * 2, none⟩ = some (.int .i64 g)) (go_keep)
                    (first | (go_at_call 108; refine (is1_any (c := ba) (ca := ca') (a := a') (A := A2) g ?_ ?_ ?_).mono ?_; exact y3; exact row_ints q2; omega; rintro e w3 ⟨rfl, rfl⟩))
                  go_wp2_with fail
                  go_roundw
                  case rel => exact ⟨j + 1, M2, A2, C2, mr, rowR, ac, cc, by omega, by go_num, rfl, HM, hCC, rfl, hO, hD, hM, HFar', hS.below (below_drewN (Below.refl _ _) _), hF.trans (Fr.of (X := fun _ => False) (below_drewN (Below.refl _ _) _)) (fun _ c => c.elim), HR, hA2⟩
                  case measure => simp [intOf]; omega
                · have HFar' : Hid (Far isL (kpL L) r D (pass isL (kpL L) (rem r D M) A1 C []) (j + 1) (bfs L (L.length + 2) A2 [(r.getD j (0, 0)).2]) (C2 ++ [((r.getD j (0, 0)).1, (r.getD j (0, 0)).2)]) (M2.set j true)) := HFar.out.come hlt hf hg
                  clear hf
                  have hrow : ∀ k, some k = rowR → ∃ cur, wr.heap[k]? = some (.cells cur 2 (0, 0)) := fun k e => row_type q2 k (by rw [q3, e])
                  have HRow : Hid (∀ k, some k = rowR → ∃ cur, wr.heap[k]? = some (.cells cur 2 (0, 0))) := hrow
                  have HRw : Hid (∀ k, some k = rowR → k ≠ b0) := fun k e e' => by
                    rcases HR.out with c | ⟨k', c, ck⟩
                    · exact k0 (by omega) ⟨b0, o0, none⟩ rfl (by rw [← c, ← e, e'])
                    · rw [c] at e; simp at e; omega
                  have hbl := bfs_len L (L.length + 2) A2 [(r.getD j (0, 0)).2]
                  generalize (r.getD j (0, 0)).1 = g at x1 hg HFar'
                  generalize (r.getD j (0, 0)).2 = z at x2 HFar' hbl
                  have hg' : g ∈ A2 := by simpa using hg
                  have hmuL := mu_le L A2
                  clear hg hrow
                  go_wp2_with fail
                  go_region_held3 (fun w' => w'.cell? ⟨bd, j, none⟩ = some (.bool true) ∧ w'.cell? ⟨bm, j, none⟩ = some (.bool false) ∧ w'.cell? ⟨bi, 0, none⟩ = some (.func (.func 108) #[] #[.pointer (some ⟨ba, 0, none⟩)]) ∧ w'.cell? ⟨b0, o0 + j * 2, none⟩ = some (.int .i64 g)) (go_keep)
                    (first | (go_at_call 108; refine (is1_any (c := ba) (ca := ca') (a := a') (A := A2) g ?_ ?_ ?_).mono ?_; exact y3; exact row_ints q2; omega; rintro e w3 ⟨rfl, rfl⟩))
                  go_wp2_with fail
                  refine (keep2_any z (L.length + 2) hS.drew (by omega) (by omega) (by omega)).mono ?_
                  rintro e w3 ⟨rfl, rowB, hS3, hF3, hB3⟩
                  have hF3 : Fr (fun k => k = ba ∨ some k = rowR) wr w3 := (Fr.refl _ wr).drew.trans hF3 (fun i c => Or.inl c)
                  have hXa := HXa.out
                  have nR : ∀ k cur t, wr.heap[k]? = some (.cells cur t (0, 0)) → t ≠ 2 → t ≠ 54 → ¬ (k = ba ∨ some k = rowR) := fun k cur t h1 h2 h4 c => by
                    rcases c with c | c
                    · rw [c, q1] at h1; simp at h1; exact h4 h1.2.symm
                    · obtain ⟨cur', h5⟩ := HRow.out k c
                      rw [h1] at h5; simp at h5; exact h2 h5.2
                  have hD3 : Fl w3 bd D := hD.fr hF3 (nR _ _ _ hD (by decide) (by decide))
                  have hM3 : Fl w3 bm M2 := hM.fr hF3 (nR _ _ _ hM (by decide) (by decide))
                  have hO3 : w3.ownsRow w.heap.size 97 2 (.slice ac C2.length cc) C2.length (ev C2) := row_fr hO hF3 (fun k e => by
                    obtain ⟨cur, hc⟩ := row_type hO k e
                    exact nR _ _ _ hc (by decide) (by decide))
                  have hb0' : ¬ (b0 = ba ∨ some b0 = rowR) := fun c => c.elim (fun c => by omega) (fun c => HRw.out b0 c rfl)
                  have hb0w : b0 < wr.heap.size := Nat.lt_of_lt_of_le hb0 hF.size
                  have x1' : w3.cell? ⟨b0, o0 + j * 2, none⟩ = some (.int .i64 g) := (World.cell?_of_block (a := ⟨b0, o0 + j * 2, none⟩) (hF3.block b0 hb0w hb0')).trans x1
                  have x2' : w3.cell? ⟨b0, o0 + j * 2 + 1, none⟩ = some (.int .i64 z) := (World.cell?_of_block (a := ⟨b0, o0 + j * 2 + 1, none⟩) (hF3.block b0 hb0w hb0')).trans x2
                  have hF4 : Fr (fun k => some k = (Value.slice a A.length ca).ownBlock) w w3 := hF.trans hF3 (fun i c => by
                    rcases c with c | c
                    · exact Or.inr (by omega)
                    · rcases HR.out with d | ⟨k, d, dk⟩
                      · exact Or.inl (by rw [← d]; exact c)
                      · rw [d] at c; simp at c; exact Or.inr (by omega))
                  have HRB : Hid (rowB = (Value.slice a A.length ca).ownBlock ∨ ∃ k, rowB = some k ∧ w.heap.size ≤ k) := by
                    rcases hB3 with d | ⟨k, d, dk⟩
                    · rw [d]; exact HR.out
                    · exact Or.inr ⟨k, d, Nat.le_trans hF.size dk⟩
                  have hb3 : b0 < w3.heap.size := Nat.lt_of_lt_of_le hb0 hF4.size
                  have hFs := hF4.size
                  have hMl3 := hM3.lt
                  obtain ⟨ie, hie, hze0, hze1, hze2⟩ := info_parts infoEntry
                  have nM : some bm ≠ (Value.slice ac C2.length cc).ownBlock := fun e => by
                    obtain ⟨cur, hc⟩ := row_type hO3 bm e
                    rw [show w3.heap[bm]? = _ from hM3] at hc
                    simp at hc
                  have nD : some bd ≠ (Value.slice ac C2.length cc).ownBlock := fun e => by
                    obtain ⟨cur, hc⟩ := row_type hO3 bd e
                    rw [show w3.heap[bd]? = _ from hD3] at hc
                    simp at hc
                  have hDl3 := hD3.lt
                  clear hO hD hM hS hF hF3 hB3 HR x1 x2 y0 y1 y2 y3 q1 q2 q3 nR HRow HRw hb0' hb0w hg'
                  go_wp2_with (at_builtin; refine wpList_append_own_at _ rfl _ _ 96 rfl w.heap.size 97 ie (.agg #[.int .i64 0, .int .i64 0]) 2 16 Try.underlying96 hie hze0 hze1 hze2 rfl (by decide) (.slice ac C2.length cc) C2.length (ev C2) rfl (hO3.alloc _) ⟨w3.heap.size, 0, none⟩ 1 1 [.int .i64 g, .int .i64 z] rfl rfl ?_ ?_ ?_ ?_ ?_ ?_; (intro j u hj; match j, hj with | 0, hj => (simp at hj; subst hj; simp [Addr.add]) | 1, hj => (simp at hj; subst hj; simp [Addr.add])); (intro u hu; simp at hu; rcases hu with hu | hu <;> (subst hu; rfl)); (unfold maxLen; omega); omega; (simp; omega); intro v' w4 hown4 hgrow4 _ hloc4; obtain ⟨b4, cap4, ev4⟩ := row_shape hown4 (Nat.succ_pos _); subst ev4; have hM4 : Fl w4 bm M2 := (hgrow4.block bm (by simp; omega) nM).trans ((Below.heap_alloc _ _ _ hMl3).trans hM3); have cM4 := hM4.cell j (by omega); have fM4 := hM4.frozen j)
                  have hD4 : Fl w4 bd D := (hgrow4.block bd (by simp; omega) nD).trans ((Below.heap_alloc _ _ _ hDl3).trans hD3)
                  have hD5 : Fl (w4.setCell ⟨bm, j, none⟩ (.bool true)) bd D := (Below.heap_setCell _ _ _ _ (by simp; omega)).trans hD4
                  have hM5 := hM4.set j true
                  have hO5 : (w4.setCell ⟨bm, j, none⟩ (.bool true)).ownsRow w.heap.size 97 2 (.slice (some ⟨b4, 0, none⟩) (C2 ++ [(g, z)]).length cap4) (C2 ++ [(g, z)]).length (ev (C2 ++ [(g, z)])) := by
                    have h5 := row_keep (w' := w4.setCell ⟨bm, j, none⟩ (.bool true)) hown4 (fun k e => Below.heap_setCell _ _ _ _ (fun e' => by
                      obtain ⟨cur, hc⟩ := row_type hown4 k e
                      rw [e', show w4.heap[bm]? = _ from hM4] at hc
                      simp at hc))
                    rw [ev_append]
                    simpa [ev] using h5
                  have hS4 := (hS3.below ((Below.refl _ _).alloc (Nat.le_refl _) (.cells #[.int .i64 g, .int .i64 z] 97))).came (hO3.alloc _) hgrow4 K3.out
                  have hS5 := hS4.flag (j := j) hM4 (fun hp a e => by have := K3.out hp a e; omega) (.bool true)
                  have hF5 := fr_flag (j := j) ((hF4.alloc (.cells #[.int .i64 g, .int .i64 z] 97)).grown hgrow4 (fun k e => Or.inr (row_lt hO3 k e.symm).1)) (by omega) (.bool true) (bd := bm)
                  clear hown4 hgrow4 hloc4 hM4 cM4 fM4 hD4 hS4 hS3 hO3 hD3 hM3 hF4 x1' x2' nM nD
                  go_wp2_with fail
                  go_roundw
                  case rel => exact ⟨j + 1, M2.set j true, _, C2 ++ [(g, z)], true, rowB, some ⟨b4, 0, none⟩, cap4, by omega, by go_num, rfl, by simp [Hid]; omega, by simp; omega, by simp, hO5, hD5, hM5, HFar', hS5, hF5, HRB, by rw [List.length_append, List.length_singleton]; simp at hbl; omega⟩
                  case measure => simp [intOf]; omega
              · have HFar' : Hid (Far isL (kpL L) r D (pass isL (kpL L) (rem r D M) A1 C []) (j + 1) A2 C2 M2) := HFar.out.skip hlt (by simpa using hf)
                cases hd : D.getD j false
                · rw [hd] at y1
                  generalize M2.getD j false = m0 at y2
                  clear hf hd x1 x2
                  go_wp2_with fail
                  go_quiet (fail)
                  go_wp2_with fail
                  go_roundw
                  case rel => exact ⟨j + 1, M2, A2, C2, mr, rowR, ac, cc, by omega, by go_num, rfl, HM, hCC, rfl, hO, hD, hM, HFar', hS.below (below_drewN (Below.refl _ _) _), hF.trans (Fr.of (X := fun _ => False) (below_drewN (Below.refl _ _) _)) (fun _ c => c.elim), HR, hA2⟩
                  case measure => simp [intOf]; omega
                · have hm : M2.getD j false = true := by
                    rw [hd] at hf
                    simpa using hf
                  rw [hd] at y1
                  rw [hm] at y2
                  clear hf hd hm x1 x2
                  go_wp2_with fail
                  go_quiet (fail)
                  go_wp2_with fail
                  go_roundw
                  case rel => exact ⟨j + 1, M2, A2, C2, mr, rowR, ac, cc, by omega, by go_num, rfl, HM, hCC, rfl, hO, hD, hM, HFar', hS.below (below_drewN (Below.refl _ _) _), hF.trans (Fr.of (X := fun _ => False) (below_drewN (Below.refl _ _) _)) (fun _ c => c.elim), HR, hA2⟩
                  case measure => simp [intOf]; omega
            · obtain rfl : j = r.length := by omega
              have hst := HFar.out.stop
              have hp := pass_len (is := isL) (kp := kpL L) (rem r D M) A1 C []
              rw [← hst] at hp
              simp at hp
              obtain ⟨n', rfl⟩ : ∃ n', n = n' + 1 := ⟨n - 1, by omega⟩
              have HTt : Hid (mr = true → ∃ n, (rem r D M2).length < n ∧ turns isL (kpL L) n (rem r D M2) A2 C2 = tf L A r) := fun h => by
                have hlt2 : C.length < C2.length := by rw [HM.out] at h; simpa using h
                have h5 := turns_go (is := isL) (kp := kpL L) (n := n') (D := rem r D M) (s := A1) (C := C) (by rw [← hst]; simp; omega)
                rw [HT, ← hst] at h5
                exact ⟨n', by omega, h5.symm⟩
              have HTf : Hid (mr = false → (A2, C2, rem r D M2) = tf L A r) := fun h => by
                have hlt2 : ¬ C.length < C2.length := by rw [HM.out] at h; simpa using h
                have h5 := turns_stop (is := isL) (kp := kpL L) (n := n') (D := rem r D M) (s := A1) (C := C) (by rw [← hst]; simp; omega)
                rw [HT] at h5
                rw [hst]
                exact h5.symm
              have hme : 2 * (r.length - C2.length) + bval (.bool mr) < 2 * (r.length - C.length) + 1 := by
                have := HM.out
                cases mr
                · simp at this; simp [bval]; omega
                · simp at this; simp [bval]; omega
              clear hst HFar HT
              go_wp2_with fail
              go_roundw
              case rel => exact ⟨M2, A2, C2, mr, rowR, ac, cc, rfl, rfl, hO, hD, hM, hM2, hS, hF, HR, hA2, by omega, HTt, HTf⟩
              case measure => simp [slen]; simpa [bval] using hme
        | false =>
          have HE : Hid ((A1, C, rem r D M) = tf L A r) := HE.out rfl
          clear HT
          obtain ⟨ie, hie, hze0, hze1, hze2⟩ := info_parts infoEntry
          obtain ⟨B1, HB1⟩ : ∃ B1, Hid (B1 = wr.heap.size) := ⟨_, rfl⟩
          have hB1 : w.heap.size ≤ B1 := by rw [HB1.out]; exact hF.size
          have hBw : B1 ≤ wr.heap.size := by rw [HB1.out]; exact Nat.le_refl _
          have HC1 : Hid (∀ k, some k = (Value.slice ac C.length cc).ownBlock → k < B1) := fun k e => by rw [HB1.out]; exact (row_lt hO k e).2
          have hEn : Env (fun k => some k = (Value.slice a A.length ca).ownBlock) w bd ba bl bi D A1 L rowR adL (.slice ac C.length cc) C wr := ⟨hD, hS, hO, hF⟩
          have hCr : C.length ≤ 60 := by omega
          clear HB1 hD hS hO hF hM hMl hC
          go_wp2_with fail
          go_loopw [19, 21] (fun vr iv wr => ∃ (j : Nat) (V : List En) (av : Option Addr) (cv : Nat), j ≤ r.length ∧ iv = .int .i64 j ∧ Hid (V = fl (fun e => A.contains e.2 && A1.contains e.1) r j) ∧ vr = .slice av V.length cv ∧ wr.ownsRow B1 97 2 (.slice av V.length cv) V.length (ev V) ∧
              Env (fun k => some k = (Value.slice a A.length ca).ownBlock) w bd ba bl bi D A1 L rowR adL (.slice ac C.length cc) C wr ∧ B1 ≤ wr.heap.size) (fun _ iv _ => r.length - (intOf iv).toNat)
          case atStart => exact ⟨0, [], none, 0, Nat.zero_le _, rfl, by simp [Hid, fl_zero], rfl, World.ownsRow_nil _ _ _ _, hEn, hBw⟩
          case round =>
            clear hEn hBw
            obtain ⟨j, V, av, cv, hj, rfl, HV, rfl, hV, hEn, hBw⟩ := hrel
            have hVl : V.length ≤ 60 := by rw [HV.out]; exact Nat.le_trans (fl_len _ _ _) hr
            by_cases hlt : j < r.length
            · have hLw := H0.out.fr hEn.fr (fun hp z e => fun c => k0 hp z e c)
              obtain ⟨b0, o0, e0', hb0, _⟩ := H0.out (by omega)
              obtain ⟨b0', o0', e0, _, hc⟩ := hLw (by omega)
              rw [e0'] at e0
              cases e0
              obtain ⟨x1, x2⟩ := hc j hlt
              have y1 := hEn.fl.cell j (by omega)
              have hdj : D.getD j false = !A.contains (r.getD j (0, 0)).2 := by
                rw [HD.out]
                simp [List.getElem?_eq_getElem hlt]
              rw [hdj] at y1
              have y0 : wr.cell? ⟨bi, 0, none⟩ = some (.func (.func 108) #[] #[.pointer (some ⟨ba, 0, none⟩)]) := by simp [World.cell?, hEn.sb.is]
              obtain ⟨a', ca', q1, q2, q3⟩ := hEn.sb.sl
              have y3 : wr.cell? ⟨ba, 0, none⟩ = some (.slice a' A1.length ca') := by simp [World.cell?, q1]
              have hb0w : b0 < wr.heap.size := Nat.lt_of_lt_of_le hb0 hEn.fr.size
              clear hc hLw hdj
              subst e0'
              cases hd : A.contains (r.getD j (0, 0)).2
              · have HV' : Hid (V = fl (fun e => A.contains e.2 && A1.contains e.1) r (j + 1)) := HV.out.trans (fl_no _ _ _ hlt (by rw [hd]; rfl)).symm
                rw [hd] at y1
                clear hd x1 x2
                go_wp2_with fail
                go_quiet (fail)
                go_wp2_with fail
                go_roundw
                case rel => exact ⟨j + 1, V, av, cv, by omega, by go_num, HV', rfl, hV, hEn.below (below_drewN (Below.refl _ _) _), hBw⟩
                case measure => simp [intOf]; omega
              · rw [hd] at y1
                cases hg : A1.contains (r.getD j (0, 0)).1
                · have HV' : Hid (V = fl (fun e => A.contains e.2 && A1.contains e.1) r (j + 1)) := HV.out.trans (fl_no _ _ _ hlt (by rw [hd, hg]; rfl)).symm
                  generalize (r.getD j (0, 0)).1 = g at x1 hg
                  have hg' : ¬ g ∈ A1 := by simpa using hg
                  clear hg hd x2
                  go_wp2_with fail
                  go_region_held3 (fun w' => w'.cell? ⟨bd, j, none⟩ = some (.bool false) ∧ w'.cell? ⟨bi, 0, none⟩ = some (.func (.func 108) #[] #[.pointer (some ⟨ba, 0, none⟩)]) ∧ w'.cell? ⟨b0, o0 + j * 2, none⟩ = some (.int .i64 g)) (go_keep)
                    (first | (go_at_call 108; refine (is1_any (c := ba) (ca := ca') (a := a') (A := A1) g ?_ ?_ ?_).mono ?_; exact y3; exact row_ints q2; omega; rintro e w3 ⟨rfl, rfl⟩))
                  go_wp2_with fail
                  go_roundw
                  case rel => exact ⟨j + 1, V, av, cv, by omega, by go_num, HV', rfl, hV, hEn.drew, hBw⟩
                  case measure => simp [intOf]; omega
                · have HV' : Hid (V ++ [((r.getD j (0, 0)).1, (r.getD j (0, 0)).2)] = fl (fun e => A.contains e.2 && A1.contains e.1) r (j + 1)) := by
                    show V ++ [r.getD j (0, 0)] = _
                    rw [fl_yes _ _ _ hlt (by rw [hd, hg]; rfl), HV.out]
                  generalize (r.getD j (0, 0)).1 = g at x1 hg HV'
                  have hg' : g ∈ A1 := by simpa using hg
                  clear hg hd
                  generalize (r.getD j (0, 0)).2 = z at x2 HV'
                  go_wp2_with fail
                  go_region_held3 (fun w' => w'.cell? ⟨bd, j, none⟩ = some (.bool false) ∧ w'.cell? ⟨bi, 0, none⟩ = some (.func (.func 108) #[] #[.pointer (some ⟨ba, 0, none⟩)]) ∧ w'.cell? ⟨b0, o0 + j * 2, none⟩ = some (.int .i64 g)) (go_keep)
                    (first | (go_at_call 108; refine (is1_any (c := ba) (ca := ca') (a := a') (A := A1) g ?_ ?_ ?_).mono ?_; exact y3; exact row_ints q2; omega; rintro e w3 ⟨rfl, rfl⟩))
                  have x1d : wr.drew.cell? ⟨b0, o0 + j * 2, none⟩ = some (.int .i64 g) := x1
                  have x2d : wr.drew.cell? ⟨b0, o0 + j * 2 + 1, none⟩ = some (.int .i64 z) := x2
                  have hbd : b0 < wr.drew.heap.size := hb0w
                  go_wp2_with (at_builtin; refine wpList_append_own_at _ rfl _ _ 96 rfl B1 97 ie (.agg #[.int .i64 0, .int .i64 0]) 2 16 Try.underlying96 hie hze0 hze1 hze2 rfl (by decide) (.slice av V.length cv) V.length (ev V) rfl (World.ownsRow.alloc (w := wr.drew) hV _) ⟨wr.heap.size, 0, none⟩ 1 1 [.int .i64 g, .int .i64 z] rfl rfl ?_ ?_ ?_ ?_ ?_ ?_; (intro j u hj; match j, hj with | 0, hj => (simp at hj; subst hj; simp [Addr.add]) | 1, hj => (simp at hj; subst hj; simp [Addr.add])); (intro u hu; simp at hu; rcases hu with hu | hu <;> (subst hu; rfl)); (unfold maxLen; omega); omega; (simp; omega); intro v' w4 hown4 hgrow4 _ hloc4; obtain ⟨b4, cap4, ev4⟩ := row_shape hown4 (Nat.succ_pos _); subst ev4)
                  have hEn4 := hEn.drew.grow (World.ownsRow.alloc (w := wr.drew) hV (.cells #[.int .i64 g, .int .i64 z] 97)) hgrow4 hB1 K3.out HC1.out
                  have hV4 : w4.ownsRow B1 97 2 (.slice (some ⟨b4, 0, none⟩) (V ++ [(g, z)]).length cap4) (V ++ [(g, z)]).length (ev (V ++ [(g, z)])) := by
                    rw [ev_append]
                    simpa [ev] using hown4
                  have hB4 : B1 ≤ w4.heap.size := by have := hgrow4.size; simp at this; omega
                  clear hown4 hgrow4 hloc4 hV hEn x1 x2 x1d x2d y0 y1 y3 q1 q2 q3
                  go_wp2_with fail
                  go_roundw
                  case rel => exact ⟨j + 1, V ++ [(g, z)], some ⟨b4, 0, none⟩, cap4, by omega, by go_num, HV', by simp, hV4, hEn4, hB4⟩
                  case measure => simp [intOf]; omega
            · obtain rfl : j = r.length := by omega
              rw [fl_all] at HV
              obtain ⟨B2, HB2⟩ : ∃ B2, Hid (B2 = wr.heap.size) := ⟨_, rfl⟩
              have hB2 : w.heap.size ≤ B2 := by rw [HB2.out]; exact hEn.fr.size
              have hBw2 : B2 ≤ wr.heap.size := by rw [HB2.out]; exact Nat.le_refl _
              have HC2 : Hid (∀ k, some k = (Value.slice ac C.length cc).ownBlock → k < B2) := fun k e => by rw [HB2.out]; exact Nat.lt_of_lt_of_le (HC1.out k e) hBw
              have HV2 : Hid (∀ k, some k = (Value.slice av V.length cv).ownBlock → k < B2) := fun k e => by rw [HB2.out]; exact (row_lt hV k e).2
              clear HB2
              go_wp2_with fail
              go_loopw [20, 22] (fun vw iv wr => ∃ (j : Nat) (W : List En) (aw : Option Addr) (cw : Nat), j ≤ q.length ∧ iv = .int .i64 j ∧ Hid (W = fl (fun e => A1.contains e.1) q j) ∧ vw = .slice aw W.length cw ∧ wr.ownsRow B2 97 2 (.slice aw W.length cw) W.length (ev W) ∧
                  Env (fun k => some k = (Value.slice a A.length ca).ownBlock) w bd ba bl bi D A1 L rowR adL (.slice ac C.length cc) C wr ∧ wr.ownsRow B1 97 2 (.slice av V.length cv) V.length (ev V) ∧ B2 ≤ wr.heap.size) (fun _ iv _ => q.length - (intOf iv).toNat)
              case atStart => exact ⟨0, [], none, 0, Nat.zero_le _, rfl, by simp [Hid, fl_zero], rfl, World.ownsRow_nil _ _ _ _, hEn, hV, hBw2⟩
              case round =>
                clear hEn hBw hV
                obtain ⟨j, W, aw, cw, hj, rfl, HW, rfl, hW, hEn, hV, hBw⟩ := hrel
                have hWl : W.length ≤ 120 := by
                  have h1 := fl_len (fun e => A1.contains e.1) q j
                  rw [HW.out]
                  omega
                by_cases hlt : j < q.length
                · have hLw := H1.out.fr hEn.fr (fun hp z e => fun c => k1 hp z e c)
                  obtain ⟨b0, o0, e0', hb0, _⟩ := H1.out (by omega)
                  obtain ⟨b0', o0', e0, _, hc⟩ := hLw (by omega)
                  rw [e0'] at e0
                  cases e0
                  obtain ⟨x1, x2⟩ := hc j hlt
                  have hb0w : b0 < wr.heap.size := Nat.lt_of_lt_of_le hb0 hEn.fr.size
                  clear hc hLw
                  subst e0'
                  have y0 : wr.cell? ⟨bi, 0, none⟩ = some (.func (.func 108) #[] #[.pointer (some ⟨ba, 0, none⟩)]) := by simp [World.cell?, hEn.sb.is]
                  obtain ⟨a', ca', q1, q2, q3⟩ := hEn.sb.sl
                  have y3 : wr.cell? ⟨ba, 0, none⟩ = some (.slice a' A1.length ca') := by simp [World.cell?, q1]
                  cases hg : A1.contains (q.getD j (0, 0)).1
                  · have HW' : Hid (W = fl (fun e => A1.contains e.1) q (j + 1)) := by
                      show W = fl (fun e => A1.contains e.1) q (j + 1)
                      rw [fl_no (fun e => A1.contains e.1) q j hlt hg]
                      exact HW.out
                    generalize (q.getD j (0, 0)).1 = g at x1 hg
                    have hg' : ¬ g ∈ A1 := by simpa using hg
                    clear hg x2
                    go_wp2_with fail
                    go_region_held3 (fun w' => w'.cell? ⟨bi, 0, none⟩ = some (.func (.func 108) #[] #[.pointer (some ⟨ba, 0, none⟩)]) ∧ w'.cell? ⟨b0, o0 + j * 2, none⟩ = some (.int .i64 g)) (go_keep)
                      (first | (go_at_call 108; refine (is1_any (c := ba) (ca := ca') (a := a') (A := A1) g ?_ ?_ ?_).mono ?_; exact y3; exact row_ints q2; omega; rintro e w3 ⟨rfl, rfl⟩))
                    go_wp2_with fail
                    go_roundw
                    case rel => exact ⟨j + 1, W, aw, cw, by omega, by go_num, HW', rfl, hW, hEn.drew, hV, hBw⟩
                    case measure => simp [intOf]; omega
                  · have HW' : Hid (W ++ [((q.getD j (0, 0)).1, (q.getD j (0, 0)).2)] = fl (fun e => A1.contains e.1) q (j + 1)) := by
                      show W ++ [q.getD j (0, 0)] = _
                      rw [fl_yes (fun e => A1.contains e.1) q j hlt hg, HW.out]
                    generalize (q.getD j (0, 0)).1 = g at x1 hg HW'
                    have hg' : g ∈ A1 := by simpa using hg
                    clear hg
                    generalize (q.getD j (0, 0)).2 = z at x2 HW'
                    go_wp2_with fail
                    go_region_held3 (fun w' => w'.cell? ⟨bi, 0, none⟩ = some (.func (.func 108) #[] #[.pointer (some ⟨ba, 0, none⟩)]) ∧ w'.cell? ⟨b0, o0 + j * 2, none⟩ = some (.int .i64 g)) (go_keep)
                      (first | (go_at_call 108; refine (is1_any (c := ba) (ca := ca') (a := a') (A := A1) g ?_ ?_ ?_).mono ?_; exact y3; exact row_ints q2; omega; rintro e w3 ⟨rfl, rfl⟩))
                    have x1d : wr.drew.cell? ⟨b0, o0 + j * 2, none⟩ = some (.int .i64 g) := x1
                    have x2d : wr.drew.cell? ⟨b0, o0 + j * 2 + 1, none⟩ = some (.int .i64 z) := x2
                    have hbd : b0 < wr.drew.heap.size := hb0w
                    go_wp2_with (at_builtin; refine wpList_append_own_at _ rfl _ _ 96 rfl B2 97 ie (.agg #[.int .i64 0, .int .i64 0]) 2 16 Try.underlying96 hie hze0 hze1 hze2 rfl (by decide) (.slice aw W.length cw) W.length (ev W) rfl (World.ownsRow.alloc (w := wr.drew) hW _) ⟨wr.heap.size, 0, none⟩ 1 1 [.int .i64 g, .int .i64 z] rfl rfl ?_ ?_ ?_ ?_ ?_ ?_; (intro j u hj; match j, hj with | 0, hj => (simp at hj; subst hj; simp [Addr.add]) | 1, hj => (simp at hj; subst hj; simp [Addr.add])); (intro u hu; simp at hu; rcases hu with hu | hu <;> (subst hu; rfl)); (unfold maxLen; omega); omega; (simp; omega); intro v' w4 hown4 hgrow4 _ hloc4; obtain ⟨b4, cap4, ev4⟩ := row_shape hown4 (Nat.succ_pos _); subst ev4)
                    have hW0 := World.ownsRow.alloc (w := wr.drew) hW (.cells #[.int .i64 g, .int .i64 z] 97)
                    have hEn4 := hEn.drew.grow hW0 hgrow4 hB2 K3.out HC2.out
                    have hV4 := row_past (w := wr.drew) hV HV2.out hW0 hgrow4
                    have hW4 : w4.ownsRow B2 97 2 (.slice (some ⟨b4, 0, none⟩) (W ++ [(g, z)]).length cap4) (W ++ [(g, z)]).length (ev (W ++ [(g, z)])) := by
                      rw [ev_append]
                      simpa [ev] using hown4
                    have hB4 : B2 ≤ w4.heap.size := by have := hgrow4.size; simp at this; omega
                    clear hown4 hgrow4 hloc4 hW hW0 hV hEn x1 x2 x1d x2d y0 y3 q1 q2 q3
                    go_wp2_with fail
                    go_roundw
                    case rel => exact ⟨j + 1, W ++ [(g, z)], some ⟨b4, 0, none⟩, cap4, by omega, by go_num, HW', by simp, hW4, hEn4, hV4, hB4⟩
                    case measure => simp [intOf]; omega
                · obtain rfl : j = q.length := by omega
                  rw [fl_all] at HW
                  go_wp2_with fail
                  go_loopw [20, 23] (fun vw iv wr => ∃ (j : Nat) (W : List En) (aw : Option Addr) (cw : Nat), j ≤ C.length ∧ iv = .int .i64 j ∧ Hid (W = q.filter (fun e => A1.contains e.1) ++ fl (fun e => A1.contains e.1) C j) ∧ vw = .slice aw W.length cw ∧ wr.ownsRow B2 97 2 (.slice aw W.length cw) W.length (ev W) ∧
                      Env (fun k => some k = (Value.slice a A.length ca).ownBlock) w bd ba bl bi D A1 L rowR adL (.slice ac C.length cc) C wr ∧ wr.ownsRow B1 97 2 (.slice av V.length cv) V.length (ev V) ∧ B2 ≤ wr.heap.size) (fun _ iv _ => C.length - (intOf iv).toNat)
                  case atStart => exact ⟨0, W, aw, cw, Nat.zero_le _, rfl, by rw [fl_zero, List.append_nil]; exact HW, rfl, hW, hEn, hV, hBw⟩
                  case round =>
                    clear hEn hBw hV hW HW
                    obtain ⟨j, W, aw, cw, hj, rfl, HW, rfl, hW, hEn, hV, hBw⟩ := hrel
                    have hWl : W.length ≤ 120 := by
                      have h1 := fl_len (fun e => A1.contains e.1) C j
                      have h2 := List.length_filter_le (fun e => A1.contains e.1) q
                      rw [HW.out, List.length_append]
                      omega
                    by_cases hlt : j < C.length
                    · obtain ⟨b0, o0, e0', hb0w, hc⟩ := row_pairs hEn.cm (by omega)
                      obtain ⟨x1, x2⟩ := hc j hlt
                      clear hc
                      subst e0'
                      have y0 : wr.cell? ⟨bi, 0, none⟩ = some (.func (.func 108) #[] #[.pointer (some ⟨ba, 0, none⟩)]) := by simp [World.cell?, hEn.sb.is]
                      obtain ⟨a', ca', q1, q2, q3⟩ := hEn.sb.sl
                      have y3 : wr.cell? ⟨ba, 0, none⟩ = some (.slice a' A1.length ca') := by simp [World.cell?, q1]
                      cases hg : A1.contains (C.getD j (0, 0)).1
                      · have HW' : Hid (W = q.filter (fun e => A1.contains e.1) ++ fl (fun e => A1.contains e.1) C (j + 1)) := by
                          show W = q.filter (fun e => A1.contains e.1) ++ fl (fun e => A1.contains e.1) C (j + 1)
                          rw [fl_no (fun e => A1.contains e.1) C j hlt hg]
                          exact HW.out
                        generalize (C.getD j (0, 0)).1 = g at x1 hg
                        have hg' : ¬ g ∈ A1 := by simpa using hg
                        clear hg x2
                        go_wp2_with fail
                        go_region_held3 (fun w' => w'.cell? ⟨bi, 0, none⟩ = some (.func (.func 108) #[] #[.pointer (some ⟨ba, 0, none⟩)]) ∧ w'.cell? ⟨b0, o0 + j * 2, none⟩ = some (.int .i64 g)) (go_keep)
                          (first | (go_at_call 108; refine (is1_any (c := ba) (ca := ca') (a := a') (A := A1) g ?_ ?_ ?_).mono ?_; exact y3; exact row_ints q2; omega; rintro e w3 ⟨rfl, rfl⟩))
                        go_wp2_with fail
                        go_roundw
                        case rel => exact ⟨j + 1, W, aw, cw, by omega, by go_num, HW', rfl, hW, hEn.drew, hV, hBw⟩
                        case measure => simp [intOf]; omega
                      · have HW' : Hid (W ++ [((C.getD j (0, 0)).1, (C.getD j (0, 0)).2)] = q.filter (fun e => A1.contains e.1) ++ fl (fun e => A1.contains e.1) C (j + 1)) := by
                          show W ++ [C.getD j (0, 0)] = _
                          rw [fl_yes (fun e => A1.contains e.1) C j hlt hg, HW.out]
                          rw [List.append_assoc]
                        generalize (C.getD j (0, 0)).1 = g at x1 hg HW'
                        have hg' : g ∈ A1 := by simpa using hg
                        clear hg
                        generalize (C.getD j (0, 0)).2 = z at x2 HW'
                        go_wp2_with fail
                        go_region_held3 (fun w' => w'.cell? ⟨bi, 0, none⟩ = some (.func (.func 108) #[] #[.pointer (some ⟨ba, 0, none⟩)]) ∧ w'.cell? ⟨b0, o0 + j * 2, none⟩ = some (.int .i64 g)) (go_keep)
                          (first | (go_at_call 108; refine (is1_any (c := ba) (ca := ca') (a := a') (A := A1) g ?_ ?_ ?_).mono ?_; exact y3; exact row_ints q2; omega; rintro e w3 ⟨rfl, rfl⟩))
                        have x1d : wr.drew.cell? ⟨b0, o0 + j * 2, none⟩ = some (.int .i64 g) := x1
                        have x2d : wr.drew.cell? ⟨b0, o0 + j * 2 + 1, none⟩ = some (.int .i64 z) := x2
                        have hbd : b0 < wr.drew.heap.size := hb0w
                        go_wp2_with (at_builtin; refine wpList_append_own_at _ rfl _ _ 96 rfl B2 97 ie (.agg #[.int .i64 0, .int .i64 0]) 2 16 Try.underlying96 hie hze0 hze1 hze2 rfl (by decide) (.slice aw W.length cw) W.length (ev W) rfl (World.ownsRow.alloc (w := wr.drew) hW _) ⟨wr.heap.size, 0, none⟩ 1 1 [.int .i64 g, .int .i64 z] rfl rfl ?_ ?_ ?_ ?_ ?_ ?_; (intro j u hj; match j, hj with | 0, hj => (simp at hj; subst hj; simp [Addr.add]) | 1, hj => (simp at hj; subst hj; simp [Addr.add])); (intro u hu; simp at hu; rcases hu with hu | hu <;> (subst hu; rfl)); (unfold maxLen; omega); omega; (simp; omega); intro v' w4 hown4 hgrow4 _ hloc4; obtain ⟨b4, cap4, ev4⟩ := row_shape hown4 (Nat.succ_pos _); subst ev4)
                        have hW0 := World.ownsRow.alloc (w := wr.drew) hW (.cells #[.int .i64 g, .int .i64 z] 97)
                        have hEn4 := hEn.drew.grow hW0 hgrow4 hB2 K3.out HC2.out
                        have hV4 := row_past (w := wr.drew) hV HV2.out hW0 hgrow4
                        have hW4 : w4.ownsRow B2 97 2 (.slice (some ⟨b4, 0, none⟩) (W ++ [(g, z)]).length cap4) (W ++ [(g, z)]).length (ev (W ++ [(g, z)])) := by
                          rw [ev_append]
                          simpa [ev] using hown4
                        have hB4 : B2 ≤ w4.heap.size := by have := hgrow4.size; simp at this; omega
                        clear hown4 hgrow4 hloc4 hW hW0 hV hEn x1 x2 x1d x2d y0 y3 q1 q2 q3
                        go_wp2_with fail
                        go_roundw
                        case rel => exact ⟨j + 1, W ++ [(g, z)], some ⟨b4, 0, none⟩, cap4, by omega, by go_num, HW', by simp, hW4, hEn4, hV4, hB4⟩
                        case measure => simp [intOf]; omega
                    · obtain rfl : j = C.length := by omega
                      rw [fl_all] at HW
                      obtain ⟨a', ca', q1, q2, q3⟩ := hEn.sb.sl
                      have y3 : wr.cell? ⟨ba, 0, none⟩ = some (.slice a' A1.length ca') := by simp [World.cell?, q1]
                      have E1 : Hid ((tf L A r).1 = A1) := (show (tf L A r).1 = A1 by rw [← HE.out trivial])
                      have E2 : Hid ((tf L A r).2.1 = C) := (show (tf L A r).2.1 = C by rw [← HE.out trivial])
                      go_wp2_with fail
                      go_quiet (fail)
                      go_wp2_with fail
                      go_ret3
                      rw [E1.out, E2.out]
                      refine ⟨_, _, _, rfl, ?_, ?_, hEn.fr.trans (Fr.of (X := fun _ => False) (below_drewN (Below.refl _ _) _)) (fun _ c => c.elim)⟩
                      · rw [← HV.out]
                        exact row_base (row_keep hV (fun _ _ => rfl)) (fun k hk => Nat.le_trans hB1 (row_lt hV k hk).1)
                      · rw [← HW.out]
                        exact row_base (row_keep hW (fun _ _ => rfl)) (fun k hk => Nat.le_trans hB2 (row_lt hW k hk).1)

end Go.Proofs.Ytjleaikdinepbaa
