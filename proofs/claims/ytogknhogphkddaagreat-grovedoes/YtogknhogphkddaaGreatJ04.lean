/- Joined: OpenE, Sw3, Wo1, Wo2, Wo3, Cd, Cd1, Wo4, Sat, Vw2, Vw3, Vw4, Vw5, Wr4, Wr6, Wr7, Hc1, Hc2. -/
import Derived.Test.YtogknhogphkddaaGreatJ02
import Derived.Deep.Slices
import Derived.Lib.SmallJoins
import Derived.OpenShut
import Derived.Deep.RegionLawGrows
import Derived.Deep.AppendLies
import Derived.Laws.OwnMore
import Derived.Test.YtogknhogphkddaaGreatJ03
import Derived.Test.YtogknhogphkddaaGreatJ01
import Derived.Maps.OwnSet
import Derived.Deep.RegionHeld3
/- Lists of entries, of words, of pairs of words that came in, opened: what a walk is told of them. -/
namespace Go.Proofs.YtogknhogphkddaaGreat
open Go.ChangeShapes Go.WideShapes Go.ChangeAt Go.RowKit Go.Joins Go.Deep W Stl

end Go.Proofs.YtogknhogphkddaaGreat

/- append of a list that came in, nil or not, onto a row of its own: laws for the walk. -/
namespace Go.Proofs.YtogknhogphkddaaGreat
open Go.RowKit W Kp Stl

section
variable {P : Program} (w : World)

theorem run_append_src (base : Nat) (t ty e : TypeId) (i : TypeInfo) (z : Value) (size bytes : Nat) (ht : P.underlying t = some (.slice e)) (hi : P.info? e = some i) (hz : i.zero = some z)
    (hsize : i.size = size) (hby : i.bytes = bytes) (hzs : z.cells.size = size) (hsz : 0 < size)
    (v : Value) (n : Nat) (xs : List Value) (hown : w.ownsRow base e size v n xs)
    (ad : Option Addr) (m c : Nat) (news : List Value) (hl : news.length = m * size) (hnone : ad = none → m = 0 ∧ c = 0) (hnews : ∀ a, ad = some a → ∀ j u, news[j]? = some u → w.cell? (a.add j) = some u) (h1 : ∀ u ∈ news, u.oneCell' = true)
    (h63 : n + m ≤ maxLen) (hbytes : (n + m) * bytes ≤ 140737488355328) (hbase : base ≤ w.heap.size) :
    ∃ a' c' w', (Builtin.append_ #[t, t] ty #[v, .slice ad m c]).run P w = .ok (.slice a' (n + m) c') w' ∧ w'.ownsRow base e size (.slice a' (n + m) c') (n + m) (xs ++ news) ∧ w.grownBy w' v.ownBlock ∧ ((Value.slice a' (n + m) c').ownBlock = v.ownBlock ∨ (Value.slice a' (n + m) c').ownBlock = some w.heap.size) := by
  cases ad with
  | some a =>
    obtain ⟨v', w', hr, h2, h3, _, h5⟩ := run_append_own_at (P := P) w base t ty e i z size bytes ht hi hz hsize hby hzs hsz v n xs hown a m c news hl (hnews a rfl) h1 h63 hbytes hbase
    obtain ⟨a', c', rfl⟩ := row_slice h2
    exact ⟨a', c', w', hr, h2, h3, h5⟩
  | none =>
    obtain ⟨rfl, rfl⟩ := hnone rfl
    have hn : news = [] := List.eq_nil_of_length_eq_zero (by simpa using hl)
    subst hn
    have hr := run_append_owned_none (P := P) w base t ty e i size ht hi v n xs hown
    obtain ⟨a', c', rfl⟩ := row_slice hown
    exact ⟨a', c', w, hr, by simpa using hown, ⟨rfl, rfl, rfl, Nat.le_refl _, fun _ _ _ => rfl⟩, Or.inl rfl⟩

theorem wp_append_src {o : Oper} {a : Act} {K : Act → World → Prop} {Q : Exit → Act → World → Prop} (s x : Operand) (t : TypeId)
    (ho : o.op = .call { callee := .builtin .append, args := #[s, x], argTypes := #[t, t] })
    (base : Nat) (e : TypeId) (i : TypeInfo) (z : Value) (size bytes : Nat) (ht : P.underlying t = some (.slice e)) (hi : P.info? e = some i) (hz : i.zero = some z)
    (hsize : i.size = size) (hby : i.bytes = bytes) (hzs : z.cells.size = size) (hsz : 0 < size)
    (v : Value) (n : Nat) (xs : List Value) (hs : a.eval s = v) (hown : w.ownsRow base e size v n xs)
    (ad : Option Addr) (m c : Nat) (news : List Value) (hx : a.eval x = .slice ad m c) (hl : news.length = m * size) (hnone : ad = none → m = 0 ∧ c = 0) (hnews : ∀ a, ad = some a → ∀ j u, news[j]? = some u → w.cell? (a.add j) = some u) (h1 : ∀ u ∈ news, u.oneCell' = true)
    (h63 : n + m ≤ maxLen) (hbytes : (n + m) * bytes ≤ 140737488355328) (hbase : base ≤ w.heap.size)
    (h : ∀ a' c' w', w'.ownsRow base e size (.slice a' (n + m) c') (n + m) (xs ++ news) → w.grownBy w' v.ownBlock → ((Value.slice a' (n + m) c').ownBlock = v.ownBlock ∨ (Value.slice a' (n + m) c').ownBlock = some w.heap.size) → K (a.put o.dst (.slice a' (n + m) c')) w') : o.wp P a w K Q := by
  obtain ⟨a', c', w', hr, h2, h3, h4⟩ := run_append_src (P := P) w base t o.type e i z size bytes ht hi hz hsize hby hzs hsz v n xs hown ad m c news hl hnone hnews h1 h63 hbytes hbase
  unfold Oper.wp execOp
  simp only [ho, resolve, invoke, builtin, Sem.run_bind, Sem.run_pure, Result.andThen_ok, List.map_toArray, List.map_cons, List.map_nil, hs, hx, hr]
  exact h a' c' w' h2 h3 h4

theorem wpList_append_src {ops : Array Oper} {rest : List Oper} {o : Oper} {a : Act} {Q : Exit → Act → World → Prop} (hgd : o.guard = none) (s x : Operand) (t : TypeId)
    (ho : o.op = .call { callee := .builtin .append, args := #[s, x], argTypes := #[t, t] })
    (base : Nat) (e : TypeId) (i : TypeInfo) (z : Value) (size bytes : Nat) (ht : P.underlying t = some (.slice e)) (hi : P.info? e = some i) (hz : i.zero = some z)
    (hsize : i.size = size) (hby : i.bytes = bytes) (hzs : z.cells.size = size) (hsz : 0 < size)
    (v : Value) (n : Nat) (xs : List Value) (hs : a.eval s = v) (hown : w.ownsRow base e size v n xs)
    (ad : Option Addr) (m c : Nat) (news : List Value) (hx : a.eval x = .slice ad m c) (hl : news.length = m * size) (hnone : ad = none → m = 0 ∧ c = 0) (hnews : ∀ a, ad = some a → ∀ j u, news[j]? = some u → w.cell? (a.add j) = some u) (h1 : ∀ u ∈ news, u.oneCell' = true)
    (h63 : n + m ≤ maxLen) (hbytes : (n + m) * bytes ≤ 140737488355328) (hbase : base ≤ w.heap.size)
    (h : ∀ a' c' w', w'.ownsRow base e size (.slice a' (n + m) c') (n + m) (xs ++ news) → w.grownBy w' v.ownBlock → ((Value.slice a' (n + m) c').ownBlock = v.ownBlock ∨ (Value.slice a' (n + m) c').ownBlock = some w.heap.size) → wpList P ops Q rest (a.put o.dst (.slice a' (n + m) c')) w') : wpList P ops Q (o :: rest) a w :=
  wpList_plain hgd fun _ hK => wp_append_src w s x t ho base e i z size bytes ht hi hz hsize hby hzs hsz v n xs hs hown ad m c news hx hl hnone hnews h1 h63 hbytes hbase fun a' c' w' h2 h3 h4 => hK _ _ (h a' c' w' h2 h3 h4)

theorem step_append_src {ops : Array Oper} {o : Oper} {a : Act} {K : Act → World → Prop} {Q : Exit → Act → World → Prop} {E : Prop} (hgd : o.guard = none) (s x : Operand) (t : TypeId)
    (ho : o.op = .call { callee := .builtin .append, args := #[s, x], argTypes := #[t, t] })
    (base : Nat) (e : TypeId) (i : TypeInfo) (z : Value) (size bytes : Nat) (ht : P.underlying t = some (.slice e)) (hi : P.info? e = some i) (hz : i.zero = some z)
    (hsize : i.size = size) (hby : i.bytes = bytes) (hzs : z.cells.size = size) (hsz : 0 < size)
    (v : Value) (n : Nat) (xs : List Value) (hs : a.eval s = v) (hown : w.ownsRow base e size v n xs)
    (ad : Option Addr) (m c : Nat) (news : List Value) (hx : a.eval x = .slice ad m c) (hl : news.length = m * size) (hnone : ad = none → m = 0 ∧ c = 0) (hnews : ∀ a, ad = some a → ∀ j u, news[j]? = some u → w.cell? (a.add j) = some u) (h1 : ∀ u ∈ news, u.oneCell' = true)
    (h63 : n + m ≤ maxLen) (hbytes : (n + m) * bytes ≤ 140737488355328) (hbase : base ≤ w.heap.size)
    (h : ∀ a' c' w', w'.ownsRow base e size (.slice a' (n + m) c') (n + m) (xs ++ news) → w.grownBy w' v.ownBlock → ((Value.slice a' (n + m) c').ownBlock = v.ownBlock ∨ (Value.slice a' (n + m) c').ownBlock = some w.heap.size) → K (a.put o.dst (.slice a' (n + m) c')) w') :
    if Region.wanted o (yielded ops a.tmps) = true then Oper.wp P o a w K Q else E := by
  have hw : Region.wanted o (yielded ops a.tmps) = true := by simp [Region.wanted, hgd]
  rw [if_pos hw]
  exact wp_append_src w s x t ho base e i z size bytes ht hi hz hsize hby hzs hsz v n xs hs hown ad m c news hx hl hnone hnews h1 h63 hbytes hbase h

end

end Go.Proofs.YtogknhogphkddaaGreat

/- A wood: where a word leads; Kind: contracts. -/
namespace Go.Proofs.YtogknhogphkddaaGreat
open Go.RowKit W

end Go.Proofs.YtogknhogphkddaaGreat

/- A wood: Kind, standing, fieldAt, Get: contracts. -/
namespace Go.Proofs.YtogknhogphkddaaGreat
open Go.RowKit W

section
variable {pw p q N O y g : Nat} {ws : List Int}

end

end Go.Proofs.YtogknhogphkddaaGreat

/- A wood: fieldAt, Get: contracts. -/
namespace Go.Proofs.YtogknhogphkddaaGreat
open Go.RowKit W

section
variable {pw p q N O y g : Nat} {ws : List Int}

end

end Go.Proofs.YtogknhogphkddaaGreat

/- Cards in memory: a struct of its own block, the numbers of those that are marked a map in another; lemmas on both. -/
namespace Go.Proofs.YtogknhogphkddaaGreat
open Go.RowKit W

structure Cd (w : World) (p q : Nat) (B c : Int) (M : List Int) : Prop where
  hp : w.heap[p]? = some (.cells #[.int .i64 B, .int .u64 c, .map (some q)] 150 (0, 0))
  hq : ∃ D : DataW Unit, w.ownsMap Tryz.prog 126 unitElem q M.length D ∧ (∀ k : Int, Maps.has D (.int .u64 k) = M.contains k) ∧ Maps.size D = M.length

theorem own_same {H : Type} {P : Program} {k : TypeId} {R : Value → Option (DataW H × List MemPlace)} {w w' : World} {b n : Nat} {D : DataW H} (h : w.ownsMap P k R b n D) (e : w'.heap[b]? = w.heap[b]?) : w'.ownsMap P k R b n D := by
  obtain ⟨es, clock, hb, r⟩ := h
  exact ⟨es, clock, e.trans hb, r⟩
theorem Cd.ltp {w : World} {p q : Nat} {B c : Int} {M : List Int} (h : Cd w p q B c M) : p < w.heap.size := lt_of_some h.hp
theorem Cd.ltq {w : World} {p q : Nat} {B c : Int} {M : List Int} (h : Cd w p q B c M) : q < w.heap.size := by
  obtain ⟨D, h1, _⟩ := h.hq
  exact h1.lt
theorem Cd.same {w w' : World} {p q : Nat} {B c : Int} {M : List Int} (h : Cd w p q B c M) (ep : w'.heap[p]? = w.heap[p]?) (eq : w'.heap[q]? = w.heap[q]?) : Cd w' p q B c M := by
  obtain ⟨D, h1, h2⟩ := h.hq
  exact ⟨ep.trans h.hp, D, own_same h1 eq, h2⟩
theorem Cd.below {w w' : World} {p q X : Nat} {B c : Int} {M : List Int} (h : Cd w p q B c M) (hb : Below X w w') (hX : w.heap.size ≤ X) : Cd w' p q B c M :=
  h.same (hb.block p (Nat.lt_of_lt_of_le h.ltp hX)) (hb.block q (Nat.lt_of_lt_of_le h.ltq hX))
theorem Cd.none {w : World} {p q : Nat} {B c : Int} (h : w.heap[p]? = some (.cells #[.int .i64 B, .int .u64 c, .map (some q)] 150 (0, 0))) (h1 : w.ownsMap Tryz.prog 126 unitElem q 0 (.map [] : DataW Unit)) : Cd w p q B c [] :=
  ⟨h, _, h1, fun _ => rfl, rfl⟩

end Go.Proofs.YtogknhogphkddaaGreat

/- What the functions of package cards do: contracts, over the seat's own translation; no block but the cards' turns. -/
namespace Go.Proofs.YtogknhogphkddaaGreat
open Go.RowKit W

def nC (x : Int) : Int := if x < 0 then 0 else (x + 8 - 1) / 8
def cN (B a : Int) : Int := if a < B then 0 else (a - B) / 8
set_option maxRecDepth 100000 in
set_option maxHeartbeats 400000 in
theorem begunC_any (x : Int) (w : World) (h : x ≤ 100000) : Calls Tryz.prog 78 #[.int .i64 x] w fun e w' => e = .returned (.int .u64 (nC x)) ∧ w' = w := by
  by_cases c : x < 0
  · have e : nC x = 0 := by unfold nC; rw [if_pos c]
    rw [e]
    go_enter Tryz.func78, Tryz.ntmps78
    go_wp2_with fail
    go_ret
    exact ⟨rfl, rfl⟩
  · have e : nC x = (x + 8 - 1) / 8 := by unfold nC; rw [if_neg c]
    rw [e]
    go_enter Tryz.func78, Tryz.ntmps78
    go_wp2_with fail
    go_ret
    exact ⟨rfl, rfl⟩

set_option maxRecDepth 100000 in
set_option maxHeartbeats 400000 in
theorem clearC_any {p : Nat} {B c : Int} {v : Value} (w : World) (h : w.heap[p]? = some (.cells #[.int .i64 B, .int .u64 c, v] 150 (0, 0))) :
    Calls Tryz.prog 79 #[.pointer (some ⟨p, 0, none⟩)] w fun e w' => e = .returned (.tuple #[]) ∧ Cd w' p w.heap.size B c [] ∧ Sv p p w w' := by
  have hmm := @run_makeMap Tryz.prog
  have hp := lt_of_some h
  have hf : (w.alloc (.map #[] 0)).frozen? ⟨p, 2, none⟩ = false := by
    simp [World.frozen?, Below.heap_alloc _ _ _ hp, h]
  have hc : (w.alloc (.map #[] 0)).cell? ⟨p, 2, none⟩ = some v := by
    simp [World.cell?, Below.heap_alloc _ _ _ hp, h]
  go_enter Tryz.func79, Tryz.ntmps79
  go_wp2_with fail
  go_end0
  have hm := World.ownsMap_made (w.setCell ⟨p, 2, none⟩ (.map (some w.heap.size))) Tryz.prog 126 (unitElem (H := Unit))
  have hz : (w.setCell ⟨p, 2, none⟩ (.map (some w.heap.size))).heap.size = w.heap.size := by simp [World.setCell]
  rw [hz] at hm
  refine ⟨rfl, Cd.none ((Below.heap_alloc _ _ _ (by omega)).trans ?_) hm, (Sv.setp _ _).trans (Sv.of ((Below.refl _ _).alloc (Nat.le_refl _) _))⟩
  simp only [World.setCell, Array.getElem?_modify, if_true, h, Option.map_some]
  simp

set_option maxRecDepth 100000 in
set_option maxHeartbeats 400000 in
theorem newC_any (B x : Int) (w : World) (h : x ≤ 100000) :
    Calls Tryz.prog 58 #[.int .i64 B, .int .i64 x] w fun e w' => ∃ p q, e = .returned (.pointer (some ⟨p, 0, none⟩)) ∧ Cd w' p q B (nC x) [] ∧ w.heap.size ≤ p ∧ w.heap.size ≤ q ∧ Below w.heap.size w w' := by
  go_enter Tryz.func58, Tryz.ntmps58
  go_wp2_with fail
  refine (begunC_any x _ h).mono ?_
  rintro e w1 ⟨rfl, hw1⟩
  have hw1 := hw1.symm
  subst hw1
  go_wp2_with fail
  refine (clearC_any (p := w.heap.size) (B := B) (c := nC x) (v := .map none) _ (heap_alloc_new _ _)).mono ?_
  rintro e w2 ⟨rfl, h2, s2⟩
  go_wp2_with fail
  go_ret
  exact ⟨_, _, rfl, h2, Nat.le_refl _, by simp, ((Below.refl _ _).alloc (Nat.le_refl _) _).trans (s2.below (by simp) (Nat.le_refl _) (Nat.le_refl _))⟩

end Go.Proofs.YtogknhogphkddaaGreat

/- A wood: Set: a contract. -/
namespace Go.Proofs.YtogknhogphkddaaGreat
open Go.RowKit W

structure Wod (w : World) (pw p q pc pq N O y g : Nat) (ws : List Int) (c : Int) (M : List Int) (vs vr : Value) : Prop where
  blk : w.heap[pw]? = some (.cells #[.pointer (some ⟨p, 0, none⟩), .pointer (some ⟨pc, 0, none⟩), vs, vr] 122 (0, 0))
  ar : At w p q N O y g ws
  cd : Cd w pc pq N c M

section
variable {w w' : World} {pw p q pc pq N O y g : Nat} {ws : List Int} {c : Int} {M : List Int} {vs vr : Value}

end

end Go.Proofs.YtogknhogphkddaaGreat

/- At of a Side: a contract. -/
namespace Go.Proofs.YtogknhogphkddaaGreat
open Go.RowKit W Kp Stl

def atL (q : List En) (g : Int) : List Int := (q.filter (fun e => e.1 == g)).map (·.2)
theorem atL_yes (q : List En) (g : Int) (j : Nat) (h : j < q.length) (e : (q.getD j (0, 0)).1 = g) : atL (q.take (j + 1)) g = atL (q.take j) g ++ [(q.getD j (0, 0)).2] := by
  unfold atL
  rw [take_snoc q j h (0, 0), List.filter_append, List.map_append, List.filter_cons, e]
  simp
theorem atL_no (q : List En) (g : Int) (j : Nat) (h : j < q.length) (e : ¬ (q.getD j (0, 0)).1 = g) : atL (q.take (j + 1)) g = atL (q.take j) g := by
  unfold atL
  rw [take_snoc q j h (0, 0), List.filter_append, List.map_append, List.filter_cons]
  rw [if_neg (by simpa using e)]
  simp
theorem atL_len (q : List En) (g : Int) : (atL q g).length ≤ q.length := by
  unfold atL
  rw [List.length_map]
  exact List.length_filter_le _ _

set_option maxRecDepth 100000 in
set_option maxHeartbeats 1000000 in
theorem atS_any (w : World) (p : Nat) (v0 : Value) (a1 : Option Addr) (k1 : Nat) (q : List En) (g : Int) (h : w.heap[p]? = some (.cells #[v0, .slice a1 q.length k1] 51 (0, 0))) (hp : Lp w a1 q) (hm : q.length ≤ 90000) :
    Calls Tryz.prog 107 #[.pointer (some ⟨p, 0, none⟩), .int .i64 g] w fun e w' => ∃ ad cap, e = .returned (.slice ad (atL q g).length cap) ∧ w'.ownsRow w.heap.size 2 1 (.slice ad (atL q g).length cap) (atL q g).length ((atL q g).map (Value.int .i64)) ∧ Below w.heap.size w w' := by
  obtain ⟨i0, hi, hz0, hz1, hz2⟩ := info_parts info64
  have c1 : w.cell? ⟨p, 1, none⟩ = some (.slice a1 q.length k1) := by simp [World.cell?, h]
  have HP : Hid (Lp w a1 q) := hp
  clear h hp
  go_enter Tryz.func107, Tryz.ntmps107
  go_wp2_with fail
  go_loopw [5, 13] (fun tv iv wr => ∃ (j : Nat) (T : List Int) (at1 : Option Addr) (ct : Nat), j ≤ q.length ∧ iv = .int .i64 j ∧ Hid (T = atL (q.take j) g) ∧ tv = .slice at1 T.length ct ∧ wr.ownsRow w.heap.size 2 1 (.slice at1 T.length ct) T.length (T.map (Value.int .i64)) ∧ Below w.heap.size w wr) (fun _ iv _ => q.length - (intOf iv).toNat)
  case atStart => exact ⟨0, [], none, 0, Nat.zero_le _, rfl, rfl, rfl, World.ownsRow_nil _ _ _ _, Below.refl _ _⟩
  case round =>
    obtain ⟨j, T, at1, ct, hj, rfl, HT, rfl, hT, hb⟩ := hrel
    have hTl : T.length ≤ 90000 := by
      have := atL_len (q.take j) g
      rw [HT.out]
      simp at this
      omega
    by_cases hlt : j < q.length
    · obtain ⟨b0, o0, e0, hb0, hc⟩ := HP.out.below hb (by omega)
      obtain ⟨x1, x2⟩ := hc j hlt
      clear hc
      subst e0
      have hs := hb.size
      by_cases cq : (q.getD j (0, 0)).1 = g
      · have HT' : Hid (T ++ [(q.getD j (0, 0)).2] = atL (q.take (j + 1)) g) := by show _ = _; rw [atL_yes q g j hlt cq, HT.out]
        rw [cq] at x1
        generalize (q.getD j (0, 0)).2 = z at x2 HT'
        clear cq
        have hT1 := row_alloc hT (.cells #[.int .i64 g, .int .i64 z] 100)
        have hb1 := hb.alloc hs (.cells #[.int .i64 g, .int .i64 z] 100)
        go_wp2_with (at_builtin; refine wpList_append_own_at _ rfl _ _ 118 rfl w.heap.size 2 i0 (.int .i64 0) 1 8 Tryz.underlying118 hi hz0 hz1 hz2 rfl (by decide) (.slice at1 T.length ct) T.length (T.map (Value.int .i64)) rfl (row_alloc hT1 _) ⟨wr.heap.size + 1, 0, none⟩ 1 1 [.int .i64 z] rfl rfl ?_ ?_ ?_ ?_ ?_ ?_; (intro j u hj; match j, hj with | 0, hj => (simp at hj; subst hj; simp [Addr.add])); (intro u hu; simp at hu; subst hu; rfl); (unfold maxLen; omega); omega; (simp; omega); intro v' w4 hown4 hgrow4 _ hloc4; obtain ⟨b4, cap4, ev4⟩ := row_shape hown4 (Nat.succ_pos _); subst ev4)
        have hT4 : w4.ownsRow w.heap.size 2 1 (.slice (some ⟨b4, 0, none⟩) (T ++ [z]).length cap4) (T ++ [z]).length ((T ++ [z]).map (Value.int .i64)) := by simpa using hown4
        have hb4 := (hb1.alloc hb1.size _).grown hgrow4 (by simp; omega) (fun k e => (row_lt hT k e.symm).1)
        clear hown4 hgrow4 hloc4 hT hT1 hb hb1 x1 x2
        go_wp2_with fail
        go_roundw
        case rel => exact ⟨j + 1, T ++ [z], some ⟨b4, 0, none⟩, cap4, by omega, by go_num, HT', by simp, hT4, hb4⟩
        case measure => simp [intOf]; omega
      · have HT' : Hid (T = atL (q.take (j + 1)) g) := by show _ = _; rw [atL_no q g j hlt cq, HT.out]
        generalize (q.getD j (0, 0)).1 = x at x1 cq
        generalize (q.getD j (0, 0)).2 = z at x2
        have hT1 := row_alloc hT (.cells #[.int .i64 x, .int .i64 z] 100)
        have hb1 := hb.alloc hs (.cells #[.int .i64 x, .int .i64 z] 100)
        clear hT hb
        go_wp2_with fail
        go_roundw
        case rel => exact ⟨j + 1, T, at1, ct, by omega, by go_num, HT', rfl, hT1, hb1⟩
        case measure => simp [intOf]; omega
    · obtain rfl : j = q.length := by omega
      rw [List.take_length] at HT
      go_wp2_with fail
      go_ret
      rw [← HT.out]
      exact ⟨at1, ct, rfl, hT, hb⟩

end Go.Proofs.YtogknhogphkddaaGreat

/- A walk in memory: its block, its map, its nodes; what may turn while it goes. -/
namespace Go.Proofs.YtogknhogphkddaaGreat
open Go.RowKit W Kp Stl

section
variable {B : Nat} {w w' w'' : World}
end

def nb (ms : List Int) (a : Int) : Int := if ms.contains a = true then (ms.idxOf a : Int) else -1
section
variable {w0 w w' : World} {pk mq pw : Nat} {T : List Int} {s : Vst} {vn : Value} {m : List Vnd}
end

end Go.Proofs.YtogknhogphkddaaGreat

/- A walk: what a node shows, and where a walk begins: contracts. -/
namespace Go.Proofs.YtogknhogphkddaaGreat
open Go.RowKit W Kp Stl

section
variable {w : World} {pw p q N O y g : Nat} {ws : List Int} {sd : Nat} {v0 : Value} {a1 : Option Addr} {k1 : Nat} {Q : List En}

end

end Go.Proofs.YtogknhogphkddaaGreat

/- A walk begins: a contract. -/
namespace Go.Proofs.YtogknhogphkddaaGreat
open Go.RowKit W Kp Stl

section
variable {w : World} {pw p q N O y g : Nat} {ws : List Int}

end

end Go.Proofs.YtogknhogphkddaaGreat

/- A walk: number, value, values over whatever meets: contracts. -/
namespace Go.Proofs.YtogknhogphkddaaGreat
open Go.RowKit W Kp Stl

section
variable {w0 w w' : World} {kb mq pw : Nat} {T : List Int} {s : Vst} {vn : Value} {m : List Vnd}
end

theorem infoVal : (Tryz.prog.info? 54).map (fun i => (i.zero, i.size, i.bytes)) = some (some (.agg #[.int .i64 0, .int .i64 0]), 2, 16) := by kernel_rfl

section
variable {w0 w : World} {kb mq pw n : Nat} {T : List Int} {kd : Int → Int} {sh : Int → List Int} {M : Vst → Int → Vst} {s : Vst} {vn : Value} {m : List Vnd}

end

end Go.Proofs.YtogknhogphkddaaGreat

/- The document's world: thing, guard, Fits, NewWorld: contracts. -/
namespace Go.Proofs.YtogknhogphkddaaGreat
open Go.RowKit W Kp Stl

section
variable {rp rb : Nat} {most grow : Int} {F : Nat → Prop} {s : Wrs} {w : World}

def Wrs.th (s : Wrs) (i : Nat) : Int := if (s.rs.getD i (0, 0)).1 = 3 then (s.rs.getD i (0, 0)).2 else -1
def Wrs.gd (s : Wrs) (i : Nat) : Int := if s.th i < 0 then -1 else if (s.T.getD (s.th i).toNat (0, [], false, false)).1 = 5 then s.th i else -1

set_option maxRecDepth 100000 in
set_option maxHeartbeats 400000 in
theorem thingW_any (h : (wrO rp rb most grow).J F s w) (i : Nat) (hi : i < 12) :
    Calls Tryz.prog 27 #[.pointer (some ⟨rp, 0, none⟩), .int .i64 i] w fun e w' => e = .returned (.int .i64 (s.th i)) ∧ w' = w := by
  obtain ⟨c1, _, _, _, _, _, _, cr⟩ := wr_cells h
  obtain ⟨x0, x1, _⟩ := cr i hi
  have E : Hid (s.th i = if (s.rs.getD i (0, 0)).1 = 3 then (s.rs.getD i (0, 0)).2 else -1) := rfl
  generalize s.th i = z at E ⊢
  generalize (s.rs.getD i (0, 0)).1 = k at x0 E
  generalize (s.rs.getD i (0, 0)).2 = n at x1 E
  have i0 : (0 : Int) ≤ (i : Int) := by omega
  have i1 : (i : Int) < 12 := by omega
  clear h cr
  by_cases hk : k = 3
  · subst hk
    have E2 : Hid (z = n) := E.out
    go_enter Tryz.func27, Tryz.ntmps27
    go_wp2_with fail
    go_ret
    rw [E2.out]
    exact ⟨rfl, rfl⟩
  · have E2 : Hid (z = -1) := E.out.trans (if_neg hk)
    have hk2 : ¬ 3 = k := fun e => hk e.symm
    go_enter Tryz.func27, Tryz.ntmps27
    go_wp2_with fail
    go_ret
    rw [E2.out]
    exact ⟨rfl, rfl⟩

set_option maxRecDepth 100000 in
set_option maxHeartbeats 400000 in
theorem guardW_any (h : (wrO rp rb most grow).J F s w) (i : Nat) (hi : i < 12) (hr : 0 ≤ s.th i → s.th i < s.T.length) :
    Calls Tryz.prog 28 #[.pointer (some ⟨rp, 0, none⟩), .int .i64 i] w fun e w' => e = .returned (.int .i64 (s.gd i)) ∧ w' = w := by
  have P := thingW_any h i hi
  obtain ⟨aT, cT, c0, _, cx⟩ := wr_things h
  have E : Hid (s.gd i = if s.th i < 0 then -1 else if (s.T.getD (s.th i).toNat (0, [], false, false)).1 = 5 then s.th i else -1) := rfl
  generalize s.gd i = z at E ⊢
  generalize s.th i = a at P E hr
  clear h
  by_cases ha : a < 0
  · have E2 : Hid (z = -1) := E.out.trans (if_pos ha)
    clear cx
    go_enter Tryz.func28, Tryz.ntmps28
    go_wp2_with fail
    refine P.mono ?_
    rintro e w1 ⟨rfl, rfl⟩
    go_wp2_with fail
    go_ret
    rw [E2.out]
    exact ⟨rfl, rfl⟩
  · obtain ⟨j, rfl⟩ : ∃ j : Nat, a = j := ⟨a.toNat, by omega⟩
    have hj := hr (by omega)
    have hlt : j < s.T.length := by omega
    obtain ⟨t, ht⟩ : ∃ t, s.T[j]? = some t := ⟨_, List.getElem?_eq_getElem hlt⟩
    obtain ⟨b, ad, cp, rfl, x0, _⟩ := cx j t ht
    have E2 : Hid (z = if t.1 = 5 then (j : Int) else -1) := by
      show _ = _
      rw [E.out, if_neg ha, Int.toNat_natCast, List.getD_eq_getElem?_getD, ht]
      rfl
    generalize t.1 = k at x0 E2
    have j0 : (0 : Int) ≤ (j : Int) := by omega
    have jn : decide ((j : Int) < 0) = false := by simp
    clear cx ht E hr
    by_cases hk : k = 5
    · subst hk
      have E3 : Hid (z = j) := E2.out
      go_enter Tryz.func28, Tryz.ntmps28
      go_wp2_with fail
      refine P.mono ?_
      rintro e w1 ⟨rfl, hw1⟩
      have hw1 := hw1.symm
      subst hw1
      go_wp2_with fail
      go_ret
      rw [E3.out]
      exact ⟨rfl, rfl⟩
    · have E3 : Hid (z = -1) := E2.out.trans (if_neg hk)
      have hk2 : (k != 5) = true := by simpa using hk
      go_enter Tryz.func28, Tryz.ntmps28
      go_wp2_with fail
      refine P.mono ?_
      rintro e w1 ⟨rfl, hw1⟩
      have hw1 := hw1.symm
      subst hw1
      go_wp2_with fail
      go_ret
      rw [E3.out]
      exact ⟨rfl, rfl⟩
end

theorem row_whole {w : World} {b k n size : Nat} {T : TypeId} {xs : List Value} (h : w.ownsRow b T size (.slice (some ⟨k, 0, none⟩) n n) n xs) : w.heap[k]? = some (.cells xs.toArray T (0, 0)) := by
  obtain ⟨h1, h2⟩ := h
  rcases h2 with ⟨e, _⟩ | ⟨k', cap, cur, hv, hb, hh, h3, h4, h5, h6⟩
  · cases e
  · cases hv
    rw [hh]
    have : cur.toList = xs := by
      rw [← List.take_of_length_le (l := cur.toList) (i := n * size) (by simp; omega), h6]
    rw [← this]

set_option maxRecDepth 100000 in
set_option maxHeartbeats 1000000 in
theorem newWorld_any (n o : Int) (w : World) : Calls Tryz.prog 7 #[.int .i64 n, .int .i64 o] w fun e w' => ∃ rp rb F, e = .returned (.pointer (some ⟨rp, 0, none⟩)) ∧ (wrO rp rb n o).J F ⟨[], List.replicate 12 (0, 0), [], []⟩ w' ∧ (∀ b, F b → w.heap.size ≤ b) ∧ Below w.heap.size w w' := by
  obtain ⟨i0, hi, hz0, hz1, hz2⟩ := info_parts infoVal
  go_enter Tryz.func7, Tryz.ntmps7
  go_wp2_with (at_make; refine wpList_make_full _ rfl _ _ 38 rfl w.heap.size 54 i0 (.agg #[.int .i64 0, .int .i64 0]) 2 Tryz.underlying38 hi hz0 hz1 .i64 .i64 _ _ 12 rfl rfl (by omega) (by omega) (by rw [hz2]; omega) (by unfold maxLen; omega) (by simp) ?_; intro w1 hown hgrow)
  go_ret
  have hr := row_whole hown
  have em : (madeCells (Value.agg #[.int .i64 0, .int .i64 0]).cells (12 * 2)).toList = ev (List.replicate 12 (0, 0)) := by kernel_rfl
  rw [em] at hr
  have hlt := lt_of_some hr
  have hb1 : Below w.heap.size w w1 := (Below.refl _ _).grown hgrow (Nat.le_refl _) (fun _ h => by cases h)
  have hnew := heap_alloc_new w1 (.cells #[.slice none 0 0, .slice (some ⟨w.heap.size, 0, none⟩) 12 12, .slice none 0 0, .slice none 0 0, .int .i64 n, .int .i64 o] 60)
  refine ⟨w1.heap.size, w.heap.size, fun b => b = w1.heap.size ∨ b = w.heap.size, rfl, ⟨fun b => if b = w1.heap.size then 1 else if b = w.heap.size then 4 else 0, [], .slice none 0 0, .slice none 0 0, .slice none 0 0, ?_, fun b => ?_⟩, fun b hb => by omega, hb1.alloc (by omega) _⟩
  · exact { blk := hnew, b1 := by rw [if_pos rfl], row := World.ownsRow_nil _ _ _ _, ro := fun b e => by simp [Value.ownBlock] at e, nd := rfl, fl := fun x hx => by simp at hx
            rt := (Below.heap_alloc _ _ _ hlt).trans hr
            rl := rfl
            r1 := by rw [if_neg (by omega), if_pos rfl]
            g2 := World.ownsRow_nil _ _ _ _, g2o := fun b e => by simp [Value.ownBlock] at e
            g3 := World.ownsRow_nil _ _ _ _, g3o := fun b e => by simp [Value.ownBlock] at e
            lt := fun b hb => by
              simp only [World.size_alloc]
              by_cases c1 : b = w1.heap.size
              · omega
              · by_cases c2 : b = w.heap.size
                · omega
                · rw [if_neg c1, if_neg c2] at hb
                  exact absurd rfl hb }
  · by_cases c1 : b = w1.heap.size
    · simp [c1]
    · by_cases c2 : b = w.heap.size
      · simp [c2, show ¬ w.heap.size = w1.heap.size by omega]
      · simp [c1, c2]

end Go.Proofs.YtogknhogphkddaaGreat

/- The document's world: UsesOf, StepFault: contracts. -/
namespace Go.Proofs.YtogknhogphkddaaGreat
open Go.RowKit W Kp Stl

end Go.Proofs.YtogknhogphkddaaGreat

/- The document's world: Do: SInt, SNil: contracts. -/
namespace Go.Proofs.YtogknhogphkddaaGreat
open Go.RowKit W Kp Stl

abbrev stpV (k R A B I n : Int) : Value := .agg #[.int .i64 k, .int .i64 R, .int .i64 A, .int .i64 B, .int .i64 I, .int .i64 n]
abbrev stpC (k R A B I n : Int) : Obj := .cells #[.int .i64 k, .int .i64 R, .int .i64 A, .int .i64 B, .int .i64 I, .int .i64 n] 34

def Wrs.gc (s : Wrs) (A : Nat) (I : Int) : Int := if s.th A < 0 ∨ (s.T.getD (s.th A).toNat (0, [], false, false)).1 = 5 then 2 else if I < 0 ∨ ((s.T.getD (s.th A).toNat (0, [], false, false)).2.1.length : Int) ≤ I then 1 else 0
def Wrs.gf (s : Wrs) (A : Nat) (I : Int) : Int × Int := (s.T.getD (s.th A).toNat (0, [], false, false)).2.1.getD I.toNat (0, 0)

section
variable {rp rb : Nat} {most grow : Int} {F : Nat → Prop} {s : Wrs} {w : World}

theorem wr_ne (h : (wrO rp rb most grow).J F s w) : rb ≠ rp ∧ F rb ∧ F rp := by
  obtain ⟨own, m2, vT2, v22, v32, hM, hF⟩ := h
  refine ⟨fun e => ?_, (hF rb).2 (by rw [hM.r1]; decide), (hF rp).2 (by rw [hM.b1]; decide)⟩
  have h1 := hM.r1
  rw [e, hM.b1] at h1
  omega

end

end Go.Proofs.YtogknhogphkddaaGreat

/- A heap: Uses, Check, and the document's UsesOf, StepFault: contracts. -/
namespace Go.Proofs.YtogknhogphkddaaGreat
open Go.RowKit W Kp Stl

def usK (k : Int) : Int :=
  if k = 1 ∨ k = 2 ∨ k = 8 then 1 else if k = 3 ∨ k = 5 ∨ k = 10 ∨ k = 11 ∨ k = 13 then 3 else if k = 4 ∨ k = 6 ∨ k = 7 ∨ k = 14 then 7
  else if k = 9 ∨ k = 12 then 6 else if k = 15 ∨ k = 16 then 0 else -1
def ckN (k n : Int) : Int := if k = 1 then vc 1 n else if k = 5 then hc 2 n else 0
def rtB (r : Int) : Bool := decide (0 ≤ r) && decide (r < 12)
def ckC (k R A B n : Int) : Int :=
  if usK k = -1 then 2 else if (decide (usK k = 1 ∨ usK k = 3 ∨ usK k = 7) && !rtB R) || (decide (usK k = 3 ∨ usK k = 6 ∨ usK k = 7) && !rtB A) || (decide (usK k = 6 ∨ usK k = 7) && !rtB B) then 1 else ckN k n
theorem kind_all (k : Int) : k = 1 ∨ k = 2 ∨ k = 3 ∨ k = 4 ∨ k = 5 ∨ k = 6 ∨ k = 7 ∨ k = 8 ∨ k = 9 ∨ k = 10 ∨ k = 11 ∨ k = 12 ∨ k = 13 ∨ k = 14 ∨ k = 15 ∨ k = 16 ∨ (k < 1 ∨ 16 < k) := by omega
theorem usK_no {k : Int} (h : k < 1 ∨ 16 < k) : usK k = -1 := by
  unfold usK
  rw [if_neg (by omega), if_neg (by omega), if_neg (by omega), if_neg (by omega), if_neg (by omega)]

set_option maxRecDepth 100000 in
set_option maxHeartbeats 1000000 in
theorem usesH_any (k : Int) (w : World) : Calls Tryz.prog 37 #[.int .i64 k] w fun e w' => e = .returned (.int .i64 (usK k)) ∧ w' = w := by
  rcases kind_all k with rfl | rfl | rfl | rfl | rfl | rfl | rfl | rfl | rfl | rfl | rfl | rfl | rfl | rfl | rfl | rfl | h
  case' inr.inr.inr.inr.inr.inr.inr.inr.inr.inr.inr.inr.inr.inr.inr.inr =>
    rw [usK_no h]
    have h1 : ¬ k = 1 := by omega
    have h2 : ¬ k = 2 := by omega
    have h3 : ¬ k = 3 := by omega
    have h4 : ¬ k = 4 := by omega
    have h5 : ¬ k = 5 := by omega
    have h6 : ¬ k = 6 := by omega
    have h7 : ¬ k = 7 := by omega
    have h8 : ¬ k = 8 := by omega
    have h9 : ¬ k = 9 := by omega
    have h10 : ¬ k = 10 := by omega
    have h11 : ¬ k = 11 := by omega
    have h12 : ¬ k = 12 := by omega
    have h13 : ¬ k = 13 := by omega
    have h14 : ¬ k = 14 := by omega
    have h15 : ¬ k = 15 := by omega
    have h16 : ¬ k = 16 := by omega
    clear h
  all_goals
    go_enter Tryz.func37, Tryz.ntmps37
    go_wp2_with fail
    go_ret
    exact ⟨rfl, rfl⟩
set_option maxRecDepth 100000 in
set_option maxHeartbeats 1000000 in
theorem usesR_any (k : Int) (w : World) : Calls Tryz.prog 51 #[.int .i64 k] w fun e w' => e = .returned (.int .i64 (usK k)) ∧ w' = w := by
  rcases kind_all k with rfl | rfl | rfl | rfl | rfl | rfl | rfl | rfl | rfl | rfl | rfl | rfl | rfl | rfl | rfl | rfl | h
  case' inr.inr.inr.inr.inr.inr.inr.inr.inr.inr.inr.inr.inr.inr.inr.inr =>
    rw [usK_no h]
    have h1 : ¬ k = 1 := by omega
    have h2 : ¬ k = 2 := by omega
    have h3 : ¬ k = 3 := by omega
    have h4 : ¬ k = 4 := by omega
    have h5 : ¬ k = 5 := by omega
    have h6 : ¬ k = 6 := by omega
    have h7 : ¬ k = 7 := by omega
    have h8 : ¬ k = 8 := by omega
    have h9 : ¬ k = 9 := by omega
    have h10 : ¬ k = 10 := by omega
    have h11 : ¬ k = 11 := by omega
    have h12 : ¬ k = 12 := by omega
    have h13 : ¬ k = 13 := by omega
    have h14 : ¬ k = 14 := by omega
    have h15 : ¬ k = 15 := by omega
    have h16 : ¬ k = 16 := by omega
    clear h
  all_goals
    go_enter Tryz.func51, Tryz.ntmps51
    go_wp2_with fail
    go_ret
    exact ⟨rfl, rfl⟩
set_option maxRecDepth 100000 in
theorem isRoot_any (r : Int) (w : World) : Calls Tryz.prog 38 #[.int .i64 r] w fun e w' => e = .returned (.bool (rtB r)) ∧ w' = w := by
  by_cases h0 : 0 ≤ r
  · by_cases h1 : r < 12
    · have e : rtB r = true := by unfold rtB; rw [decide_eq_true h0, decide_eq_true h1]; rfl
      rw [e]
      go_enter Tryz.func38, Tryz.ntmps38
      go_wp2_with fail
      go_ret
      exact ⟨rfl, rfl⟩
    · have e : rtB r = false := by unfold rtB; rw [decide_eq_false h1, Bool.and_false]
      rw [e]
      go_enter Tryz.func38, Tryz.ntmps38
      go_wp2_with fail
      go_ret
      exact ⟨rfl, rfl⟩
  · have e : rtB r = false := by unfold rtB; rw [decide_eq_false h0, Bool.false_and]
    rw [e]
    go_enter Tryz.func38, Tryz.ntmps38
    go_wp2_with fail
    go_ret
    exact ⟨rfl, rfl⟩

end Go.Proofs.YtogknhogphkddaaGreat

/- A heap: Check: a contract. -/
namespace Go.Proofs.YtogknhogphkddaaGreat
open Go.RowKit W Kp Stl

set_option maxRecDepth 100000 in
set_option maxHeartbeats 1000000 in
theorem numberH_any (n : Int) (w : World) : Calls Tryz.prog 63 #[.int .i64 n] w fun e w' => e = .returned (.tuple #[.int .i64 (ew 1 n), .int .i64 (vc 1 n)]) ∧ Below w.heap.size w w' := by
  go_enter Tryz.func63, Tryz.ntmps63
  go_wp2_with fail
  refine (encode_any 1 n _).mono ?_
  rintro e w1 ⟨rfl, hb⟩
  go_wp2_with fail
  go_ret2
  exact ⟨rfl, hb⟩

set_option maxRecDepth 100000 in
set_option maxHeartbeats 1000000 in
theorem checkN_any (k R A B I n : Int) (w : World) : Calls Tryz.prog 39 #[.agg #[.int .i64 k, .int .i64 R, .int .i64 A, .int .i64 B, .int .i64 I, .int .i64 n]] w fun e w' => e = .returned (.int .i64 (ckN k n)) ∧ Below w.heap.size w w' := by
  have hb0 := (Below.refl w.heap.size w).alloc (Nat.le_refl _) (.cells #[.int .i64 k, .int .i64 R, .int .i64 A, .int .i64 B, .int .i64 I, .int .i64 n] 34)
  by_cases h1 : k = 1
  · subst h1
    have e : ckN 1 n = vc 1 n := by unfold ckN; rw [if_pos rfl]
    rw [e]
    go_enter Tryz.func39, Tryz.ntmps39
    go_wp2_with fail
    refine (numberH_any n _).mono ?_
    rintro e w1 ⟨rfl, hb⟩
    go_wp2_with fail
    go_ret
    exact ⟨rfl, hb0.trans (hb.mono hb0.size)⟩
  · by_cases h5 : k = 5
    · subst h5
      have e : ckN 5 n = hc 2 n := by unfold ckN; rw [if_neg (by omega), if_pos rfl]
      rw [e]
      go_enter Tryz.func39, Tryz.ntmps39
      go_wp2_with fail
      refine (head_any 2 n _).mono ?_
      rintro e w1 ⟨rfl, rfl⟩
      go_wp2_with fail
      go_ret
      exact ⟨rfl, hb0⟩
    · have e : ckN k n = 0 := by unfold ckN; rw [if_neg h1, if_neg h5]
      rw [e]
      have h1b : (k == 1) = false := by simpa using h1
      have h5b : (k == 5) = false := by simpa using h5
      go_enter Tryz.func39, Tryz.ntmps39
      go_wp2_with fail
      go_ret
      exact ⟨rfl, hb0⟩

end Go.Proofs.YtogknhogphkddaaGreat
