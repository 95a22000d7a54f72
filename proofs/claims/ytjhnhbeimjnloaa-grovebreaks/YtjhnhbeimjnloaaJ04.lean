/- Joined: Gp6, Ar1, Ar2, Ar3, Ar4, Ar5, Ar6, Ar7, Ar8, Same, ABegun, Ar9, OpenE, Sw3, Wo1, Wo2, Wo3, Wl, Cd, Cd1, Wo4, Opens, Apart2, Wl2. -/
import Derived.Test.YtjhnhbeimjnloaaJ03
import Derived.Test.YtjhnhbeimjnloaaJ01
import Derived.Deep.RegionWith
import Derived.Deep.RegionLaw
import Derived.Test.YtjhnhbeimjnloaaJ02
import Derived.Deep.Slices
import Derived.Lib.SmallJoins
import Derived.OpenShut
import Derived.Deep.RegionLawGrows
import Derived.Deep.AppendLies
import Derived.Laws.OwnMore
import Derived.Maps.OwnSet
/- What a cut asks. -/
namespace Go.Proofs.Ytjhnhbeimjnloaa
open Go.RowKit W Kp Stl

structure Wcv (s : Wrs) : Prop where
  iv : Wiv s.T s.wt
  rv : ∀ v ∈ s.rs, v.1 = 3 → 0 ≤ v.2 ∧ Alv s.T v.2.toNat
  gv : ∀ e ∈ s.rg, (0 ≤ e.1 ∧ Alv s.T e.1.toNat) ∧ 0 ≤ e.2 ∧ Alv s.T e.2.toNat
  wg : ∀ e ∈ s.wt, 0 ≤ e.1 ∧ Alv s.T e.1.toNat
  tl : s.T.length ≤ 10000
  gl : s.rg.length ≤ 1000
  wl : s.wt.length ≤ 1000
theorem Wcv.t12 {s : Wrs} (h : Wcv s) : ∀ t ∈ s.T, t.2.1.length ≤ 12 := fun t ht => by
  obtain ⟨i, hi, e⟩ := List.mem_iff_getElem.1 ht
  have := h.iv.tl i
  rw [List.getD_eq_getElem?_getD, List.getElem?_eq_getElem hi, e] at this
  exact this
theorem Wcv.first {s : Wrs} (h : Wcv s) (mj : Bool) : Sok_ s.T (frs s.T s.rs mj) :=
  ⟨frs_len _ _ _, fun k hk => by
    obtain ⟨h1, h2⟩ := (frs_in _ _ _ _).1 hk
    rcases h2 with ⟨_, h2, _⟩ | ⟨v, hv, h3, e⟩
    · exact ⟨h1, h2⟩
    · rw [← e]
      exact (h.rv v hv h3).2⟩

end Go.Proofs.Ytjhnhbeimjnloaa

/- What the functions of package arena that only look return, at whatever place: contracts, over the seat's own translation; nothing that was in memory turns. -/
namespace Go.Proofs.Ytjhnhbeimjnloaa
open Go.RowKit W

def hB (b u a : Int) : Bool := decide (b ≤ a ∧ a < b + u)
set_option maxRecDepth 100000 in
set_option maxHeartbeats 400000 in
theorem bounds_any {p q N O y g : Nat} {ws : List Int} (w : World) (h : At w p q N O y g ws) :
    Calls Try.prog 52 #[.pointer (some ⟨p, 0, none⟩)] w fun e w' => e = .returned (.tuple #[.int .i64 0, .int .i64 N]) ∧ Below w.heap.size w w' := by
  obtain ⟨c0, c1, c2, c3, c4, c5, c6⟩ := h.cells
  go_enter Try.func52, Try.ntmps52
  go_wp2_with fail
  go_quiet (fail)
  go_wp2_with fail
  go_ret2
  exact ⟨rfl, below_drewN (Below.refl _ _) _⟩

end Go.Proofs.Ytjhnhbeimjnloaa

/- What New, Free, Clear, Cut and take of package arena do: contracts, over the seat's own translation; no block but the arena's turns. -/
namespace Go.Proofs.Ytjhnhbeimjnloaa
open Go.RowKit W

theorem info64A : (Try.prog.info? 2).map (fun i => (i.zero, i.size, i.bytes)) = some (some (.int .i64 0), 1, 8) := by kernel_rfl

theorem made_row {w : World} {b k n : Nat} (h : w.ownsRow b 2 1 (.slice (some ⟨k, 0, none⟩) n n) n (madeCells (Value.int .i64 0).cells (n * 1)).toList) :
    w.heap[k]? = some (.cells ((List.replicate n (0 : Int)).map (Value.int .i64)).toArray 2 (0, 0)) := by
  obtain ⟨h1, h2⟩ := h
  rcases h2 with ⟨e, _⟩ | ⟨k', cap, cur, hv, hb, hh, h3, h4, h5, h6⟩
  · cases e
  · cases hv
    rw [hh]
    have : cur.toList = (List.replicate n (0 : Int)).map (Value.int .i64) := by
      rw [← List.take_of_length_le (l := cur.toList) (i := n * 1) (by simp; omega), h6]
      show (madeCells #[Value.int .i64 0] (n * 1)).toList = _
      rw [toList_madeCells_one]
      simp
    rw [← this]

theorem new_top {w : World} {k : Nat} (o : Obj) (h : w.heap.size = k) : (w.alloc o).heap[k]? = some o := by
  subst h; exact heap_alloc_new _ _

theorem after_make {w w1 : World} {a b : Value} {t : TypeId} (hg : (w.alloc (.cells #[a, b] t)).grownBy w1 none) :
    w1.cell? ⟨w.heap.size, 0, none⟩ = some a ∧ w1.cell? ⟨w.heap.size, 1, none⟩ = some b ∧ w1.frozen? ⟨w.heap.size, 0, none⟩ = false ∧ w1.frozen? ⟨w.heap.size, 1, none⟩ = false ∧ w.heap.size < w1.heap.size := by
  have hb := hg.block w.heap.size (by simp) (by simp)
  have hz := hg.size
  have e : (w.alloc (.cells #[a, b] t)).heap[w.heap.size]? = some (.cells #[a, b] t) := heap_alloc_new _ _
  rw [e] at hb
  refine ⟨?_, ?_, ?_, ?_, by simp at hz; omega⟩ <;> simp [World.cell?, World.frozen?, hb]

set_option maxRecDepth 100000 in
set_option maxHeartbeats 400000 in
theorem new_yes (n o : Int) (w : World) (h0 : 16 ≤ n) (h1 : n ≤ 256) (h2 : 0 ≤ o) (h3 : o ≤ 1024) :
    Calls Try.prog 51 #[.int .i64 n, .int .i64 o] w fun e w' => ∃ p q, e = .returned (.tuple #[.pointer (some ⟨p, 0, none⟩), .agg #[.int .i64 0, .int .i64 0]]) ∧ At w' p q n.toNat o.toNat 0 0 (List.replicate (n.toNat + o.toNat) 0) ∧ w.heap.size ≤ p ∧ w.heap.size ≤ q ∧ Below w.heap.size w w' := by
  obtain ⟨n, rfl⟩ := Int.eq_ofNat_of_zero_le (show 0 ≤ n by omega)
  obtain ⟨o, rfl⟩ := Int.eq_ofNat_of_zero_le h2
  simp only [Int.toNat_natCast]
  obtain ⟨i0, hi, hz0, hz1, hz2⟩ := info_parts info64A
  go_enter Try.func51, Try.ntmps51
  go_wp2_with (at_make; refine wpList_make_full _ rfl _ _ 109 rfl w.heap.size 2 i0 (.int .i64 0) 1 Try.underlying109 hi hz0 hz1 .i64 .i64 _ _ (n + o) rfl rfl (by omega) (by omega) (by rw [hz2]; omega) (by unfold maxLen; omega) (by simp) ?_; intro w1 hown hgrow; obtain ⟨c0, c1, f0, f1, hz⟩ := after_make hgrow)
  have hr := made_row hown
  simp only [World.size_alloc] at hr
  have hlt := lt_of_some hr
  refine bodyPost_ret (v := .tuple #[.pointer (some ⟨w1.heap.size, 0, none⟩), .agg #[.int .i64 0, .int .i64 0]]) (by simp [results, Try.results51, go_sem, c0, c1, hz]) rfl ⟨w1.heap.size, w.heap.size + 1, rfl, ⟨?_, ?_, by simp, by omega, by omega, by omega, by omega, by omega⟩, by omega, by omega, ?_⟩
  · exact new_top _ (by simp [World.setCell])
  · refine (Below.heap_alloc _ _ _ (by simp [World.setCell]; omega)).trans ?_
    rw [Below.heap_setCell _ _ _ _ (by simp), Below.heap_setCell _ _ _ _ (by simp)]
    exact hr
  · refine Below.alloc (Below.setCell (Below.setCell ?_ ?_ _) ?_ _) ?_ _
    · exact ((Below.refl _ _).alloc (Nat.le_refl _) _).grown hgrow (by simp) (fun _ h => by cases h)
    · exact Nat.le_refl _
    · exact Nat.le_refl _
    · simp [World.setCell]; omega

set_option maxRecDepth 100000 in
set_option maxHeartbeats 400000 in
theorem new_no (n o : Int) (w : World) (h : n < 16 ∨ 256 < n ∨ o < 0 ∨ 1024 < o) :
    Calls Try.prog 51 #[.int .i64 n, .int .i64 o] w fun e w' => e = .returned (.tuple #[.pointer none, .agg #[.int .i64 1, .int .i64 (-1)]]) ∧ Below w.heap.size w w' := by
  by_cases h1 : n < 16
  · go_enter Try.func51, Try.ntmps51
    go_wp2_with fail
    exact bodyPost_ret (v := .tuple #[.pointer none, .agg #[.int .i64 1, .int .i64 (-1)]]) (by simp [results, Try.results51, go_sem]) rfl ⟨rfl, (Below.refl _ _).alloc (Nat.le_refl _) _⟩
  by_cases h2 : 256 < n
  · go_enter Try.func51, Try.ntmps51
    go_wp2_with fail
    exact bodyPost_ret (v := .tuple #[.pointer none, .agg #[.int .i64 1, .int .i64 (-1)]]) (by simp [results, Try.results51, go_sem]) rfl ⟨rfl, (Below.refl _ _).alloc (Nat.le_refl _) _⟩
  by_cases h3 : o < 0
  · go_enter Try.func51, Try.ntmps51
    go_wp2_with fail
    exact bodyPost_ret (v := .tuple #[.pointer none, .agg #[.int .i64 1, .int .i64 (-1)]]) (by simp [results, Try.results51, go_sem]) rfl ⟨rfl, (Below.refl _ _).alloc (Nat.le_refl _) _⟩
  have h4 : 1024 < o := by omega
  go_enter Try.func51, Try.ntmps51
  go_wp2_with fail
  exact bodyPost_ret (v := .tuple #[.pointer none, .agg #[.int .i64 1, .int .i64 (-1)]]) (by simp [results, Try.results51, go_sem]) rfl ⟨rfl, (Below.refl _ _).alloc (Nat.le_refl _) _⟩

end Go.Proofs.Ytjhnhbeimjnloaa

/- What Make of package arena does: a contract, over the seat's own translation; no block but the arena's turns. -/
namespace Go.Proofs.Ytjhnhbeimjnloaa
open Go.RowKit W

def fil (ws : List Int) (y : Nat) (hd : Int) : Nat → List Int
  | 0 => ws.set y hd
  | k + 1 => (fil ws y hd k).set (y + 1 + k) 2

end Go.Proofs.Ytjhnhbeimjnloaa

/- What Move of package arena does: a contract, over the seat's own translation; no block but the arena's words turns. -/
namespace Go.Proofs.Ytjhnhbeimjnloaa
open Go.RowKit W

def Mv (w w' : World) (g : Nat) (cur : List Value) (off : Nat) (cs : List Value) : Prop :=
  (cs = [] ∧ w' = w) ∨ w' = w.setRow g (splice cur off cs).toArray

theorem step_copy_mv {P : Program} {ops : Array Oper} {o : Oper} {a : Act} {w : World} {K : Act → World → Prop} {Q : Exit → Act → World → Prop} {E : Prop} (hgd : o.guard = none) (d s : Operand) (dT sT elem : TypeId)
    (ho : o.op = .call { callee := .builtin .copy, args := #[d, s], argTypes := #[dT, sT] }) (hu : P.underlying dT = some (.slice elem)) (hsz : (P.info? elem).map (·.size) = some 1)
    (dp sp : Option Addr) (dLen dCap sLen sCap : Nat) (hd : a.eval d = .slice dp dLen dCap) (hs : a.eval s = .slice sp sLen sCap)
    (g off : Nat) (cur : List Value) (t : TypeId) (hg : w.heap[g]? = some (.cells cur.toArray t (0, 0))) (cs : List Value) (hn : cs.length = Nat.min sLen dLen)
    (hpos : 0 < cs.length → dp = some ⟨g, off, none⟩ ∧ ∃ ad, sp = some ad ∧ ∀ j v, cs[j]? = some v → w.cell? (ad.add j) = some v)
    (hfit : off + cs.length ≤ cur.length) (h1 : ∀ v ∈ cs, v.oneCell' = true)
    (h : ∀ w', Mv w w' g cur off cs → K (a.put o.dst (goInt cs.length)) w') :
    if Region.wanted o (yielded ops a.tmps) = true then Oper.wp P o a w K Q else E := by
  rw [if_pos (show Region.wanted o (yielded ops a.tmps) = true by simp [Region.wanted, hgd])]
  rcases Nat.eq_zero_or_pos cs.length with h0 | h0
  · have ec : cs = [] := List.eq_nil_of_length_eq_zero h0
    subst ec
    have hrun := run_copy_none (P := P) w dT sT o.type elem dp sp dLen dCap sLen sCap hu hsz (by simpa using hn.symm)
    unfold Oper.wp
    simp [execOp, ho, resolve, invoke, builtin, hd, hs, hrun, Result.andThen]
    exact h w (Or.inl ⟨rfl, rfl⟩)
  · obtain ⟨ed, ad, es, hsrc⟩ := hpos h0
    subst ed es
    have hrun := run_copy_row (P := P) w dT sT o.type elem g off dLen dCap ad sLen sCap cur.toArray t cs hu hsz hg hn hsrc (by simpa using hfit) h1
    unfold Oper.wp
    simp [execOp, ho, resolve, invoke, builtin, hd, hs, hrun, Result.andThen]
    exact h _ (Or.inr (by simp [splice]))

theorem size64 : (Try.prog.info? 2).map (·.size) = some 1 := by kernel_rfl

theorem ints_one (l : List Int) : ∀ v ∈ l.map (Value.int .i64), v.oneCell' = true := by
  intro v hv
  obtain ⟨x, _, rfl⟩ := List.mem_map.1 hv
  rfl

theorem splice_map (ws cs : List Int) (t : Nat) : splice (ws.map (Value.int .i64)) t (cs.map (Value.int .i64)) = (splice ws t cs).map (Value.int .i64) := by
  simp [splice, List.map_take, List.map_drop]

end Go.Proofs.Ytjhnhbeimjnloaa

/- What Copy of package arena does: a contract, over the seat's own translation; no block but the arena's turns. -/
namespace Go.Proofs.Ytjhnhbeimjnloaa
open Go.RowKit W

def endA (N y g : Nat) (a : Int) : Int := if hB 0 y a = true then (y : Int) else (N : Int) + g
end Go.Proofs.Ytjhnhbeimjnloaa

/- What Words of package arena answers: a contract, over the seat's own translation; nothing that was in memory turns. -/
namespace Go.Proofs.Ytjhnhbeimjnloaa
open Go.RowKit W

end Go.Proofs.Ytjhnhbeimjnloaa

/- What Things of package arena answers: contracts of it, of the looks that it hands over, and of what shows them each place, over the seat's own translation; nothing that was in memory turns. -/
namespace Go.Proofs.Ytjhnhbeimjnloaa
open Go.RowKit W

theorem infoInt : (Try.prog.info? 3).map (fun i => (i.zero, i.size, i.bytes)) = some (some (.int .i64 0), 1, 8) := by kernel_rfl

end Go.Proofs.Ytjhnhbeimjnloaa

/- What Things of package arena answers: its own contract, over the seat's own translation; nothing that was in memory turns. -/
namespace Go.Proofs.Ytjhnhbeimjnloaa
open Go.RowKit W


end Go.Proofs.Ytjhnhbeimjnloaa

/- The document's comparisons of two lists answer true where both hold the same numbers: contracts, over the seat's own translation; nothing that was in memory turns. -/
namespace Go.Proofs.Ytjhnhbeimjnloaa
open Go.RowKit W

end Go.Proofs.Ytjhnhbeimjnloaa

/- The statements on arenas begin by a few steps in a small arena: they answer as the statements ask, in whatever memory; nothing that was in memory turns. -/
namespace Go.Proofs.Ytjhnhbeimjnloaa
open Go.RowKit W

def B1 : List Int := fil (List.replicate 24 0) 0 33 2
def B2 : List Int := fil B1 3 194 12
def B3 : List Int := splice B2 16 ((B2.drop 0).take 3)
theorem e16 : endA 16 16 0 0 = 16 := by decide +kernel
end Go.Proofs.Ytjhnhbeimjnloaa

/- Make and Copy of package arena in one contract each, whatever they are asked; what words are where a thing was made. -/
namespace Go.Proofs.Ytjhnhbeimjnloaa
open Go.RowKit W

end Go.Proofs.Ytjhnhbeimjnloaa

/- Lists of entries, of words, of pairs of words that came in, opened: what a walk is told of them. -/
namespace Go.Proofs.Ytjhnhbeimjnloaa
open Go.ChangeShapes Go.WideShapes Go.ChangeAt Go.RowKit Go.Joins Go.Deep W Stl

end Go.Proofs.Ytjhnhbeimjnloaa

/- append of a list that came in, nil or not, onto a row of its own: laws for the walk. -/
namespace Go.Proofs.Ytjhnhbeimjnloaa
open Go.RowKit W Kp Stl

section
variable {P : Program} (w : World)

theorem run_append_src (base : Nat) (t ty e : TypeId) (i : TypeInfo) (z : Value) (size bytes : Nat) (ht : P.underlying t = some (.slice e)) (hi : P.info? e = some i) (hz : i.zero = some z)
    (hsize : i.size = size) (hby : i.bytes = bytes) (hzs : z.cells.size = size) (hsz : 0 < size)
    (v : Value) (n : Nat) (xs : List Value) (hown : w.ownsRow base e size v n xs)
    (ad : Option Addr) (m c : Nat) (news : List Value) (hl : news.length = m * size) (hnone : ad = none → m = 0 ∧ c = 0) (hnews : ∀ a, ad = some a → ∀ j u, news[j]? = some u → w.cell? (a.add j) = some u) (h1 : ∀ u ∈ news, u.oneCell' = true)
    (h63 : n + m ≤ maxLen) (hbytes : (n + m) * bytes ≤ 140737488355328) (hbase : base ≤ w.heap.size) :
    ∃ a' c' w', (Builtin.append_ #[t, t] ty #[v, .slice ad m c]).run P w = .ok (.slice a' (n + m) c') w' ∧ w'.ownsRow base e size (.slice a' (n + m) c') (n + m) (xs ++ news) ∧ w.grownBy w' v.ownBlock ∧ ((Value.slice a' (n + m) c').ownBlock = v.ownBlock ∨ (Value.slice a' (n + m) c').ownBlock = some w.heap.size) := by
  cases ad with
  | some a =>
    obtain ⟨v', w', hr, h2, h3, _, h5⟩ := run_append_own_at (P := P) w base t ty e i z size bytes ht hi hz hsize hby hzs hsz v n xs hown a m c news hl (hnews a rfl) h1 h63 hbytes hbase
    obtain ⟨a', c', rfl⟩ := row_slice h2
    exact ⟨a', c', w', hr, h2, h3, h5⟩
  | none =>
    obtain ⟨rfl, rfl⟩ := hnone rfl
    have hn : news = [] := List.eq_nil_of_length_eq_zero (by simpa using hl)
    subst hn
    have hr := run_append_owned_none (P := P) w base t ty e i size ht hi v n xs hown
    obtain ⟨a', c', rfl⟩ := row_slice hown
    exact ⟨a', c', w, hr, by simpa using hown, ⟨rfl, rfl, rfl, Nat.le_refl _, fun _ _ _ => rfl⟩, Or.inl rfl⟩

theorem wp_append_src {o : Oper} {a : Act} {K : Act → World → Prop} {Q : Exit → Act → World → Prop} (s x : Operand) (t : TypeId)
    (ho : o.op = .call { callee := .builtin .append, args := #[s, x], argTypes := #[t, t] })
    (base : Nat) (e : TypeId) (i : TypeInfo) (z : Value) (size bytes : Nat) (ht : P.underlying t = some (.slice e)) (hi : P.info? e = some i) (hz : i.zero = some z)
    (hsize : i.size = size) (hby : i.bytes = bytes) (hzs : z.cells.size = size) (hsz : 0 < size)
    (v : Value) (n : Nat) (xs : List Value) (hs : a.eval s = v) (hown : w.ownsRow base e size v n xs)
    (ad : Option Addr) (m c : Nat) (news : List Value) (hx : a.eval x = .slice ad m c) (hl : news.length = m * size) (hnone : ad = none → m = 0 ∧ c = 0) (hnews : ∀ a, ad = some a → ∀ j u, news[j]? = some u → w.cell? (a.add j) = some u) (h1 : ∀ u ∈ news, u.oneCell' = true)
    (h63 : n + m ≤ maxLen) (hbytes : (n + m) * bytes ≤ 140737488355328) (hbase : base ≤ w.heap.size)
    (h : ∀ a' c' w', w'.ownsRow base e size (.slice a' (n + m) c') (n + m) (xs ++ news) → w.grownBy w' v.ownBlock → ((Value.slice a' (n + m) c').ownBlock = v.ownBlock ∨ (Value.slice a' (n + m) c').ownBlock = some w.heap.size) → K (a.put o.dst (.slice a' (n + m) c')) w') : o.wp P a w K Q := by
  obtain ⟨a', c', w', hr, h2, h3, h4⟩ := run_append_src (P := P) w base t o.type e i z size bytes ht hi hz hsize hby hzs hsz v n xs hown ad m c news hl hnone hnews h1 h63 hbytes hbase
  unfold Oper.wp execOp
  simp only [ho, resolve, invoke, builtin, Sem.run_bind, Sem.run_pure, Result.andThen_ok, List.map_toArray, List.map_cons, List.map_nil, hs, hx, hr]
  exact h a' c' w' h2 h3 h4

theorem wpList_append_src {ops : Array Oper} {rest : List Oper} {o : Oper} {a : Act} {Q : Exit → Act → World → Prop} (hgd : o.guard = none) (s x : Operand) (t : TypeId)
    (ho : o.op = .call { callee := .builtin .append, args := #[s, x], argTypes := #[t, t] })
    (base : Nat) (e : TypeId) (i : TypeInfo) (z : Value) (size bytes : Nat) (ht : P.underlying t = some (.slice e)) (hi : P.info? e = some i) (hz : i.zero = some z)
    (hsize : i.size = size) (hby : i.bytes = bytes) (hzs : z.cells.size = size) (hsz : 0 < size)
    (v : Value) (n : Nat) (xs : List Value) (hs : a.eval s = v) (hown : w.ownsRow base e size v n xs)
    (ad : Option Addr) (m c : Nat) (news : List Value) (hx : a.eval x = .slice ad m c) (hl : news.length = m * size) (hnone : ad = none → m = 0 ∧ c = 0) (hnews : ∀ a, ad = some a → ∀ j u, news[j]? = some u → w.cell? (a.add j) = some u) (h1 : ∀ u ∈ news, u.oneCell' = true)
    (h63 : n + m ≤ maxLen) (hbytes : (n + m) * bytes ≤ 140737488355328) (hbase : base ≤ w.heap.size)
    (h : ∀ a' c' w', w'.ownsRow base e size (.slice a' (n + m) c') (n + m) (xs ++ news) → w.grownBy w' v.ownBlock → ((Value.slice a' (n + m) c').ownBlock = v.ownBlock ∨ (Value.slice a' (n + m) c').ownBlock = some w.heap.size) → wpList P ops Q rest (a.put o.dst (.slice a' (n + m) c')) w') : wpList P ops Q (o :: rest) a w :=
  wpList_plain hgd fun _ hK => wp_append_src w s x t ho base e i z size bytes ht hi hz hsize hby hzs hsz v n xs hs hown ad m c news hx hl hnone hnews h1 h63 hbytes hbase fun a' c' w' h2 h3 h4 => hK _ _ (h a' c' w' h2 h3 h4)

end

end Go.Proofs.Ytjhnhbeimjnloaa

/- A wood: where a word leads; Kind: contracts. -/
namespace Go.Proofs.Ytjhnhbeimjnloaa
open Go.RowKit W

end Go.Proofs.Ytjhnhbeimjnloaa

/- A wood: Kind, standing, fieldAt, Get: contracts. -/
namespace Go.Proofs.Ytjhnhbeimjnloaa
open Go.RowKit W

section
variable {pw p q N O y g : Nat} {ws : List Int}

end

end Go.Proofs.Ytjhnhbeimjnloaa

/- A wood: fieldAt, Get: contracts. -/
namespace Go.Proofs.Ytjhnhbeimjnloaa
open Go.RowKit W

section
variable {pw p q N O y g : Nat} {ws : List Int}

end

end Go.Proofs.Ytjhnhbeimjnloaa

/- Things one behind the other: lists alone. -/
namespace Go.Proofs.Ytjhnhbeimjnloaa
open Go.RowKit W

section
variable {L L' : Int → Int} {hi : Int}

end

end Go.Proofs.Ytjhnhbeimjnloaa

/- Cards in memory: a struct of its own block, the numbers of those that are marked a map in another; lemmas on both. -/
namespace Go.Proofs.Ytjhnhbeimjnloaa
open Go.RowKit W

structure Cd (w : World) (p q : Nat) (B c : Int) (M : List Int) : Prop where
  hp : w.heap[p]? = some (.cells #[.int .i64 B, .int .u64 c, .map (some q)] 141 (0, 0))
  hq : ∃ D : DataW Unit, w.ownsMap Try.prog 117 unitElem q M.length D ∧ (∀ k : Int, Maps.has D (.int .u64 k) = M.contains k) ∧ Maps.size D = M.length

theorem own_same {H : Type} {P : Program} {k : TypeId} {R : Value → Option (DataW H × List MemPlace)} {w w' : World} {b n : Nat} {D : DataW H} (h : w.ownsMap P k R b n D) (e : w'.heap[b]? = w.heap[b]?) : w'.ownsMap P k R b n D := by
  obtain ⟨es, clock, hb, r⟩ := h
  exact ⟨es, clock, e.trans hb, r⟩
theorem Cd.ltp {w : World} {p q : Nat} {B c : Int} {M : List Int} (h : Cd w p q B c M) : p < w.heap.size := lt_of_some h.hp
theorem Cd.ltq {w : World} {p q : Nat} {B c : Int} {M : List Int} (h : Cd w p q B c M) : q < w.heap.size := by
  obtain ⟨D, h1, _⟩ := h.hq
  exact h1.lt
theorem Cd.same {w w' : World} {p q : Nat} {B c : Int} {M : List Int} (h : Cd w p q B c M) (ep : w'.heap[p]? = w.heap[p]?) (eq : w'.heap[q]? = w.heap[q]?) : Cd w' p q B c M := by
  obtain ⟨D, h1, h2⟩ := h.hq
  exact ⟨ep.trans h.hp, D, own_same h1 eq, h2⟩
theorem Cd.below {w w' : World} {p q X : Nat} {B c : Int} {M : List Int} (h : Cd w p q B c M) (hb : Below X w w') (hX : w.heap.size ≤ X) : Cd w' p q B c M :=
  h.same (hb.block p (Nat.lt_of_lt_of_le h.ltp hX)) (hb.block q (Nat.lt_of_lt_of_le h.ltq hX))
theorem Cd.none {w : World} {p q : Nat} {B c : Int} (h : w.heap[p]? = some (.cells #[.int .i64 B, .int .u64 c, .map (some q)] 141 (0, 0))) (h1 : w.ownsMap Try.prog 117 unitElem q 0 (.map [] : DataW Unit)) : Cd w p q B c [] :=
  ⟨h, _, h1, fun _ => rfl, rfl⟩

end Go.Proofs.Ytjhnhbeimjnloaa

/- What the functions of package cards do: contracts, over the seat's own translation; no block but the cards' turns. -/
namespace Go.Proofs.Ytjhnhbeimjnloaa
open Go.RowKit W

def nC (x : Int) : Int := if x < 0 then 0 else (x + 8 - 1) / 8
def cN (B a : Int) : Int := if a < B then 0 else (a - B) / 8
set_option maxRecDepth 100000 in
set_option maxHeartbeats 400000 in
theorem begunC_any (x : Int) (w : World) (h : x ≤ 100000) : Calls Try.prog 72 #[.int .i64 x] w fun e w' => e = .returned (.int .u64 (nC x)) ∧ w' = w := by
  by_cases c : x < 0
  · have e : nC x = 0 := by unfold nC; rw [if_pos c]
    rw [e]
    go_enter Try.func72, Try.ntmps72
    go_wp2_with fail
    go_ret
    exact ⟨rfl, rfl⟩
  · have e : nC x = (x + 8 - 1) / 8 := by unfold nC; rw [if_neg c]
    rw [e]
    go_enter Try.func72, Try.ntmps72
    go_wp2_with fail
    go_ret
    exact ⟨rfl, rfl⟩

set_option maxRecDepth 100000 in
set_option maxHeartbeats 400000 in
theorem clearC_any {p : Nat} {B c : Int} {v : Value} (w : World) (h : w.heap[p]? = some (.cells #[.int .i64 B, .int .u64 c, v] 141 (0, 0))) :
    Calls Try.prog 73 #[.pointer (some ⟨p, 0, none⟩)] w fun e w' => e = .returned (.tuple #[]) ∧ Cd w' p w.heap.size B c [] ∧ Sv p p w w' := by
  have hmm := @run_makeMap Try.prog
  have hp := lt_of_some h
  have hf : (w.alloc (.map #[] 0)).frozen? ⟨p, 2, none⟩ = false := by
    simp [World.frozen?, Below.heap_alloc _ _ _ hp, h]
  have hc : (w.alloc (.map #[] 0)).cell? ⟨p, 2, none⟩ = some v := by
    simp [World.cell?, Below.heap_alloc _ _ _ hp, h]
  go_enter Try.func73, Try.ntmps73
  go_wp2_with fail
  go_end0
  have hm := World.ownsMap_made (w.setCell ⟨p, 2, none⟩ (.map (some w.heap.size))) Try.prog 117 (unitElem (H := Unit))
  have hz : (w.setCell ⟨p, 2, none⟩ (.map (some w.heap.size))).heap.size = w.heap.size := by simp [World.setCell]
  rw [hz] at hm
  refine ⟨rfl, Cd.none ((Below.heap_alloc _ _ _ (by omega)).trans ?_) hm, (Sv.setp _ _).trans (Sv.of ((Below.refl _ _).alloc (Nat.le_refl _) _))⟩
  simp only [World.setCell, Array.getElem?_modify, if_true, h, Option.map_some]
  simp

set_option maxRecDepth 100000 in
set_option maxHeartbeats 400000 in
theorem newC_any (B x : Int) (w : World) (h : x ≤ 100000) :
    Calls Try.prog 53 #[.int .i64 B, .int .i64 x] w fun e w' => ∃ p q, e = .returned (.pointer (some ⟨p, 0, none⟩)) ∧ Cd w' p q B (nC x) [] ∧ w.heap.size ≤ p ∧ w.heap.size ≤ q ∧ Below w.heap.size w w' := by
  go_enter Try.func53, Try.ntmps53
  go_wp2_with fail
  refine (begunC_any x _ h).mono ?_
  rintro e w1 ⟨rfl, hw1⟩
  have hw1 := hw1.symm
  subst hw1
  go_wp2_with fail
  refine (clearC_any (p := w.heap.size) (B := B) (c := nC x) (v := .map none) _ (heap_alloc_new _ _)).mono ?_
  rintro e w2 ⟨rfl, h2, s2⟩
  go_wp2_with fail
  go_ret
  exact ⟨_, _, rfl, h2, Nat.le_refl _, by simp, ((Below.refl _ _).alloc (Nat.le_refl _) _).trans (s2.below (by simp) (Nat.le_refl _) (Nat.le_refl _))⟩

end Go.Proofs.Ytjhnhbeimjnloaa

/- A wood: Set: a contract. -/
namespace Go.Proofs.Ytjhnhbeimjnloaa
open Go.RowKit W

structure Wod (w : World) (pw p q pc pq N O y g : Nat) (ws : List Int) (c : Int) (M : List Int) (vs vr : Value) : Prop where
  blk : w.heap[pw]? = some (.cells #[.pointer (some ⟨p, 0, none⟩), .pointer (some ⟨pc, 0, none⟩), vs, vr] 113 (0, 0))
  ar : At w p q N O y g ws
  cd : Cd w pc pq N c M

section
variable {w w' : World} {pw p q pc pq N O y g : Nat} {ws : List Int} {c : Int} {M : List Int} {vs vr : Value}

end

end Go.Proofs.Ytjhnhbeimjnloaa

/- A list of steps, or of words, that came in, opened: what a walk is told of it. -/
namespace Go.Proofs.Ytjhnhbeimjnloaa
open Go.ChangeShapes Go.WideShapes Go.ChangeAt Go.RowKit Go.Joins Go.Deep W

end Go.Proofs.Ytjhnhbeimjnloaa

/- ArenaApart's walk: it returns true at whatever spaces and steps, in whatever memory; nothing that was in memory turns. -/
namespace Go.Proofs.Ytjhnhbeimjnloaa.Apart2
open Go.RowKit W

end Go.Proofs.Ytjhnhbeimjnloaa.Apart2

/- Things one behind the other: what Make, Copy and Set leave of them. -/
namespace Go.Proofs.Ytjhnhbeimjnloaa
open Go.RowKit W Apart2

section
variable {N O y g : Nat} {ws : List Int} {Y G : List Int}

end

end Go.Proofs.Ytjhnhbeimjnloaa
