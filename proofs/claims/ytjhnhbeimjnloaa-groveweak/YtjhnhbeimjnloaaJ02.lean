/- Joined: Gp6, Ar1, Ar2, Ar3, Ar4, Ar5, Ar6, Ar7, Ar8, Same, ABegun, Ar9, Sm1, Sd, Sd1, OpenE, Sw3, Wo1, Wo2, Wo3, Wl, Cd. -/
import Derived.Test.YtjhnhbeimjnloaaJ01
import Derived.Deep.RegionWith
import Derived.Deep.RegionLaw
import Derived.Deep.QuietTactic
import Derived.Maps.AppendAt
import Derived.Test.YtjhnhbeimjnloaaJ00
import Derived.Deep.RegionHeld3
import Derived.ArgAppend
import Derived.Deep.RegionLawGrows
import Derived.Deep.Slices
import Derived.Lib.SmallJoins
import Derived.OpenShut
import Derived.Deep.AppendLies
import Derived.Laws.OwnMore
import Derived.Maps.OwnSet
/- What a cut asks. -/
namespace Go.Proofs.Ytjhnhbeimjnloaa
open Go.RowKit W Kp Stl

structure Wcv (s : Wrs) : Prop where
  iv : Wiv s.T s.wt
  rv : ∀ v ∈ s.rs, v.1 = 3 → 0 ≤ v.2 ∧ Alv s.T v.2.toNat
  gv : ∀ e ∈ s.rg, (0 ≤ e.1 ∧ Alv s.T e.1.toNat) ∧ 0 ≤ e.2 ∧ Alv s.T e.2.toNat
  wg : ∀ e ∈ s.wt, 0 ≤ e.1 ∧ Alv s.T e.1.toNat
  tl : s.T.length ≤ 10000
  gl : s.rg.length ≤ 1000
  wl : s.wt.length ≤ 1000
theorem Wcv.t12 {s : Wrs} (h : Wcv s) : ∀ t ∈ s.T, t.2.1.length ≤ 12 := fun t ht => by
  obtain ⟨i, hi, e⟩ := List.mem_iff_getElem.1 ht
  have := h.iv.tl i
  rw [List.getD_eq_getElem?_getD, List.getElem?_eq_getElem hi, e] at this
  exact this
theorem Wcv.first {s : Wrs} (h : Wcv s) (mj : Bool) : Sok_ s.T (frs s.T s.rs mj) :=
  ⟨frs_len _ _ _, fun k hk => by
    obtain ⟨h1, h2⟩ := (frs_in _ _ _ _).1 hk
    rcases h2 with ⟨_, h2, _⟩ | ⟨v, hv, h3, e⟩
    · exact ⟨h1, h2⟩
    · rw [← e]
      exact (h.rv v hv h3).2⟩

end Go.Proofs.Ytjhnhbeimjnloaa

/- What the functions of package arena that only look return, at whatever place: contracts, over the seat's own translation; nothing that was in memory turns. -/
namespace Go.Proofs.Ytjhnhbeimjnloaa
open Go.RowKit W

def hB (b u a : Int) : Bool := decide (b ≤ a ∧ a < b + u)
set_option maxRecDepth 100000 in
set_option maxHeartbeats 400000 in
theorem bounds_any {p q N O y g : Nat} {ws : List Int} (w : World) (h : At w p q N O y g ws) :
    Calls Try.prog 52 #[.pointer (some ⟨p, 0, none⟩)] w fun e w' => e = .returned (.tuple #[.int .i64 0, .int .i64 N]) ∧ Below w.heap.size w w' := by
  obtain ⟨c0, c1, c2, c3, c4, c5, c6⟩ := h.cells
  go_enter Try.func52, Try.ntmps52
  go_wp2_with fail
  go_quiet (fail)
  go_wp2_with fail
  go_ret2
  exact ⟨rfl, below_drewN (Below.refl _ _) _⟩

end Go.Proofs.Ytjhnhbeimjnloaa

/- What New, Free, Clear, Cut and take of package arena do: contracts, over the seat's own translation; no block but the arena's turns. -/
namespace Go.Proofs.Ytjhnhbeimjnloaa
open Go.RowKit W

theorem info64A : (Try.prog.info? 2).map (fun i => (i.zero, i.size, i.bytes)) = some (some (.int .i64 0), 1, 8) := by kernel_rfl

theorem made_row {w : World} {b k n : Nat} (h : w.ownsRow b 2 1 (.slice (some ⟨k, 0, none⟩) n n) n (madeCells (Value.int .i64 0).cells (n * 1)).toList) :
    w.heap[k]? = some (.cells ((List.replicate n (0 : Int)).map (Value.int .i64)).toArray 2 (0, 0)) := by
  obtain ⟨h1, h2⟩ := h
  rcases h2 with ⟨e, _⟩ | ⟨k', cap, cur, hv, hb, hh, h3, h4, h5, h6⟩
  · cases e
  · cases hv
    rw [hh]
    have : cur.toList = (List.replicate n (0 : Int)).map (Value.int .i64) := by
      rw [← List.take_of_length_le (l := cur.toList) (i := n * 1) (by simp; omega), h6]
      show (madeCells #[Value.int .i64 0] (n * 1)).toList = _
      rw [toList_madeCells_one]
      simp
    rw [← this]

theorem new_top {w : World} {k : Nat} (o : Obj) (h : w.heap.size = k) : (w.alloc o).heap[k]? = some o := by
  subst h; exact heap_alloc_new _ _

theorem after_make {w w1 : World} {a b : Value} {t : TypeId} (hg : (w.alloc (.cells #[a, b] t)).grownBy w1 none) :
    w1.cell? ⟨w.heap.size, 0, none⟩ = some a ∧ w1.cell? ⟨w.heap.size, 1, none⟩ = some b ∧ w1.frozen? ⟨w.heap.size, 0, none⟩ = false ∧ w1.frozen? ⟨w.heap.size, 1, none⟩ = false ∧ w.heap.size < w1.heap.size := by
  have hb := hg.block w.heap.size (by simp) (by simp)
  have hz := hg.size
  have e : (w.alloc (.cells #[a, b] t)).heap[w.heap.size]? = some (.cells #[a, b] t) := heap_alloc_new _ _
  rw [e] at hb
  refine ⟨?_, ?_, ?_, ?_, by simp at hz; omega⟩ <;> simp [World.cell?, World.frozen?, hb]

set_option maxRecDepth 100000 in
set_option maxHeartbeats 400000 in
theorem new_yes (n o : Int) (w : World) (h0 : 16 ≤ n) (h1 : n ≤ 256) (h2 : 0 ≤ o) (h3 : o ≤ 1024) :
    Calls Try.prog 51 #[.int .i64 n, .int .i64 o] w fun e w' => ∃ p q, e = .returned (.tuple #[.pointer (some ⟨p, 0, none⟩), .agg #[.int .i64 0, .int .i64 0]]) ∧ At w' p q n.toNat o.toNat 0 0 (List.replicate (n.toNat + o.toNat) 0) ∧ w.heap.size ≤ p ∧ w.heap.size ≤ q ∧ Below w.heap.size w w' := by
  obtain ⟨n, rfl⟩ := Int.eq_ofNat_of_zero_le (show 0 ≤ n by omega)
  obtain ⟨o, rfl⟩ := Int.eq_ofNat_of_zero_le h2
  simp only [Int.toNat_natCast]
  obtain ⟨i0, hi, hz0, hz1, hz2⟩ := info_parts info64A
  go_enter Try.func51, Try.ntmps51
  go_wp2_with (at_make; refine wpList_make_full _ rfl _ _ 109 rfl w.heap.size 2 i0 (.int .i64 0) 1 Try.underlying109 hi hz0 hz1 .i64 .i64 _ _ (n + o) rfl rfl (by omega) (by omega) (by rw [hz2]; omega) (by unfold maxLen; omega) (by simp) ?_; intro w1 hown hgrow; obtain ⟨c0, c1, f0, f1, hz⟩ := after_make hgrow)
  have hr := made_row hown
  simp only [World.size_alloc] at hr
  have hlt := lt_of_some hr
  refine bodyPost_ret (v := .tuple #[.pointer (some ⟨w1.heap.size, 0, none⟩), .agg #[.int .i64 0, .int .i64 0]]) (by simp [results, Try.results51, go_sem, c0, c1, hz]) rfl ⟨w1.heap.size, w.heap.size + 1, rfl, ⟨?_, ?_, by simp, by omega, by omega, by omega, by omega, by omega⟩, by omega, by omega, ?_⟩
  · exact new_top _ (by simp [World.setCell])
  · refine (Below.heap_alloc _ _ _ (by simp [World.setCell]; omega)).trans ?_
    rw [Below.heap_setCell _ _ _ _ (by simp), Below.heap_setCell _ _ _ _ (by simp)]
    exact hr
  · refine Below.alloc (Below.setCell (Below.setCell ?_ ?_ _) ?_ _) ?_ _
    · exact ((Below.refl _ _).alloc (Nat.le_refl _) _).grown hgrow (by simp) (fun _ h => by cases h)
    · exact Nat.le_refl _
    · exact Nat.le_refl _
    · simp [World.setCell]; omega

set_option maxRecDepth 100000 in
set_option maxHeartbeats 400000 in
theorem new_no (n o : Int) (w : World) (h : n < 16 ∨ 256 < n ∨ o < 0 ∨ 1024 < o) :
    Calls Try.prog 51 #[.int .i64 n, .int .i64 o] w fun e w' => e = .returned (.tuple #[.pointer none, .agg #[.int .i64 1, .int .i64 (-1)]]) ∧ Below w.heap.size w w' := by
  by_cases h1 : n < 16
  · go_enter Try.func51, Try.ntmps51
    go_wp2_with fail
    exact bodyPost_ret (v := .tuple #[.pointer none, .agg #[.int .i64 1, .int .i64 (-1)]]) (by simp [results, Try.results51, go_sem]) rfl ⟨rfl, (Below.refl _ _).alloc (Nat.le_refl _) _⟩
  by_cases h2 : 256 < n
  · go_enter Try.func51, Try.ntmps51
    go_wp2_with fail
    exact bodyPost_ret (v := .tuple #[.pointer none, .agg #[.int .i64 1, .int .i64 (-1)]]) (by simp [results, Try.results51, go_sem]) rfl ⟨rfl, (Below.refl _ _).alloc (Nat.le_refl _) _⟩
  by_cases h3 : o < 0
  · go_enter Try.func51, Try.ntmps51
    go_wp2_with fail
    exact bodyPost_ret (v := .tuple #[.pointer none, .agg #[.int .i64 1, .int .i64 (-1)]]) (by simp [results, Try.results51, go_sem]) rfl ⟨rfl, (Below.refl _ _).alloc (Nat.le_refl _) _⟩
  have h4 : 1024 < o := by omega
  go_enter Try.func51, Try.ntmps51
  go_wp2_with fail
  exact bodyPost_ret (v := .tuple #[.pointer none, .agg #[.int .i64 1, .int .i64 (-1)]]) (by simp [results, Try.results51, go_sem]) rfl ⟨rfl, (Below.refl _ _).alloc (Nat.le_refl _) _⟩

end Go.Proofs.Ytjhnhbeimjnloaa

/- What Make of package arena does: a contract, over the seat's own translation; no block but the arena's turns. -/
namespace Go.Proofs.Ytjhnhbeimjnloaa
open Go.RowKit W

def fil (ws : List Int) (y : Nat) (hd : Int) : Nat → List Int
  | 0 => ws.set y hd
  | k + 1 => (fil ws y hd k).set (y + 1 + k) 2

end Go.Proofs.Ytjhnhbeimjnloaa

/- What Move of package arena does: a contract, over the seat's own translation; no block but the arena's words turns. -/
namespace Go.Proofs.Ytjhnhbeimjnloaa
open Go.RowKit W

def Mv (w w' : World) (g : Nat) (cur : List Value) (off : Nat) (cs : List Value) : Prop :=
  (cs = [] ∧ w' = w) ∨ w' = w.setRow g (splice cur off cs).toArray

theorem step_copy_mv {P : Program} {ops : Array Oper} {o : Oper} {a : Act} {w : World} {K : Act → World → Prop} {Q : Exit → Act → World → Prop} {E : Prop} (hgd : o.guard = none) (d s : Operand) (dT sT elem : TypeId)
    (ho : o.op = .call { callee := .builtin .copy, args := #[d, s], argTypes := #[dT, sT] }) (hu : P.underlying dT = some (.slice elem)) (hsz : (P.info? elem).map (·.size) = some 1)
    (dp sp : Option Addr) (dLen dCap sLen sCap : Nat) (hd : a.eval d = .slice dp dLen dCap) (hs : a.eval s = .slice sp sLen sCap)
    (g off : Nat) (cur : List Value) (t : TypeId) (hg : w.heap[g]? = some (.cells cur.toArray t (0, 0))) (cs : List Value) (hn : cs.length = Nat.min sLen dLen)
    (hpos : 0 < cs.length → dp = some ⟨g, off, none⟩ ∧ ∃ ad, sp = some ad ∧ ∀ j v, cs[j]? = some v → w.cell? (ad.add j) = some v)
    (hfit : off + cs.length ≤ cur.length) (h1 : ∀ v ∈ cs, v.oneCell' = true)
    (h : ∀ w', Mv w w' g cur off cs → K (a.put o.dst (goInt cs.length)) w') :
    if Region.wanted o (yielded ops a.tmps) = true then Oper.wp P o a w K Q else E := by
  rw [if_pos (show Region.wanted o (yielded ops a.tmps) = true by simp [Region.wanted, hgd])]
  rcases Nat.eq_zero_or_pos cs.length with h0 | h0
  · have ec : cs = [] := List.eq_nil_of_length_eq_zero h0
    subst ec
    have hrun := run_copy_none (P := P) w dT sT o.type elem dp sp dLen dCap sLen sCap hu hsz (by simpa using hn.symm)
    unfold Oper.wp
    simp [execOp, ho, resolve, invoke, builtin, hd, hs, hrun, Result.andThen]
    exact h w (Or.inl ⟨rfl, rfl⟩)
  · obtain ⟨ed, ad, es, hsrc⟩ := hpos h0
    subst ed es
    have hrun := run_copy_row (P := P) w dT sT o.type elem g off dLen dCap ad sLen sCap cur.toArray t cs hu hsz hg hn hsrc (by simpa using hfit) h1
    unfold Oper.wp
    simp [execOp, ho, resolve, invoke, builtin, hd, hs, hrun, Result.andThen]
    exact h _ (Or.inr (by simp [splice]))

theorem size64 : (Try.prog.info? 2).map (·.size) = some 1 := by kernel_rfl

theorem ints_one (l : List Int) : ∀ v ∈ l.map (Value.int .i64), v.oneCell' = true := by
  intro v hv
  obtain ⟨x, _, rfl⟩ := List.mem_map.1 hv
  rfl

theorem splice_map (ws cs : List Int) (t : Nat) : splice (ws.map (Value.int .i64)) t (cs.map (Value.int .i64)) = (splice ws t cs).map (Value.int .i64) := by
  simp [splice, List.map_take, List.map_drop]

end Go.Proofs.Ytjhnhbeimjnloaa

/- What Copy of package arena does: a contract, over the seat's own translation; no block but the arena's turns. -/
namespace Go.Proofs.Ytjhnhbeimjnloaa
open Go.RowKit W

def endA (N y g : Nat) (a : Int) : Int := if hB 0 y a = true then (y : Int) else (N : Int) + g
end Go.Proofs.Ytjhnhbeimjnloaa

/- What Words of package arena answers: a contract, over the seat's own translation; nothing that was in memory turns. -/
namespace Go.Proofs.Ytjhnhbeimjnloaa
open Go.RowKit W

end Go.Proofs.Ytjhnhbeimjnloaa

/- What Things of package arena answers: contracts of it, of the looks that it hands over, and of what shows them each place, over the seat's own translation; nothing that was in memory turns. -/
namespace Go.Proofs.Ytjhnhbeimjnloaa
open Go.RowKit W

end Go.Proofs.Ytjhnhbeimjnloaa

/- What Things of package arena answers: its own contract, over the seat's own translation; nothing that was in memory turns. -/
namespace Go.Proofs.Ytjhnhbeimjnloaa
open Go.RowKit W


end Go.Proofs.Ytjhnhbeimjnloaa

/- The document's comparisons of two lists answer true where both hold the same numbers: contracts, over the seat's own translation; nothing that was in memory turns. -/
namespace Go.Proofs.Ytjhnhbeimjnloaa
open Go.RowKit W

end Go.Proofs.Ytjhnhbeimjnloaa

/- The statements on arenas begin by a few steps in a small arena: they answer as the statements ask, in whatever memory; nothing that was in memory turns. -/
namespace Go.Proofs.Ytjhnhbeimjnloaa
open Go.RowKit W

def B1 : List Int := fil (List.replicate 24 0) 0 33 2
def B2 : List Int := fil B1 3 194 12
theorem e16 : endA 16 16 0 0 = 16 := by decide +kernel
end Go.Proofs.Ytjhnhbeimjnloaa

/- Make and Copy of package arena in one contract each, whatever they are asked; what words are where a thing was made. -/
namespace Go.Proofs.Ytjhnhbeimjnloaa
open Go.RowKit W

end Go.Proofs.Ytjhnhbeimjnloaa

/- The statements' own sets of words that are alive, and grow: what is and keep do: contracts, over the seat's own translation. -/
namespace Go.Proofs.Ytjhnhbeimjnloaa
open Go.RowKit W Kp

theorem info64 : (Try.prog.info? 2).map (fun i => (i.zero, i.size, i.bytes)) = some (some (.int .i64 0), 1, 8) := by kernel_rfl

end Go.Proofs.Ytjhnhbeimjnloaa

/- Looks that are handed over, over whatever memory they have of their own: contracts of with, Clip, Clone, parted, told. -/
namespace Go.Proofs.Ytjhnhbeimjnloaa
open Go.RowKit W Kp Stl

theorem infoEn : (Try.prog.info? 96).map (fun i => (i.zero, i.size, i.bytes)) = some (some (.agg #[.int .i64 0, .int .i64 0]), 2, 16) := by kernel_rfl

abbrev en (e : En) : Value := .agg #[.int .i64 e.1, .int .i64 e.2]

structure Ob (τ : Type) where
  J : (Nat → Prop) → τ → World → Prop
  lt : ∀ {F t w}, J F t w → ∀ k, F k → k < w.heap.size
  keep : ∀ {F t w w'}, J F t w → w.heap.size ≤ w'.heap.size → (∀ k, F k → w'.heap[k]? = w.heap[k]?) → J F t w'

theorem Ob.fr {τ : Type} (o : Ob τ) {F X : Nat → Prop} {t : τ} {w w' : World} (h : o.J F t w) (f : Fr X w w') (hx : ∀ k, F k → ¬ X k) : o.J F t w' := o.keep h f.size (fun k hk => f.block k (o.lt h k hk) (hx k hk))
theorem Ob.below {τ : Type} (o : Ob τ) {F : Nat → Prop} {t : τ} {w w' : World} (h : o.J F t w) (f : Below w.heap.size w w') : o.J F t w' := o.keep h f.size (fun k hk => f.block k (o.lt h k hk))

def Ent (f : Nat) : Prop := ∀ (args : Array Value) (w : World), (callFunc f args).run Try.prog w = .ok (.enter f args) w
theorem ent_of {f : Nat} {fn : Func} {c : Code} (hf : Try.prog.funcs[f]? = some fn) (hname : (fn.name == "runtime.NumGoroutine") = false) (hb : fn.body = some c) : Ent f := by
  intro args w
  have h1 : fn.name ≠ "runtime.NumGoroutine" := by simpa using hname
  simp [callFunc, hf, h1, hb]

/-! ### a row of its own grows: what else stands -/
theorem grow_ob {τ : Type} (o : Ob τ) {F : Nat → Prop} {t : τ} {w w4 : World} {ob : Obj} {vb : Option Nat} (h : o.J F t w) (hg : (w.alloc ob).grownBy w4 vb) (hne : ∀ k, some k = vb → ¬ F k) : o.J F t w4 :=
  o.keep h (by have := hg.size; simp at this; omega) (fun k hk => (hg.block k (by have := o.lt h k hk; simp; omega) (fun e => hne k e hk)).trans (Below.heap_alloc _ _ _ (o.lt h k hk)))
theorem grow_row {w w4 : World} {base n m : Nat} {e : TypeId} {v : Value} {l : List Value} {ob : Obj} {vb : Option Nat} (h : w.ownsRow base e m v n l) (hg : (w.alloc ob).grownBy w4 vb) (hne : ∀ k, some k = v.ownBlock → some k ≠ vb) : w4.ownsRow base e m v n l :=
  row_keep h (fun k hk => (hg.block k (by have := (row_lt h k hk).2; simp; omega) (hne k hk)).trans (Below.heap_alloc _ _ _ (row_lt h k hk).2))
theorem row_alloc {w : World} {base n m : Nat} {e : TypeId} {v : Value} {l : List Value} (h : w.ownsRow base e m v n l) (ob : Obj) : (w.alloc ob).ownsRow base e m v n l :=
  row_keep h (fun k hk => Below.heap_alloc _ _ _ (row_lt h k hk).2)

def Looks {τ : Type} (o : Ob τ) (D : En → Prop) (G : τ → Prop) (f : Nat) (b c : Array Value) (lk : τ → En → Bool × τ) : Prop :=
  ∀ F t w (e : En), D e → G t → o.J F t w → Calls Try.prog f (b.push (en e) ++ c) w fun r w' => ∃ F', r = .returned (.bool (lk t e).1) ∧ o.J F' (lk t e).2 w' ∧ Fr F w w' ∧ ∀ k, F' k → F k ∨ w.heap.size ≤ k

def pstep {τ : Type} (lk : τ → En → Bool × τ) (s : List En × List En × τ) (e : En) : List En × List En × τ :=
  if (lk s.2.2 e).1 then (s.1 ++ [e], s.2.1, (lk s.2.2 e).2) else (s.1, s.2.1 ++ [e], (lk s.2.2 e).2)
def pts {τ : Type} (lk : τ → En → Bool × τ) (t : τ) (l : List En) : List En × List En × τ := l.foldl (pstep lk) ([], [], t)
theorem pts_snoc {τ : Type} (lk : τ → En → Bool × τ) (t : τ) (l : List En) (e : En) : pts lk t (l ++ [e]) = pstep lk (pts lk t l) e := by simp [pts, List.foldl_append]
theorem pts_len {τ : Type} (lk : τ → En → Bool × τ) (t : τ) (l : List En) : (pts lk t l).1.length + (pts lk t l).2.1.length = l.length := by
  have key : ∀ (l : List En) (s : List En × List En × τ), (l.foldl (pstep lk) s).1.length + (l.foldl (pstep lk) s).2.1.length = s.1.length + s.2.1.length + l.length := by
    intro l
    induction l with
    | nil => intro s; simp
    | cons e r ih =>
      intro s
      rw [List.foldl_cons, ih]
      unfold pstep
      split <;> simp <;> omega
  simpa [pts] using key l ([], [], t)

set_option maxRecDepth 100000 in
set_option maxHeartbeats 1000000 in
theorem parted_any {τ : Type} (o : Ob τ) (D : En → Prop) (G : τ → Prop) (f : Nat) (b c : Array Value) (lk : τ → En → Bool × τ) (hf : Ent f) (hl : Looks o D G f b c lk) (l : List En) (ad : Option Addr) (cap : Nat) (F : Nat → Prop) (t : τ) (w : World)
    (hD : ∀ e ∈ l, D e) (hG : ∀ j, j < l.length → G (pts lk t (l.take j)).2.2) (hm : l.length ≤ 100000) (hJ : o.J F t w) (hp : ∀ F' t' w', o.J F' t' w' → Fr F w w' → Lp w' ad l) :
    Calls Try.prog 97 #[.slice ad l.length cap, .func (.func f) b c] w fun r w' => ∃ a1 c1 a2 c2 F', r = .returned (.tuple #[.slice a1 (pts lk t l).1.length c1, .slice a2 (pts lk t l).2.1.length c2]) ∧ w'.ownsRow w.heap.size 96 2 (.slice a1 (pts lk t l).1.length c1) (pts lk t l).1.length (ev (pts lk t l).1) ∧
      w'.ownsRow w.heap.size 96 2 (.slice a2 (pts lk t l).2.1.length c2) (pts lk t l).2.1.length (ev (pts lk t l).2.1) ∧ o.J F' (pts lk t l).2.2 w' ∧ Fr F w w' ∧ (∀ k, F' k → F k ∨ w.heap.size ≤ k) ∧ (∀ k, some k = (Value.slice a1 (pts lk t l).1.length c1).ownBlock → ¬ F' k) ∧ (∀ k, some k = (Value.slice a2 (pts lk t l).2.1.length c2).ownBlock → ¬ F' k) := by
  obtain ⟨i0, hi, hz0, hz1, hz2⟩ := info_parts infoEn
  have HL : Hid (Looks o D G f b c lk) := hl
  have HG : Hid (∀ j, j < l.length → G (pts lk t (l.take j)).2.2) := hG
  clear hG
  clear hl
  have HP : Hid (∀ F' t' w', o.J F' t' w' → Fr F w w' → Lp w' ad l) := hp
  clear hp
  have hcf : ∀ (args : Array Value) (w : World), (callFunc f args).run Try.prog w = .ok (.enter f args) w := hf
  clear hf
  go_enter Try.func97, Try.ntmps97
  go_wp2_with fail
  go_loopw [6, 7, 12] (fun vy vn iv wr => ∃ (j : Nat) (Y N : List En) (ay an : Option Addr) (cy cn : Nat) (F1 : Nat → Prop) (t1 : τ), j ≤ l.length ∧ iv = .int .i64 j ∧ Hid (pts lk t (l.take j) = (Y, N, t1)) ∧ vy = .slice ay Y.length cy ∧ vn = .slice an N.length cn ∧
      wr.ownsRow w.heap.size 96 2 (.slice ay Y.length cy) Y.length (ev Y) ∧ wr.ownsRow w.heap.size 96 2 (.slice an N.length cn) N.length (ev N) ∧ o.J F1 t1 wr ∧ Fr F w wr ∧ Hid (∀ k, F1 k → F k ∨ w.heap.size ≤ k) ∧
      Hid (∀ k, some k = (Value.slice ay Y.length cy).ownBlock → ¬ F1 k ∧ some k ≠ (Value.slice an N.length cn).ownBlock) ∧ Hid (∀ k, some k = (Value.slice an N.length cn).ownBlock → ¬ F1 k)) (fun _ _ iv _ => l.length - (intOf iv).toNat)
  case atStart => exact ⟨0, [], [], none, none, 0, 0, F, t, Nat.zero_le _, rfl, rfl, rfl, rfl, World.ownsRow_nil _ _ _ _, World.ownsRow_nil _ _ _ _, hJ, Fr.refl _ _, fun k h => Or.inl h, fun k e => by simp [Value.ownBlock] at e, fun k e => by simp [Value.ownBlock] at e⟩
  case round =>
    obtain ⟨j, Y, N, ay, an, cy, cn, F1, t1, hj, rfl, HE, rfl, rfl, hY, hN, hJ1, hfr, HF1, HY, HN⟩ := hrel
    by_cases hlt : j < l.length
    · obtain ⟨b0, o0, e0, hb0, hc⟩ := HP.out F1 t1 wr hJ1 hfr (by omega)
      obtain ⟨x1, x2⟩ := hc j hlt
      clear hc
      have hde : D (l.getD j (0, 0)) := hD _ (by rw [List.getD_eq_getElem?_getD, List.getElem?_eq_getElem hlt]; exact List.getElem_mem hlt)
      have hgt : G t1 := by have := HG.out j hlt; rw [HE.out] at this; exact this
      have HS := pts_snoc lk t (l.take j) (l.getD j (0, 0))
      rw [← take_snoc l j hlt (0, 0), HE.out] at HS
      have HS : Hid (pts lk t (l.take (j + 1)) = pstep lk (Y, N, t1) ((l.getD j (0, 0)).1, (l.getD j (0, 0)).2)) := HS
      have hde : D ((l.getD j (0, 0)).1, (l.getD j (0, 0)).2) := hde
      generalize (l.getD j (0, 0)).1 = g at x1 HS hde
      generalize (l.getD j (0, 0)).2 = z at x2 HS hde
      subst e0
      have hYl : Y.length + N.length ≤ 100000 := by
        have h1 := pts_len lk t (l.take j)
        rw [HE.out] at h1
        simp at h1
        omega
      have hsz := hfr.size
      have hlF := o.lt hJ1
      go_wp2_with fail
      refine (HL.out F1 t1 _ (g, z) hde hgt (o.below hJ1 ((Below.refl _ _).alloc (Nat.le_refl _) _))).mono ?_
      rintro e w2 ⟨F2, rfl, hJ2, hfr2, hF2⟩
      have hs2 := hfr2.size
      simp at hs2
      have hw0 : ¬ F1 wr.heap.size := fun h => by have := hlF _ h; omega
      have hblk : w2.heap[wr.heap.size]? = some (.cells #[.int .i64 g, .int .i64 z] 96 (0, 0)) := (hfr2.block _ (by simp) hw0).trans (heap_alloc_new _ _)
      have x3 : w2.cell? ⟨wr.heap.size, 0, none⟩ = some (.int .i64 g) := by simp [World.cell?, hblk]
      have x4 : w2.cell? ⟨wr.heap.size, 1, none⟩ = some (.int .i64 z) := by simp [World.cell?, hblk]
      have hlt2 : wr.heap.size < w2.heap.size := by omega
      clear hblk
      have hY2 := row_fr (row_alloc hY (.cells #[.int .i64 g, .int .i64 z] 96)) hfr2 (fun k e => (HY.out k e).1)
      have hN2 := row_fr (row_alloc hN (.cells #[.int .i64 g, .int .i64 z] 96)) hfr2 (fun k e => HN.out k e)
      have hfr3 : Fr F w w2 := (hfr.alloc (.cells #[.int .i64 g, .int .i64 z] 96)).trans hfr2 HF1.out
      have HF2 : Hid (∀ k, F2 k → F k ∨ w.heap.size ≤ k) := fun k hk => (hF2 k hk).elim (fun h => HF1.out k h) (fun h => Or.inr (by simp at h; omega))
      have HY2 : Hid (∀ k, some k = (Value.slice ay Y.length cy).ownBlock → ¬ F2 k ∧ some k ≠ (Value.slice an N.length cn).ownBlock) := fun k e => ⟨fun h => (hF2 k h).elim (HY.out k e).1 (fun h => by have := (row_lt hY k e).2; simp at h; omega), (HY.out k e).2⟩
      have HN2 : Hid (∀ k, some k = (Value.slice an N.length cn).ownBlock → ¬ F2 k) := fun k e h => (hF2 k h).elim (HN.out k e) (fun h => by have := (row_lt hN k e).2; simp at h; omega)
      have hlF2 := o.lt hJ2
      clear hY hN hfr hfr2 HF1 HY HN hJ1 hF2 hlF hw0
      have hd : Hid (pts lk t (l.take (j + 1)) = if (lk t1 (g, z)).1 then (Y ++ [(g, z)], N, (lk t1 (g, z)).2) else (Y, N ++ [(g, z)], (lk t1 (g, z)).2)) := HS.out
      clear HS
      generalize (lk t1 (g, z)).2 = t2 at hJ2 hd
      cases hb : (lk t1 (g, z)).1
      · rw [hb] at hd
        have hd : Hid (pts lk t (l.take (j + 1)) = (Y, N ++ [(g, z)], t2)) := hd
        clear hb
        go_wp2_with (at_builtin; refine wpList_append_own_at _ rfl _ _ 61 rfl w.heap.size 96 i0 (.agg #[.int .i64 0, .int .i64 0]) 2 16 Try.underlying61 hi hz0 hz1 hz2 rfl (by decide) (.slice an N.length cn) N.length (ev N) rfl (row_alloc hN2 _) ⟨w2.heap.size, 0, none⟩ 1 1 [.int .i64 g, .int .i64 z] rfl rfl ?_ ?_ ?_ ?_ ?_ ?_; (intro j u hj; match j, hj with | 0, hj => (simp at hj; subst hj; simp [Addr.add]) | 1, hj => (simp at hj; subst hj; simp [Addr.add])); (intro u hu; simp at hu; rcases hu with hu | hu <;> (subst hu; rfl)); (unfold maxLen; omega); omega; (simp; omega); intro v' w4 hown4 hgrow4 _ hloc4; obtain ⟨b4, cap4, ev4⟩ := row_shape hown4 (Nat.succ_pos _); subst ev4)
        have hN4 : w4.ownsRow w.heap.size 96 2 (.slice (some ⟨b4, 0, none⟩) (N ++ [(g, z)]).length cap4) (N ++ [(g, z)]).length (ev (N ++ [(g, z)])) := by
          rw [ev_append]
          simpa [ev] using hown4
        have hJ4 := grow_ob o hJ2 hgrow4 (fun k e => HN2.out k e)
        have hY4 := grow_row hY2 hgrow4 (fun k e => (HY2.out k e).2)
        have hfr4 := (hfr3.alloc (.cells #[.int .i64 g, .int .i64 z] 96)).grown hgrow4 (fun k e => Or.inr (row_lt hN2 k e.symm).1)
        have hbl4 : some b4 = (Value.slice an N.length cn).ownBlock ∨ b4 = w2.heap.size + 1 := hloc4.imp id (fun e => by simpa [Value.ownBlock] using e)
        have HY4 : Hid (∀ k, some k = (Value.slice ay Y.length cy).ownBlock → ¬ F2 k ∧ some k ≠ some b4) := fun k e => ⟨(HY2.out k e).1, fun e' => hbl4.elim (fun h => (HY2.out k e).2 (e'.trans h)) (fun h => by have := (row_lt hY2 k e).2; simp at e'; omega)⟩
        have HN4 : Hid (∀ k, some k = some b4 → ¬ F2 k) := fun k e h => hbl4.elim (fun h' => HN2.out k (e.trans h') h) (fun h' => by have := hlF2 k h; simp at e; omega)
        clear hown4 hgrow4 hloc4 hbl4 hY2 hN2 hfr3 HY2 HN2 hJ2 x1 x2 x3 x4
        go_wp2_with fail
        go_roundw
        case rel => exact ⟨j + 1, Y, N ++ [(g, z)], ay, some ⟨b4, 0, none⟩, cy, cap4, F2, t2, by omega, by go_num, hd, rfl, by simp, hY4, hN4, hJ4, hfr4, HF2, HY4, HN4⟩
        case measure => simp [intOf]; omega
      · rw [hb] at hd
        have hd : Hid (pts lk t (l.take (j + 1)) = (Y ++ [(g, z)], N, t2)) := hd
        clear hb
        go_wp2_with (at_builtin; refine wpList_append_own_at _ rfl _ _ 61 rfl w.heap.size 96 i0 (.agg #[.int .i64 0, .int .i64 0]) 2 16 Try.underlying61 hi hz0 hz1 hz2 rfl (by decide) (.slice ay Y.length cy) Y.length (ev Y) rfl (row_alloc hY2 _) ⟨w2.heap.size, 0, none⟩ 1 1 [.int .i64 g, .int .i64 z] rfl rfl ?_ ?_ ?_ ?_ ?_ ?_; (intro j u hj; match j, hj with | 0, hj => (simp at hj; subst hj; simp [Addr.add]) | 1, hj => (simp at hj; subst hj; simp [Addr.add])); (intro u hu; simp at hu; rcases hu with hu | hu <;> (subst hu; rfl)); (unfold maxLen; omega); omega; (simp; omega); intro v' w4 hown4 hgrow4 _ hloc4; obtain ⟨b4, cap4, ev4⟩ := row_shape hown4 (Nat.succ_pos _); subst ev4)
        have hY4 : w4.ownsRow w.heap.size 96 2 (.slice (some ⟨b4, 0, none⟩) (Y ++ [(g, z)]).length cap4) (Y ++ [(g, z)]).length (ev (Y ++ [(g, z)])) := by
          rw [ev_append]
          simpa [ev] using hown4
        have hJ4 := grow_ob o hJ2 hgrow4 (fun k e => (HY2.out k e).1)
        have hN4 := grow_row hN2 hgrow4 (fun k e e' => (HY2.out k e').2 e)
        have hfr4 := (hfr3.alloc (.cells #[.int .i64 g, .int .i64 z] 96)).grown hgrow4 (fun k e => Or.inr (row_lt hY2 k e.symm).1)
        have hbl4 : some b4 = (Value.slice ay Y.length cy).ownBlock ∨ b4 = w2.heap.size + 1 := hloc4.imp id (fun e => by simpa [Value.ownBlock] using e)
        have HY4 : Hid (∀ k, some k = some b4 → ¬ F2 k ∧ some k ≠ (Value.slice an N.length cn).ownBlock) := fun k e => ⟨fun h => hbl4.elim (fun h' => (HY2.out k (e.trans h')).1 h) (fun h' => by have := hlF2 k h; simp at e; omega), fun e' => hbl4.elim (fun h => (HY2.out k (e.trans h)).2 e') (fun h => by have := (row_lt hN2 k e').2; simp at e; omega)⟩
        clear hown4 hgrow4 hloc4 hbl4 hY2 hN2 hfr3 HY2 hJ2 x1 x2 x3 x4
        go_wp2_with fail
        go_roundw
        case rel => exact ⟨j + 1, Y ++ [(g, z)], N, some ⟨b4, 0, none⟩, an, cap4, cn, F2, t2, by omega, by go_num, hd, by simp, rfl, hY4, hN4, hJ4, hfr4, HF2, HY4, HN2⟩
        case measure => simp [intOf]; omega
    · obtain rfl : j = l.length := by omega
      rw [List.take_length] at HE
      go_wp2_with fail
      go_ret2
      rw [HE.out]
      exact ⟨_, _, _, _, F1, rfl, hY, hN, hJ1, hfr, HF1.out, fun k e => (HY.out k e).1, HN.out⟩

theorem Lp.apart {τ : Type} {o : Ob τ} {F : Nat → Prop} {w : World} {ad : Option Addr} {l : List En} (h : Lp w ad l) (hF : 0 < l.length → ∀ z, ad = some z → ¬ F z.block) : ∀ F' t' w', o.J F' t' w' → Fr F w w' → Lp w' ad l := fun _ _ _ _ hfr =>
  h.keep hfr.size (fun hp z e => by
    obtain ⟨b0, o0, e0, hb0, _⟩ := h hp
    rw [e] at e0
    cases e0
    exact hfr.block _ hb0 (hF hp _ e))

def allOb (w0 : World) : Ob Unit where
  J F _ w := (∀ k, F k ↔ k < w0.heap.size) ∧ w0.heap.size ≤ w.heap.size ∧ ∀ k, k < w0.heap.size → w.heap[k]? = w0.heap[k]?
  lt := by
    rintro F t w ⟨h1, h2, h3⟩ k hk
    have := (h1 k).1 hk
    omega
  keep := by
    rintro F t w w' ⟨h1, h2, h3⟩ hs hk
    exact ⟨h1, by omega, fun k h => (hk k ((h1 k).2 h)).trans (h3 k h)⟩

theorem pts_pure {σ : Type} (p : σ → En → Bool) (s : σ) (l : List En) : pts (fun s e => (p s e, s)) s l = (l.filter (p s), l.filter (fun e => !p s e), s) := by
  have key : ∀ (l Y N : List En), l.foldl (pstep (fun s e => (p s e, s))) (Y, N, s) = (Y ++ l.filter (p s), N ++ l.filter (fun e => !p s e), s) := by
    intro l
    induction l with
    | nil => intro Y N; simp
    | cons e r ih =>
      intro Y N
      rw [List.foldl_cons]
      cases h : p s e
      · simp [pstep, h, ih]
      · simp [pstep, h, ih]
  simpa [pts] using key l [] []

theorem parted_pure (D : En → Prop) (f : Nat) (b c : Array Value) (p : En → Bool) (hf : Ent f) (w : World)
    (hl : ∀ (w' : World) (e : En), D e → w.heap.size ≤ w'.heap.size → (∀ k, k < w.heap.size → w'.heap[k]? = w.heap[k]?) → Calls Try.prog f (b.push (en e) ++ c) w' fun r w'' => r = .returned (.bool (p e)) ∧ Below w'.heap.size w' w'')
    (l : List En) (ad : Option Addr) (cap : Nat) (hD : ∀ e ∈ l, D e) (hm : l.length ≤ 100000) (hp : Lp w ad l) :
    Calls Try.prog 97 #[.slice ad l.length cap, .func (.func f) b c] w fun r w' => ∃ a1 c1 a2 c2, r = .returned (.tuple #[.slice a1 (l.filter p).length c1, .slice a2 (l.filter (fun e => !p e)).length c2]) ∧ w'.ownsRow w.heap.size 96 2 (.slice a1 (l.filter p).length c1) (l.filter p).length (ev (l.filter p)) ∧
      w'.ownsRow w.heap.size 96 2 (.slice a2 (l.filter (fun e => !p e)).length c2) (l.filter (fun e => !p e)).length (ev (l.filter (fun e => !p e))) ∧ Below w.heap.size w w' := by
  have P := parted_any (allOb w) D (fun _ => True) f b c (fun _ e => (p e, ())) hf (by
      rintro F t w1 e hD _ ⟨j1, j2, j3⟩
      refine (hl w1 e hD j2 j3).mono ?_
      rintro r w2 ⟨rfl, hb⟩
      exact ⟨F, rfl, (allOb w).below ⟨j1, j2, j3⟩ hb, Fr.of hb, fun k h => Or.inl h⟩) l ad cap (fun k => k < w.heap.size) () w hD (fun _ _ => trivial) hm ⟨fun k => Iff.rfl, Nat.le_refl _, fun _ _ => rfl⟩
    (by
      rintro F' t' w' ⟨j1, j2, j3⟩ _
      refine hp.keep j2 (fun hq z e => ?_)
      obtain ⟨b0, o0, e0, hb0, _⟩ := hp hq
      rw [e] at e0
      cases e0
      exact j3 _ hb0)
  rw [pts_pure (fun _ e => p e) () l] at P
  refine P.mono ?_
  rintro r w' ⟨a1, c1, a2, c2, F', rfl, hY, hN, ⟨j1, j2, j3⟩, hfr, _, _, _⟩
  exact ⟨a1, c1, a2, c2, rfl, hY, hN, hfr.os, hfr.tape, hfr.output, hfr.size, j3⟩

end Go.Proofs.Ytjhnhbeimjnloaa

/- Lists of entries: Clip, with, Clone: contracts. -/
namespace Go.Proofs.Ytjhnhbeimjnloaa
open Go.RowKit W Kp Stl

set_option maxRecDepth 100000 in
set_option maxHeartbeats 400000 in
theorem clip_any (w : World) (ad : Option Addr) (n cap : Nat) (h1 : n ≤ cap) :
    Calls Try.prog 76 #[.slice ad n cap] w fun e w' => e = .returned (.slice ad n n) ∧ w' = w := by
  go_enter Try.func76, Try.ntmps76
  go_wp2_with fail
  go_ret
  exact ⟨rfl, rfl⟩

structure Li (w : World) (ad : Option Addr) (l : List En) (cap : Nat) : Prop where
  lp : Lp w ad l
  le : l.length ≤ cap
  nil : ad = none → l.length = 0 ∧ cap = 0

theorem Lp.cells {w : World} {ad : Option Addr} {q : List En} (h : Lp w ad q) : ∀ b, ad = some b → ∀ j u, (ev q)[j]? = some u → w.cell? (b.add j) = some u := by
  intro b e j u hj
  have hl := ev_length q
  have hjl : j < (ev q).length := (List.getElem?_eq_some_iff.1 hj).1
  obtain ⟨g, o, e2, hb, hc⟩ := h (by omega)
  rw [e] at e2
  cases e2
  obtain ⟨c1, c2⟩ := hc (j / 2) (by omega)
  obtain ⟨k1, k2⟩ := ev_get q (j / 2) (by omega)
  rcases Nat.mod_two_eq_zero_or_one j with hz | hz
  · have e3 : j / 2 * 2 = j := by omega
    rw [e3] at k1 c1
    rw [hj] at k1
    cases k1
    rw [Addr.add_lit]
    exact c1
  · have e3 : j / 2 * 2 + 1 = j := by omega
    have e4 : o + j / 2 * 2 + 1 = o + j := by omega
    rw [e3] at k2
    rw [e4] at c2
    rw [hj] at k2
    cases k2
    rw [Addr.add_lit]
    exact c2
theorem Lp.below {w w' : World} {ad : Option Addr} {l : List (Int × Int)} (h : Lp w ad l) (hb : Below w.heap.size w w') : Lp w' ad l :=
  h.keep hb.size (fun hp z e => by
    obtain ⟨b, o, e2, hlt, _⟩ := h hp
    rw [e] at e2
    cases e2
    exact hb.block _ hlt)

set_option maxRecDepth 100000 in
set_option maxHeartbeats 400000 in
theorem with_any (w : World) (ad : Option Addr) (q : List En) (cap : Nat) (g z : Int) (h : Li w ad q cap) (hm : q.length ≤ 100000) :
    Calls Try.prog 61 #[.slice ad q.length cap, .agg #[.int .i64 g, .int .i64 z]] w fun e w' => ∃ b1 cap1, e = .returned (.slice (some ⟨b1, 0, none⟩) (q.length + 1) cap1) ∧ w'.ownsRow w.heap.size 96 2 (.slice (some ⟨b1, 0, none⟩) (q.length + 1) cap1) (q.length + 1) (ev (q ++ [(g, z)])) ∧ Below w.heap.size w w' := by
  obtain ⟨i0, hi, hz0, hz1, hz2⟩ := info_parts infoEn
  have HL : Hid (Lp w ad q) := h.lp
  have HN : Hid (ad = none → q.length = 0 ∧ q.length = 0) := fun e => ⟨(h.nil e).1, (h.nil e).1⟩
  have hle := h.le
  clear h
  go_enter Try.func61, Try.ntmps61
  go_wp2_with fail
  go_region_held3 (fun w' => w'.cell? ⟨w.heap.size, 0, none⟩ = some (.int .i64 g) ∧ w'.cell? ⟨w.heap.size, 1, none⟩ = some (.int .i64 z)) (go_keep)
    (first | (go_at_call 76; refine (clip_any _ ad q.length cap hle).mono ?_; rintro e w3 ⟨rfl, rfl⟩) | (refine step_append_grows rfl (.tmp 6) (.tmp 8) 61 rfl 96 i0 (.agg #[.int .i64 0, .int .i64 0]) 2 16 Try.underlying61 hi hz0 hz1 hz2 rfl (by decide) ad q.length q.length (ev q) (by simp [Act.eval]) HN.out (ev_length q) (HL.out.below (by first | exact (((Below.refl _ w).alloc (Nat.le_refl _) _).alloc (by simp) _).drew | exact ((Below.refl _ w).alloc (Nat.le_refl _) _).drew.alloc (by simp) _)).cells ⟨w.heap.size + 1, 0, none⟩ 1 1 [.int .i64 g, .int .i64 z] (by simp [Act.eval]) rfl ?_ ?_ (by omega) (by unfold maxLen; omega) (by omega) ?_; (intro j u hj; match j, hj with | 0, hj => (simp at hj; subst hj; simp [Addr.add]) | 1, hj => (simp at hj; subst hj; simp [Addr.add])); (intro u hu; simp at hu; rcases hu with hu | hu <;> (subst hu; rfl)); intro v' w4 hown4 hgrow4; obtain ⟨b4, cap4, ev4⟩ := row_shape hown4 (Nat.succ_pos _); subst ev4; have y1 := hgrow4.cell (a := ⟨w.heap.size, 0, none⟩) (v := .int .i64 g) (by simp) (by simp); have y2 := hgrow4.cell (a := ⟨w.heap.size, 1, none⟩) (v := .int .i64 z) (by simp) (by simp)))
  all_goals
    go_wp2_with fail
    go_ret
    exact ⟨b4, cap4, rfl, by rw [ev_append]; exact row_base hown4 (fun k e => by have := (row_lt hown4 k e).1; simp at this; omega), by first | exact ((((Below.refl _ w).alloc (Nat.le_refl _) _).alloc (by simp) _).drew).grown hgrow4 (by simp; omega) (fun k e => by cases e) | exact (((Below.refl _ w).alloc (Nat.le_refl _) _).drew.alloc (by simp) _).grown hgrow4 (by simp; omega) (fun k e => by cases e)⟩

theorem ev_one (l : List En) : ∀ u ∈ ev l, u.oneCell' = true := by
  intro u hu
  simp only [ev, List.mem_flatMap] at hu
  obtain ⟨e, _, hu⟩ := hu
  simp at hu
  rcases hu with rfl | rfl <;> rfl

theorem owns_emptyE (w : World) : (w.alloc (.cells #[] 96)).ownsRow w.heap.size 96 2 (.slice (some ⟨w.heap.size, 0, none⟩) 0 0) 0 [] :=
  ⟨rfl, Or.inr ⟨w.heap.size, 0, #[], rfl, Nat.le_refl _, heap_alloc_new _ _, Nat.le_refl _, Nat.zero_le _, rfl, rfl⟩⟩

set_option maxRecDepth 100000 in
set_option maxHeartbeats 400000 in
theorem cloneE_any (w : World) (ad : Option Addr) (l : List En) (cap : Nat) (h : Li w ad l cap) (hm : l.length ≤ 100000) :
    Calls Try.prog 92 #[.slice ad l.length cap] w fun e w' => ∃ a1 c1, e = .returned (.slice a1 l.length c1) ∧ w'.ownsRow w.heap.size 96 2 (.slice a1 l.length c1) l.length (ev l) ∧ Below w.heap.size w w' := by
  obtain ⟨i0, hi, hz0, hz1, hz2⟩ := info_parts infoEn
  have qn : ∀ (w : World) (a : Option Addr) (n c : Nat), (binOp .eql 61 (.slice a n c) (.slice none 0 0)).run Try.prog w = .ok (.bool a.isNone) w := fun w a n c => Lib.run_eql_slice_nil w _ _ a n c 0 0 Try.underlying61
  have HL : Hid (Lp w ad l) := h.lp
  cases ad with
  | none =>
    have hl : l = [] := List.eq_nil_of_length_eq_zero (h.nil rfl).1
    subst hl
    clear h HL
    go_enter Try.func92, Try.ntmps92
    go_wp2_with fail
    go_ret
    exact ⟨none, 0, rfl, World.ownsRow_nil _ _ _ _, Below.refl _ _⟩
  | some a =>
    clear h
    go_enter Try.func92, Try.ntmps92
    go_wp2_with (at_builtin; refine wpList_append_own _ rfl _ _ 61 rfl w.heap.size 96 i0 (.agg #[.int .i64 0, .int .i64 0]) 2 16 Try.underlying61 hi hz0 hz1 hz2 rfl (by decide) _ 0 [] rfl (owns_emptyE w) a l.length cap (ev l) rfl (ev_length l) ((HL.out.below ((Below.refl _ _).alloc (Nat.le_refl _) _)).cells a rfl) (ev_one l) ?_ ?_ ?_ ?_; (unfold maxLen; omega); omega; (simp); intro v w1 hown hgrow _)
    rw [List.nil_append, Nat.zero_add] at hown
    obtain ⟨a1, c1, rfl⟩ := row_slice hown
    go_wp2_with fail
    go_ret
    exact ⟨a1, c1, rfl, hown, ((Below.refl _ _).alloc (Nat.le_refl _) _).grown hgrow (by simp) (fun k e => by cases e; exact Nat.le_refl _)⟩

end Go.Proofs.Ytjhnhbeimjnloaa

/- Lists of entries, of words, of pairs of words that came in, opened: what a walk is told of them. -/
namespace Go.Proofs.Ytjhnhbeimjnloaa
open Go.ChangeShapes Go.WideShapes Go.ChangeAt Go.RowKit Go.Joins Go.Deep W Stl

end Go.Proofs.Ytjhnhbeimjnloaa

/- append of a list that came in, nil or not, onto a row of its own: laws for the walk. -/
namespace Go.Proofs.Ytjhnhbeimjnloaa
open Go.RowKit W Kp Stl

section
variable {P : Program} (w : World)

end

end Go.Proofs.Ytjhnhbeimjnloaa

/- A wood: where a word leads; Kind: contracts. -/
namespace Go.Proofs.Ytjhnhbeimjnloaa
open Go.RowKit W

end Go.Proofs.Ytjhnhbeimjnloaa

/- A wood: Kind, standing, fieldAt, Get: contracts. -/
namespace Go.Proofs.Ytjhnhbeimjnloaa
open Go.RowKit W

section
variable {pw p q N O y g : Nat} {ws : List Int}

end

end Go.Proofs.Ytjhnhbeimjnloaa

/- A wood: fieldAt, Get: contracts. -/
namespace Go.Proofs.Ytjhnhbeimjnloaa
open Go.RowKit W

section
variable {pw p q N O y g : Nat} {ws : List Int}

end

end Go.Proofs.Ytjhnhbeimjnloaa

/- Things one behind the other: lists alone. -/
namespace Go.Proofs.Ytjhnhbeimjnloaa
open Go.RowKit W

section
variable {L L' : Int → Int} {hi : Int}

end

end Go.Proofs.Ytjhnhbeimjnloaa

/- Cards in memory: a struct of its own block, the numbers of those that are marked a map in another; lemmas on both. -/
namespace Go.Proofs.Ytjhnhbeimjnloaa
open Go.RowKit W

structure Cd (w : World) (p q : Nat) (B c : Int) (M : List Int) : Prop where
  hp : w.heap[p]? = some (.cells #[.int .i64 B, .int .u64 c, .map (some q)] 141 (0, 0))
  hq : ∃ D : DataW Unit, w.ownsMap Try.prog 117 unitElem q M.length D ∧ (∀ k : Int, Maps.has D (.int .u64 k) = M.contains k) ∧ Maps.size D = M.length

theorem own_same {H : Type} {P : Program} {k : TypeId} {R : Value → Option (DataW H × List MemPlace)} {w w' : World} {b n : Nat} {D : DataW H} (h : w.ownsMap P k R b n D) (e : w'.heap[b]? = w.heap[b]?) : w'.ownsMap P k R b n D := by
  obtain ⟨es, clock, hb, r⟩ := h
  exact ⟨es, clock, e.trans hb, r⟩
theorem Cd.ltp {w : World} {p q : Nat} {B c : Int} {M : List Int} (h : Cd w p q B c M) : p < w.heap.size := lt_of_some h.hp
theorem Cd.ltq {w : World} {p q : Nat} {B c : Int} {M : List Int} (h : Cd w p q B c M) : q < w.heap.size := by
  obtain ⟨D, h1, _⟩ := h.hq
  exact h1.lt
theorem Cd.same {w w' : World} {p q : Nat} {B c : Int} {M : List Int} (h : Cd w p q B c M) (ep : w'.heap[p]? = w.heap[p]?) (eq : w'.heap[q]? = w.heap[q]?) : Cd w' p q B c M := by
  obtain ⟨D, h1, h2⟩ := h.hq
  exact ⟨ep.trans h.hp, D, own_same h1 eq, h2⟩
theorem Cd.below {w w' : World} {p q X : Nat} {B c : Int} {M : List Int} (h : Cd w p q B c M) (hb : Below X w w') (hX : w.heap.size ≤ X) : Cd w' p q B c M :=
  h.same (hb.block p (Nat.lt_of_lt_of_le h.ltp hX)) (hb.block q (Nat.lt_of_lt_of_le h.ltq hX))
theorem Cd.none {w : World} {p q : Nat} {B c : Int} (h : w.heap[p]? = some (.cells #[.int .i64 B, .int .u64 c, .map (some q)] 141 (0, 0))) (h1 : w.ownsMap Try.prog 117 unitElem q 0 (.map [] : DataW Unit)) : Cd w p q B c [] :=
  ⟨h, _, h1, fun _ => rfl, rfl⟩

end Go.Proofs.Ytjhnhbeimjnloaa
