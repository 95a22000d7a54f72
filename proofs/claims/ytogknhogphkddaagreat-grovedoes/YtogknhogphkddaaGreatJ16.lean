/- Joined: Gm, Sd7, Sd8, Sd9, Sda, Vp2. -/
import Derived.Test.YtogknhogphkddaaGreatJ01
import Derived.Maps.RangeWalk
import Derived.Maps.OwnSet
import Derived.Test.YtogknhogphkddaaGreatJ06
import Derived.Lib.AppendZeros
import Derived.Test.YtogknhogphkddaaGreatJ07
import Derived.Laws.EntriesVeiled
import Derived.Test.YtogknhogphkddaaGreatJ00
/- A map of numbers, whatever it holds; a range over it. -/
namespace Go.Proofs.YtogknhogphkddaaGreat
open Go.RowKit W Kp Stl

def hld (v : Value) : Option (DataW Value × List MemPlace) := some (.held v, [])
theorem lawL : Maps.Keyed Tryz.prog 2 := Maps.int_keyed Tryz.underlying2
theorem keyL {a : Int} (h0 : 0 ≤ a) (h1 : a < 1152921504606846976) : keyOf Tryz.prog 2 (.int .i64 a) = some (.int .i64 a) := Maps.keyOf_int_mk Tryz.underlying2 (WalkArith.wf_i64 ⟨by omega, by omega⟩)
def Dm (D : DataW Value) (f : Int → Option Value) : Prop := ∀ x : Int, Maps.has D (.int .i64 x) = (f x).isSome ∧ ∀ v, f x = some v → ∀ z, D.atKey (.int .i64 x) z = .held v
def Mh (w : World) (b n : Nat) (f : Int → Option Value) : Prop := ∃ D, w.ownsMap Tryz.prog 2 hld b n D ∧ Dm D f
def upm (f : Int → Option Value) (x : Int) (v : Value) : Int → Option Value := fun y => if y = x then some v else f y
def Rgm (w : World) (b r n : Nat) (f : Int → Option Value) (left : Int → Bool) (c : Nat) : Prop := ∃ D L, w.ranges Tryz.prog 2 hld b r n D L c ∧ Dm D f ∧ ∀ x : Int, L (.int .i64 x) = left x

section
variable {w w' : World} {b r n c : Nat} {f : Int → Option Value} {t e : TypeId} {left : Int → Bool}

theorem Mh.made (w : World) : Mh (w.alloc (.map #[] 0)) w.heap.size 0 (fun _ => none) := ⟨_, World.ownsMap_made w Tryz.prog 2 hld, fun _ => ⟨rfl, fun _ h => by cases h⟩⟩
theorem Mh.lt (h : Mh w b n f) : b < w.heap.size := let ⟨_, h, _⟩ := h; h.lt
theorem Mh.same (h : Mh w b n f) (e : w'.heap[b]? = w.heap[b]?) : Mh w' b n f := by
  obtain ⟨D, ⟨es, clock, hb, r⟩, hD⟩ := h
  exact ⟨D, ⟨es, clock, e.trans hb, r⟩, hD⟩
theorem Mh.blk (h : Mh w b n f) : ∃ es k, w.heap[b]? = some (.map es k) := let ⟨_, ⟨es, k, hb, _⟩, _⟩ := h; ⟨es, k, hb⟩
theorem Mh.put (h : Mh w b n f) (ht : Tryz.prog.underlying t = some (.map 2 e)) (hn : n < 100000) {x : Int} (h0 : 0 ≤ x) (h1 : x < 1152921504606846976) (v : Value) :
    ∃ w', (Instr.mapUpdate t (.map (some b)) (.int .i64 x) v).run Tryz.prog w = .ok () w' ∧ Mh w' b (n + 1) (upm f x v) ∧ w.grownBy w' (some b) := by
  obtain ⟨D, h, hD⟩ := h
  obtain ⟨w', r1, r2, r3⟩ := h.update (d := .held v) (ps := []) lawL ht (by unfold maxLen; omega) (keyL h0 h1) (val := v) rfl
  refine ⟨w', r1, ⟨_, r2, fun y => ?_⟩, r3⟩
  unfold upm
  by_cases ey : y = x
  · subst ey
    rw [if_pos rfl]
    exact ⟨Maps.has_put_same (k := .int .i64 y) h.isMap trivial _, fun u hu z => by cases hu; exact Maps.atKey_put_same (k := .int .i64 y) h.isMap trivial _ _⟩
  · rw [if_neg ey, Maps.has_put_other (by simpa using ey)]
    exact ⟨(hD y).1, fun u hu z => by rw [Maps.atKey_put_other (by simpa using ey)]; exact (hD y).2 u hu z⟩
theorem Dm.val {D : DataW Value} (hD : Dm D f) {x : Int} {z v : Value} {ps : List MemPlace} (h : hld v = some (D.atKey (.int .i64 x) (.held z), ps)) : v = (f x).getD z := by
  have h2 : (DataW.held v : DataW Value) = D.atKey (.int .i64 x) (.held z) := (Prod.mk.inj (Option.some.inj h)).1
  cases hf : f x with
  | none =>
    rw [Maps.atKey_of_not_has (by rw [(hD x).1, hf]; rfl)] at h2
    exact DataW.held.inj h2
  | some u =>
    rw [(hD x).2 u hf] at h2
    exact DataW.held.inj h2
theorem Mh.look (h : Mh w b n f) (ht : Tryz.prog.underlying t = some (.map 2 e)) {z : Value} (hz : (zeroValue e).run Tryz.prog w = .ok z w) {x : Int} (h0 : 0 ≤ x) (h1 : x < 1152921504606846976) :
    (Instr.lookup t (.map (some b)) (.int .i64 x) false).run Tryz.prog w = .ok ((f x).getD z) w := by
  obtain ⟨D, h, hD⟩ := h
  obtain ⟨v, ps, r1, r2⟩ := h.lookup (zd := .held z) (zp := []) lawL ht hz rfl (keyL h0 h1)
  rw [r1, hD.val r2]
theorem Mh.look_ok (h : Mh w b n f) (ht : Tryz.prog.underlying t = some (.map 2 e)) {z : Value} (hz : (zeroValue e).run Tryz.prog w = .ok z w) {x : Int} (h0 : 0 ≤ x) (h1 : x < 1152921504606846976) :
    (Instr.lookup t (.map (some b)) (.int .i64 x) true).run Tryz.prog w = .ok (.tuple #[(f x).getD z, .bool (f x).isSome]) w := by
  obtain ⟨D, h, hD⟩ := h
  obtain ⟨v, ps, r1, r2⟩ := h.look_ok (zd := .held z) (zp := []) lawL ht hz rfl (keyL h0 h1)
  rw [r1, hD.val r2, (hD x).1]
theorem Rgm.mh (h : Rgm w b r n f left c) : Mh w b n f := let ⟨D, _, h, d, _⟩ := h; ⟨D, h.owns, d⟩
theorem Rgm.left_eq (h : Rgm w b r n f left c) : w.rangeLeft b r = c := let ⟨_, _, h, _⟩ := h; h.left_eq
theorem Rgm.lt (h : Rgm w b r n f left c) : r < w.heap.size := let ⟨_, _, h, _⟩ := h; h.lt
theorem Rgm.same (h : Rgm w b r n f left c) (hb : w'.heap[b]? = w.heap[b]?) (hr : w'.heap[r]? = w.heap[r]?) : Rgm w' b r n f left c := by
  obtain ⟨D, L, ⟨es, clock, since, seen, c0, h1, h2, h3, h4, h5, h6⟩, q⟩ := h
  exact ⟨D, L, ⟨es, clock, since, seen, c0, hb.trans h1, h2, h3, h4, hr.trans h5, h6⟩, q⟩
theorem Mh.range (h : Mh w b n f) (ht : Tryz.prog.underlying t = some (.map 2 e)) :
    ∃ w' c, (Instr.range t (.map (some b))).run Tryz.prog w = .ok (.pointer (some ⟨w.heap.size, 0, none⟩)) w' ∧ Rgm w' b w.heap.size n f (fun x => (f x).isSome) c ∧ w.grownBy w' none ∧ w'.heap.size = w.heap.size + 1 := by
  obtain ⟨D, h, hD⟩ := h
  obtain ⟨w', r1, r2, r3, r4⟩ := h.range lawL ht
  exact ⟨w', _, r1, ⟨D, _, r2, hD, fun x => (hD x).1⟩, r3, r4⟩
theorem Rgm.next (h : Rgm w b r n f left c) (ty : TypeId) : (c = 0 ∧ (∀ x, left x = false) ∧ (Instr.next (.pointer (some ⟨r, 0, none⟩)) false ty).run Tryz.prog w = .ok (.tuple #[.bool false]) w) ∨
    ∃ x v w' c', left x = true ∧ f x = some v ∧ (Instr.next (.pointer (some ⟨r, 0, none⟩)) false ty).run Tryz.prog w = .ok (.tuple #[.bool true, .int .i64 x, v]) w' ∧
      Rgm w' b r n f (fun y => left y && !(y == x)) c' ∧ c' < c ∧ w.grownBy w' (some r) ∧ w'.heap.size = w.heap.size ∧ (Instr.entry (.pointer (some ⟨r, 0, none⟩))).run Tryz.prog w' = .ok (.tuple #[.int .i64 x, v]) w' := by
  obtain ⟨D, L, h, hD, hL⟩ := h
  rcases h.next lawL ty with ⟨h0, hl, hrun⟩ | ⟨key, v, kl, y, w', c', hkey, hlk, hv, hat, hrun, hrg, hlt, hgr, hsz, hen⟩
  · exact Or.inl ⟨h0, fun x => (hL x).symm.trans (hl _), hrun⟩
  · obtain ⟨x, rfl, rfl, hwx⟩ := Maps.keyOf_int_inv Tryz.underlying2 hkey
    have hy : y.1 = .held v := by cases hv; rfl
    have hx : f x = some v := by
      cases hf : f x with
      | none =>
        have h1 := hat (.lit (.int .i64 0))
        rw [Maps.atKey_of_not_has (by rw [(hD x).1, hf]; rfl), hy] at h1
        cases h1
      | some u =>
        have h1 := hat (.lit (.int .i64 0))
        rw [(hD x).2 u hf, hy] at h1
        rw [DataW.held.inj h1]
    refine Or.inr ⟨x, v, w', c', (hL x).symm.trans hlk, hx, hrun, ⟨D, _, hrg, hD, fun z => ?_⟩, hlt, hgr, hsz, hen⟩
    show (L (.int .i64 z) && !(Lit.int .i64 z).sameKey (.int .i64 x)) = _
    rw [hL z, show (Lit.int .i64 z).sameKey (.int .i64 x) = (z == x) from (by show decide _ = _; rw [Bool.eq_iff_iff]; simp)]
end

end Go.Proofs.YtogknhogphkddaaGreat

/- Library functions over lists of entries: Grow, Concat, IndexFunc: contracts. -/
namespace Go.Proofs.YtogknhogphkddaaGreat
open Go.RowKit W Kp Stl

theorem zeros_len (z : Value) (n : Nat) (hz : z.cells.size = 2) : (Builtin.zeroCells z.cells n).size = n * 2 := by rw [size_zeroCells, hz]

set_option maxRecDepth 100000 in
set_option maxHeartbeats 400000 in
theorem grow_any (w : World) (n : Nat) (hn : n ≤ 100000) :
    Calls Tryz.prog 106 #[.slice none 0 0, .int .i64 n] w fun e w' => ∃ a1 c1, e = .returned (.slice a1 0 c1) ∧ w'.ownsRow w.heap.size 100 2 (.slice a1 0 c1) 0 [] ∧ Below w.heap.size w w' := by
  obtain ⟨i0, hi, hz0, hz1, hz2⟩ := info_parts infoEn
  rcases Nat.eq_zero_or_pos n with h0 | h0
  · subst h0
    go_enter Tryz.func106, Tryz.ntmps106
    go_wp2_with fail
    go_ret
    exact ⟨none, 0, rfl, World.ownsRow_nil _ _ _ _, Below.refl _ _⟩
  · have hr := Lib.run_append_nil_zeros (P := Tryz.prog) w 49 3 49 100 i0 (.agg #[.int .i64 0, .int .i64 0]) .i64 .i64 Tryz.underlying49 Tryz.underlying3 hi hz0 n h0 (by rw [hz1]; decide) (by omega) (by rw [hz2]; omega)
    have hge := grownCap_ge w n 0 100
    have hcm : grownCap w n 0 100 ≤ maxLen := grownCap_le_maxLen w n 0 100 (by unfold maxLen; omega)
    generalize grownCap w n 0 100 = g at hr hge hcm
    have hown : (w.drew.alloc (.cells (Builtin.zeroCells (Value.agg #[.int .i64 0, .int .i64 0]).cells n ++ Builtin.zeroCells (Value.agg #[.int .i64 0, .int .i64 0]).cells (g - n)) 100)).ownsRow w.heap.size 100 2 (.slice (some ⟨w.heap.size, 0, none⟩) 0 g) 0 [] :=
      World.ownsRow_made w.drew _ g (Nat.le_refl _) hcm (by rw [Array.size_append, zeros_len _ _ rfl, zeros_len _ _ rfl]; omega)
    have hb : Below w.heap.size w (w.drew.alloc (.cells (Builtin.zeroCells (Value.agg #[.int .i64 0, .int .i64 0]).cells n ++ Builtin.zeroCells (Value.agg #[.int .i64 0, .int .i64 0]).cells (g - n)) 100)) := (Below.refl _ w).drew.alloc (Nat.le_refl _) _
    generalize w.drew.alloc (.cells (Builtin.zeroCells (Value.agg #[.int .i64 0, .int .i64 0]).cells n ++ Builtin.zeroCells (Value.agg #[.int .i64 0, .int .i64 0]).cells (g - n)) 100) = w1 at hr hown hb
    go_enter Tryz.func106, Tryz.ntmps106
    go_wp2_with (at_builtin; refine Lib.wpList_append_run _ rfl _ _ _ _ rfl _ _ rfl rfl _ _ hr ?_)
    go_wp2_with fail
    go_ret
    exact ⟨_, _, rfl, hown, hb⟩

set_option maxRecDepth 100000 in
set_option maxHeartbeats 400000 in
theorem index_any (D : En → Prop) (f : Nat) (b c : Array Value) (p : En → Bool) (hf : Ent f) (w : World)
    (hl : ∀ (w' : World) (e : En), D e → w.heap.size ≤ w'.heap.size → (∀ k, k < w.heap.size → w'.heap[k]? = w.heap[k]?) → Calls Tryz.prog f (b.push (en e) ++ c) w' fun r w'' => r = .returned (.bool (p e)) ∧ Below w'.heap.size w' w'')
    (l : List En) (ad : Option Addr) (cap : Nat) (hD : ∀ e ∈ l, D e) (hm : l.length ≤ 100000) (hp : Lp w ad l) :
    Calls Tryz.prog 91 #[.slice ad l.length cap, .func (.func f) b c] w fun r w' => Below w.heap.size w w' ∧ ((r = .returned (.int .i64 (-1)) ∧ ∀ e ∈ l, p e = false) ∨ ∃ i : Nat, r = .returned (.int .i64 i) ∧ i < l.length ∧ p (l.getD i (0, 0)) = true ∧ ∀ e ∈ l.take i, p e = false) := by
  have HL : Hid (∀ (w' : World) (e : En), D e → w.heap.size ≤ w'.heap.size → (∀ k, k < w.heap.size → w'.heap[k]? = w.heap[k]?) → Calls Tryz.prog f (b.push (en e) ++ c) w' fun r w'' => r = .returned (.bool (p e)) ∧ Below w'.heap.size w' w'') := hl
  have HP : Hid (Lp w ad l) := hp
  have HD : Hid (∀ e ∈ l, D e) := hD
  have hcf : ∀ (args : Array Value) (w : World), (callFunc f args).run Tryz.prog w = .ok (.enter f args) w := hf
  clear hl hp hf hD
  go_enter Tryz.func91, Tryz.ntmps91
  go_wp2_with fail
  go_loopw [8] (fun iv wr => ∃ j : Nat, j ≤ l.length ∧ iv = .int .i64 j ∧ Hid (∀ e ∈ l.take j, p e = false) ∧ Below w.heap.size w wr) (fun iv _ => l.length - (intOf iv).toNat)
  case atStart => exact ⟨0, Nat.zero_le _, rfl, by simp [Hid], Below.refl _ _⟩
  case round =>
    obtain ⟨j, hj, rfl, HE, hb⟩ := hrel
    by_cases hlt : j < l.length
    · obtain ⟨b0, o0, e0, hb0, hc⟩ := HP.out.below hb (by omega)
      obtain ⟨x1, x2⟩ := hc j hlt
      have HG : Hid (l.getD j (0, 0) = ((l.getD j (0, 0)).1, (l.getD j (0, 0)).2)) := rfl
      have hd : D (l.getD j (0, 0)) := HD.out _ (by rw [List.getD_eq_getElem?_getD, List.getElem?_eq_getElem hlt]; exact List.getElem_mem hlt)
      have hd : D ((l.getD j (0, 0)).1, (l.getD j (0, 0)).2) := hd
      obtain ⟨g, hg⟩ : ∃ g, g = (l.getD j (0, 0)).1 := ⟨_, rfl⟩
      obtain ⟨z, hz⟩ : ∃ z, z = (l.getD j (0, 0)).2 := ⟨_, rfl⟩
      rw [← hg] at x1 hd HG
      rw [← hz] at x2 hd HG
      clear hc hg hz
      subst e0
      go_wp2_with fail
      refine (HL.out wr (g, z) hd hb.size hb.block).mono ?_
      rintro r w1 ⟨rfl, hb1⟩
      have hb2 := hb.trans (hb1.mono hb.size)
      clear hb hb1
      cases hp : p (g, z)
      · have HE' : Hid (∀ e ∈ l.take (j + 1), p e = false) := fun e he => by
          rw [take_snoc l j hlt (0, 0), List.mem_append, List.mem_singleton] at he
          rcases he with he | he
          · exact HE.out e he
          · rw [he, HG.out]; exact hp
        clear hp
        go_wp2_with fail
        go_roundw
        case rel => exact ⟨j + 1, by omega, by go_num, HE', hb2⟩
        case measure => simp [intOf]; omega
      · have HPt : Hid (p (l.getD j (0, 0)) = true) := by show _ = _; rw [HG.out]; exact hp
        clear hp
        go_wp2_with fail
        go_ret
        exact ⟨hb2, Or.inr ⟨j, rfl, hlt, HPt.out, HE.out⟩⟩
    · obtain rfl : j = l.length := by omega
      rw [List.take_length] at HE
      go_wp2_with fail
      go_ret
      exact ⟨hb, Or.inl ⟨rfl, HE.out⟩⟩

end Go.Proofs.YtogknhogphkddaaGreat

/- Concat of two lists of entries: a contract. -/
namespace Go.Proofs.YtogknhogphkddaaGreat
open Go.RowKit W Kp Stl

set_option maxRecDepth 100000 in
set_option maxHeartbeats 1000000 in
theorem concat_any (w : World) (B : Nat) (l1 l2 : List En) (z1 z2 : Addr) (c1 c2 : Nat) (x0 : w.cell? ⟨B, 0, none⟩ = some (.slice (some z1) l1.length c1)) (x1 : w.cell? ⟨B, 1, none⟩ = some (.slice (some z2) l2.length c2)) (h1 : Lp w (some z1) l1) (h2 : Lp w (some z2) l2) (hm : l1.length + l2.length ≤ 100000) :
    Calls Tryz.prog 93 #[.slice (some ⟨B, 0, none⟩) 2 2] w fun e w' => ∃ a c, e = .returned (.slice a (l1.length + l2.length) c) ∧ w'.ownsRow w.heap.size 100 2 (.slice a (l1.length + l2.length) c) (l1.length + l2.length) (ev (l1 ++ l2)) ∧ Below w.heap.size w w' := by
  obtain ⟨i0, hi, hz0, hz1, hz2⟩ := info_parts infoEn
  have H1 : Hid (Lp w (some z1) l1) := h1
  have H2 : Hid (Lp w (some z2) l2) := h2
  have hB := World.block_lt_of_cell? w _ x0
  clear h1 h2
  go_enter Tryz.func93, Tryz.ntmps93
  go_wp2_with fail
  go_loopw [3, 11] (fun sv iv wr => wr = w ∧ ((iv = .int .i64 0 ∧ sv = .int .i64 0) ∨ (iv = .int .i64 1 ∧ sv = .int .i64 l1.length) ∨ (iv = .int .i64 2 ∧ sv = .int .i64 (l1.length + l2.length : Nat)))) (fun _ iv _ => 2 - (intOf iv).toNat)
  case atStart => exact ⟨rfl, Or.inl ⟨rfl, rfl⟩⟩
  case round =>
    obtain ⟨hw, ⟨rfl, rfl⟩ | ⟨rfl, rfl⟩ | ⟨rfl, rfl⟩⟩ := hrel
    all_goals
      have hw := hw.symm
      subst hw
    · go_wp2_with fail
      go_roundw
      case rel => exact ⟨trivial, Or.inr (Or.inl ⟨by go_num, by go_num⟩)⟩
      case measure => simp [intOf]
    · go_wp2_with fail
      go_roundw
      case rel => exact ⟨trivial, Or.inr (Or.inr ⟨by go_num, by go_num⟩)⟩
      case measure => simp [intOf]
    · go_wp2_with fail
      refine (grow_any w (l1.length + l2.length) hm).mono ?_
      rintro e w1 ⟨a1, d1, rfl, hown, hb⟩
      go_wp2_with fail
      go_loopw [6, 27] (fun vv iv wk => Below w.heap.size w wk ∧ ((∃ a c, iv = .int .i64 0 ∧ vv = .slice a 0 c ∧ wk.ownsRow w.heap.size 100 2 (.slice a 0 c) 0 []) ∨ (∃ a c, iv = .int .i64 1 ∧ vv = .slice a l1.length c ∧ wk.ownsRow w.heap.size 100 2 (.slice a l1.length c) l1.length (ev l1)) ∨ (∃ a c, iv = .int .i64 2 ∧ vv = .slice a (l1.length + l2.length) c ∧ wk.ownsRow w.heap.size 100 2 (.slice a (l1.length + l2.length) c) (l1.length + l2.length) (ev (l1 ++ l2))))) (fun _ iv _ => 2 - (intOf iv).toNat)
      case atStart => exact ⟨hb, Or.inl ⟨a1, d1, rfl, rfl, hown⟩⟩
      case round =>
        clear hown hb
        obtain ⟨hb, ⟨a, c, rfl, rfl, hown⟩ | ⟨a, c, rfl, rfl, hown⟩ | ⟨a, c, rfl, rfl, hown⟩⟩ := hrel
        · have y0 := (hb.cell (p := ⟨B, 0, none⟩) hB).trans x0
          have hs := hb.size
          go_wp2_with (at_builtin; refine wpList_append_own _ rfl _ _ 49 rfl w.heap.size 100 i0 (.agg #[.int .i64 0, .int .i64 0]) 2 16 Tryz.underlying49 hi hz0 hz1 hz2 rfl (by decide) (.slice a 0 c) 0 [] rfl hown z1 l1.length c1 (ev l1) rfl (ev_length l1) ((H1.out.below hb).cells z1 rfl) (ev_one l1) ?_ ?_ hs ?_; (unfold maxLen; omega); omega; intro v w2 hown2 hgrow2 _; rw [Nat.zero_add, List.nil_append] at hown2; obtain ⟨a2, d2, e2⟩ := row_slice hown2; subst e2)
          have hb2 := hb.grown hgrow2 hs (fun k e => (row_lt hown k e.symm).1)
          clear hb hgrow2
          go_wp2_with fail
          go_roundw
          case rel => exact ⟨hb2, Or.inr (Or.inl ⟨a2, d2, by go_num, rfl, hown2⟩)⟩
          case measure => simp [intOf]
        · have y0 := (hb.cell (p := ⟨B, 1, none⟩) hB).trans x1
          have hs := hb.size
          go_wp2_with (at_builtin; refine wpList_append_own _ rfl _ _ 49 rfl w.heap.size 100 i0 (.agg #[.int .i64 0, .int .i64 0]) 2 16 Tryz.underlying49 hi hz0 hz1 hz2 rfl (by decide) (.slice a l1.length c) l1.length (ev l1) rfl hown z2 l2.length c2 (ev l2) rfl (ev_length l2) ((H2.out.below hb).cells z2 rfl) (ev_one l2) ?_ ?_ hs ?_; (unfold maxLen; omega); omega; intro v w2 hown2 hgrow2 _; rw [← ev_append] at hown2; obtain ⟨a2, d2, e2⟩ := row_slice hown2; subst e2)
          have hb2 := hb.grown hgrow2 hs (fun k e => (row_lt hown k e.symm).1)
          clear hb hgrow2
          go_wp2_with fail
          go_roundw
          case rel => exact ⟨hb2, Or.inr (Or.inr ⟨a2, d2, by go_num, rfl, hown2⟩)⟩
          case measure => simp [intOf]
        · go_wp2_with fail
          go_ret
          exact ⟨a, c, rfl, hown, hb⟩

end Go.Proofs.YtogknhogphkddaaGreat

/- Full, Reg, Copy of a Side: contracts. -/
namespace Go.Proofs.YtogknhogphkddaaGreat
open Go.RowKit W Kp Stl

structure Sds (w : World) (p : Nat) (a0 : Option Addr) (k0 : Nat) (a1 : Option Addr) (k1 : Nat) (r q : List En) : Prop where
  blk : w.heap[p]? = some (.cells #[.slice a0 r.length k0, .slice a1 q.length k1] 51 (0, 0))
  r0 : w.ownsRow 0 100 2 (.slice a0 r.length k0) r.length (ev r)
  q0 : w.ownsRow 0 100 2 (.slice a1 q.length k1) q.length (ev q)

theorem row_li {w : World} {base : Nat} {e : TypeId} {ad : Option Addr} {cap : Nat} {l : List En} (h : w.ownsRow base e 2 (.slice ad l.length cap) l.length (ev l)) : Li w ad l cap := by
  refine ⟨row_pairs h, ?_, ?_⟩
  · rcases h.2 with ⟨hv, h0⟩ | ⟨g, cap', cur, hv, _, _, hc, _⟩
    · omega
    · simp at hv; omega
  · intro e0
    rcases h.2 with ⟨hv, h0⟩ | ⟨g, cap', cur, hv, _⟩
    · simp at hv; exact ⟨h0, hv.2.2⟩
    · rw [e0] at hv; simp at hv

theorem Sds.keep {w w' : World} {p : Nat} {a0 a1 : Option Addr} {k0 k1 : Nat} {r q : List En} (h : Sds w p a0 k0 a1 k1 r q) (h1 : w'.heap[p]? = w.heap[p]?) (h2 : ∀ k, some k = (Value.slice a0 r.length k0).ownBlock → w'.heap[k]? = w.heap[k]?) (h3 : ∀ k, some k = (Value.slice a1 q.length k1).ownBlock → w'.heap[k]? = w.heap[k]?) : Sds w' p a0 k0 a1 k1 r q :=
  ⟨h1.trans h.blk, row_keep h.r0 h2, row_keep h.q0 h3⟩
theorem Sds.below {w w' : World} {p : Nat} {a0 a1 : Option Addr} {k0 k1 : Nat} {r q : List En} (h : Sds w p a0 k0 a1 k1 r q) (hb : Below w.heap.size w w') : Sds w' p a0 k0 a1 k1 r q :=
  h.keep (hb.block p (lt_of_some h.blk)) (fun k e => hb.block k (row_lt h.r0 k e).2) (fun k e => hb.block k (row_lt h.q0 k e).2)
theorem Sds.np {w : World} {p : Nat} {a0 a1 : Option Addr} {k0 k1 : Nat} {r q : List En} (h : Sds w p a0 k0 a1 k1 r q) {b n : Nat} {v : Value} {l : List Value} (hr : w.ownsRow b 100 2 v n l) : ∀ k, some k = v.ownBlock → k ≠ p := by
  intro k e e'
  obtain ⟨cur, hc⟩ := row_type hr k e
  rw [e', h.blk] at hc
  simp at hc

def fulB (n : Nat) : Bool := decide (24 ≤ n)
theorem fulB_yes {n : Nat} (h : 24 ≤ n) : fulB n = true := by simp [fulB, h]
theorem fulB_no {n : Nat} (h : ¬ 24 ≤ n) : fulB n = false := by simp [fulB, h]

theorem ful_eq {n0 n1 : Nat} (h0 : n0 ≤ 100000) (h1 : n1 ≤ 100000) : Hid (decide ((24 : Int) ≤ IntKind.i64.wrap ((n0 : Int) + (n1 : Int))) = fulB (n0 + n1)) := by
  show _ = _
  rw [show IntKind.i64.wrap ((n0 : Int) + (n1 : Int)) = (n0 : Int) + n1 by rw [IntKind.wrap_i64]; omega]
  unfold fulB
  by_cases h : 24 ≤ n0 + n1
  · rw [decide_eq_true h, decide_eq_true (by omega)]
  · rw [decide_eq_false h, decide_eq_false (by omega)]

set_option maxRecDepth 100000 in
set_option maxHeartbeats 400000 in
theorem full_any' (w : World) (p : Nat) (a0 a1 : Option Addr) (n0 k0 n1 k1 : Nat) (h : w.heap[p]? = some (.cells #[.slice a0 n0 k0, .slice a1 n1 k1] 51 (0, 0))) (h0 : n0 ≤ 100000) (h1 : n1 ≤ 100000) :
    Calls Tryz.prog 65 #[.pointer (some ⟨p, 0, none⟩)] w fun e w' => e = .returned (.bool (fulB (n0 + n1))) ∧ Below w.heap.size w w' := by
  have c0 : w.cell? ⟨p, 0, none⟩ = some (.slice a0 n0 k0) := by simp [World.cell?, h]
  have c1 : w.cell? ⟨p, 1, none⟩ = some (.slice a1 n1 k1) := by simp [World.cell?, h]
  clear h
  have HE := ful_eq h0 h1
  go_enter Tryz.func65, Tryz.ntmps65
  go_wp2_with fail
  go_region_held3 (fun w' => w'.cell? ⟨p, 0, none⟩ = some (.slice a0 n0 k0) ∧ w'.cell? ⟨p, 1, none⟩ = some (.slice a1 n1 k1)) (go_keep) (fail)
  go_wp2_with fail
  go_ret
  exact ⟨by rw [← HE.out]; rfl, (Below.refl _ _).drew⟩

theorem Sds.cells {w : World} {p : Nat} {a0 a1 : Option Addr} {k0 k1 : Nat} {r q : List En} (h : Sds w p a0 k0 a1 k1 r q) : w.cell? ⟨p, 0, none⟩ = some (.slice a0 r.length k0) ∧ w.cell? ⟨p, 1, none⟩ = some (.slice a1 q.length k1) ∧ w.frozen? ⟨p, 0, none⟩ = false ∧ w.frozen? ⟨p, 1, none⟩ = false ∧ p < w.heap.size :=
  ⟨by simp [World.cell?, h.blk], by simp [World.cell?, h.blk], by simp [World.frozen?, h.blk], by simp [World.frozen?, h.blk], lt_of_some h.blk⟩

theorem set_fst {w : World} {p : Nat} {x y v : Value} {T : TypeId} (h : w.heap[p]? = some (.cells #[x, y] T (0, 0))) : (w.setCell ⟨p, 0, none⟩ v).heap[p]? = some (.cells #[v, y] T (0, 0)) := by
  simp only [World.setCell, Array.getElem?_modify, if_true, h, Option.map_some]
  simp
theorem set_snd {w : World} {p : Nat} {x y v : Value} {T : TypeId} (h : w.heap[p]? = some (.cells #[x, y] T (0, 0))) : (w.setCell ⟨p, 1, none⟩ v).heap[p]? = some (.cells #[x, v] T (0, 0)) := by
  simp only [World.setCell, Array.getElem?_modify, if_true, h, Option.map_some]
  simp

set_option maxRecDepth 100000 in
set_option maxHeartbeats 1000000 in
theorem reg_any (w : World) (p : Nat) (a0 a1 : Option Addr) (k0 k1 : Nat) (r q : List En) (g z : Int) (h : Sds w p a0 k0 a1 k1 r q) (h0 : r.length ≤ 90000) (h1 : q.length ≤ 90000) :
    Calls Tryz.prog 42 #[.pointer (some ⟨p, 0, none⟩), .agg #[.int .i64 g, .int .i64 z]] w fun e w' => e = .returned (.bool (!fulB (r.length + q.length))) ∧
      ((24 ≤ r.length + q.length ∧ Below w.heap.size w w') ∨ (¬ 24 ≤ r.length + q.length ∧ ∃ b1 c1, Sds w' p (some ⟨b1, 0, none⟩) c1 a1 k1 (r ++ [(g, z)]) q ∧ w.heap.size ≤ b1 ∧ Fr (fun k => k = p) w w')) := by
  obtain ⟨c0, c1, f0, f1, lp⟩ := h.cells
  have H : Hid (Sds w p a0 k0 a1 k1 r q) := h
  have hb1 := (Below.refl w.heap.size w).alloc (Nat.le_refl _) (.cells #[.int .i64 g, .int .i64 z] 100)
  have HLi : Hid (Li w a0 r k0) := row_li h.r0
  by_cases hf : 24 ≤ r.length + q.length
  · rw [fulB_yes hf]
    clear h
    go_enter Tryz.func42, Tryz.ntmps42
    go_wp2_with fail
    refine (full_any' _ p a0 a1 r.length k0 q.length k1 ((hb1.block p lp).trans H.out.blk) (by omega) (by omega)).mono ?_
    rintro e w1 ⟨rfl, hb⟩
    rw [fulB_yes hf]
    have hb2 := hb1.trans (hb.mono (by simp))
    go_wp2_with fail
    go_ret
    exact ⟨rfl, Or.inl ⟨hf, hb2⟩⟩
  · rw [fulB_no hf]
    clear h
    go_enter Tryz.func42, Tryz.ntmps42
    go_wp2_with fail
    refine (full_any' _ p a0 a1 r.length k0 q.length k1 ((hb1.block p lp).trans H.out.blk) (by omega) (by omega)).mono ?_
    rintro e w1 ⟨rfl, hb⟩
    rw [fulB_no hf]
    have hb2 := hb1.trans (hb.mono (by simp))
    have hl0 : w.heap.size < w1.heap.size := by have := hb.size; simp at this; omega
    have y0 : w1.cell? ⟨w.heap.size, 0, none⟩ = some (.int .i64 g) := (hb.cell (by simp)).trans (by simp)
    have y1 : w1.cell? ⟨w.heap.size, 1, none⟩ = some (.int .i64 z) := (hb.cell (by simp)).trans (by simp)
    have y2 := (hb2.cell (p := ⟨p, 0, none⟩) lp).trans c0
    have y3 := (hb2.frozen (p := ⟨p, 0, none⟩) lp).trans f0
    have lp1 : p < w1.heap.size := by omega
    have hLi1 := HLi.out.below hb2
    clear hb hb1
    go_wp2_with fail
    go_region_with (go_at_call 66; refine (with_any _ a0 r k0 g z (hLi1.below ((Below.refl _ _).drew)) (by omega)).mono ?_; rintro e w5 ⟨b1, cap1, rfl, hown, hb5⟩; have e4 := (hb5.cell (p := ⟨p, 0, none⟩) lp1).trans y2; have e5 := (hb5.frozen (p := ⟨p, 0, none⟩) lp1).trans y3)
    all_goals
      go_wp2_with fail
      go_ret
      refine ⟨rfl, Or.inr ⟨hf, b1, cap1, ?_⟩⟩
      have hbw : Below w.heap.size w w5 := hb2.drew.trans (hb5.mono (by simp; omega))
      have lb : w1.heap.size ≤ b1 := (row_lt hown b1 rfl).1
      have hS := H.out.below hbw
      have hfr : Fr (fun k => k = p) w (w5.setCell ⟨p, 0, none⟩ (.slice (some ⟨b1, 0, none⟩) (r.length + 1) cap1)) := (Fr.of hbw).set p 0 _ rfl
      have kk : ∀ k, k ≠ p → (w5.setCell ⟨p, 0, none⟩ (.slice (some ⟨b1, 0, none⟩) (r.length + 1) cap1)).heap[k]? = w5.heap[k]? := fun k hk => Below.heap_setCell _ _ _ _ hk
      refine ⟨⟨by simpa using set_fst hS.blk, ?_, row_keep hS.q0 (fun k e => kk k (hS.np hS.q0 k e))⟩, by omega, hfr⟩
      have := row_base (base' := 0) (row_keep (w' := w5.setCell ⟨p, 0, none⟩ (.slice (some ⟨b1, 0, none⟩) (r.length + 1) cap1)) hown (fun k e => kk k (hS.np hown k e))) (fun _ _ => Nat.zero_le _)
      simpa using this

end Go.Proofs.YtogknhogphkddaaGreat

/- Pop of a Side: a contract. -/
namespace Go.Proofs.YtogknhogphkddaaGreat
open Go.RowKit W Kp Stl

theorem concat' (w : World) (B n1 n2 : Nat) (l1 l2 : List En) (z1 z2 : Addr) (c1 c2 : Nat) (e1 : l1.length = n1) (e2 : l2.length = n2) (x0 : w.cell? ⟨B, 0, none⟩ = some (.slice (some z1) n1 c1)) (x1 : w.cell? ⟨B, 1, none⟩ = some (.slice (some z2) n2 c2)) (h1 : Lp w (some z1) l1) (h2 : Lp w (some z2) l2) (hm : n1 + n2 ≤ 100000) :
    Calls Tryz.prog 93 #[.slice (some ⟨B, 0, none⟩) 2 2] w fun e w' => ∃ a c m, e = .returned (.slice a m c) ∧ Hid (m = n1 + n2) ∧ Hid (w'.ownsRow w.heap.size 100 2 (.slice a m c) m (ev (l1 ++ l2))) ∧ Below w.heap.size w w' := by
  subst e1
  subst e2
  refine (concat_any w B l1 l2 z1 z2 c1 c2 x0 x1 h1 h2 hm).mono ?_
  rintro e w' ⟨a, c, rfl, h3, h4⟩
  exact ⟨a, c, _, rfl, rfl, h3, h4⟩
theorem Lp.take {w : World} {ad : Option Addr} {q : List En} (h : Lp w ad q) (i : Nat) : Lp w ad (q.take i) := by
  intro hp
  simp only [List.length_take] at hp
  obtain ⟨b, o, e, hb, hc⟩ := h (by omega)
  refine ⟨b, o, e, hb, fun j hj => ?_⟩
  simp only [List.length_take] at hj
  have e2 : (q.take i).getD j (0, 0) = q.getD j (0, 0) := by rw [List.getD_eq_getElem?_getD, List.getD_eq_getElem?_getD, List.getElem?_take_of_lt (by omega)]
  rw [e2]
  exact hc j (by omega)
theorem Lp.drop {w : World} {b o : Nat} {q : List En} (h : Lp w (some ⟨b, o, none⟩) q) (i : Nat) : Lp w (some ⟨b, o + i * 2, none⟩) (q.drop i) := by
  intro hp
  simp only [List.length_drop] at hp
  obtain ⟨b', o', e, hb, hc⟩ := h (by omega)
  cases e
  refine ⟨b, o + i * 2, rfl, hb, fun j hj => ?_⟩
  simp only [List.length_drop] at hj
  have e2 : (q.drop i).getD j (0, 0) = q.getD (i + j) (0, 0) := by simp [List.getElem?_drop]
  have hx := hc (i + j) (by omega)
  rw [e2, show o + i * 2 + j * 2 = o + (i + j) * 2 by omega]
  exact hx

theorem ent_pop1 : Ent 92 := ent_of Tryz.func92 (by kernel_rfl) rfl

set_option maxRecDepth 100000 in
set_option maxHeartbeats 400000 in
theorem pop1_any (w : World) (B : Nat) (g : Int) (e : En) (h : w.cell? ⟨B, 0, none⟩ = some (.int .i64 g)) :
    Calls Tryz.prog 92 #[en e, .pointer (some ⟨B, 0, none⟩)] w fun r w' => r = .returned (.bool (e.1 == g)) ∧ Below w.heap.size w w' := by
  obtain ⟨x, y⟩ := e
  have hlt := World.block_lt_of_cell? w _ h
  have hb1 := (Below.refl w.heap.size w).alloc (Nat.le_refl _) (.cells #[.int .i64 x, .int .i64 y] 100)
  by_cases hx : x = g
  · subst hx
    go_enter Tryz.func92, Tryz.ntmps92
    go_wp2_with fail
    go_ret
    exact ⟨by simp, hb1⟩
  · go_enter Tryz.func92, Tryz.ntmps92
    go_wp2_with fail
    go_ret
    exact ⟨by simp, hb1⟩

theorem pop_end {w w1 w5 : World} {p b0 : Nat} {a0 a5 : Option Addr} {k0 k1 c5 i n : Nat} {r q : List En} (h : Sds w p a0 k0 (some ⟨b0, 0, none⟩) k1 r q) (hb2 : Below w.heap.size w w1) (hb5 : Below w1.heap.size w1 w5) (hown : w5.ownsRow w1.heap.size 100 2 (.slice a5 n c5) n (ev (q.take i ++ q.drop (i + 1)))) (hi : i < q.length) (hn : n + 1 = q.length) :
    Sds (w5.setCell ⟨p, 1, none⟩ (.slice a5 n c5)) p a0 k0 a5 c5 r (q.take i ++ q.drop (i + 1)) ∧ (∀ z, a5 = some z → w.heap.size ≤ z.block) ∧ Fr (fun k => k = p) w (w5.setCell ⟨p, 1, none⟩ (.slice a5 n c5)) := by
  have hbw : Below w.heap.size w w5 := hb2.trans (hb5.mono hb2.size)
  have hS := h.below hbw
  have hl : (q.take i ++ q.drop (i + 1)).length = n := by rw [List.length_append, List.length_take, List.length_drop]; omega
  have kk : ∀ k, k ≠ p → (w5.setCell ⟨p, 1, none⟩ (.slice a5 n c5)).heap[k]? = w5.heap[k]? := fun k hk => Below.heap_setCell _ _ _ _ hk
  refine ⟨⟨by rw [hl]; exact set_snd hS.blk, row_keep hS.r0 (fun k e => kk k (hS.np hS.r0 k e)), ?_⟩, fun z e => ?_, (Fr.of hbw).set p 1 _ rfl⟩
  · rw [hl]
    exact row_base (row_keep hown (fun k e => kk k (hS.np hown k e))) (fun _ _ => Nat.zero_le _)
  · have := (row_lt hown z.block (by rw [e]; rfl)).1
    have := hb2.size
    omega

set_option maxRecDepth 100000 in
set_option maxHeartbeats 1000000 in
theorem pop_any (w : World) (p : Nat) (a0 a1 : Option Addr) (k0 k1 : Nat) (r q : List En) (g : Int) (h : Sds w p a0 k0 a1 k1 r q) (h1 : q.length ≤ 90000) :
    Calls Tryz.prog 75 #[.pointer (some ⟨p, 0, none⟩), .int .i64 g] w fun e w' =>
      (e = .returned (.tuple #[.int .i64 0, .bool false]) ∧ (∀ e ∈ q, ¬ e.1 = g) ∧ Below w.heap.size w w') ∨
      (∃ (i : Nat) (b1 : Option Addr) (c1 : Nat), e = .returned (.tuple #[.int .i64 (q.getD i (0, 0)).2, .bool true]) ∧ i < q.length ∧ (q.getD i (0, 0)).1 = g ∧ (∀ e ∈ q.take i, ¬ e.1 = g) ∧ Sds w' p a0 k0 b1 c1 r (q.take i ++ q.drop (i + 1)) ∧ (∀ z, b1 = some z → w.heap.size ≤ z.block) ∧ Fr (fun k => k = p) w w') := by
  obtain ⟨c0, c1, f0, f1, lp⟩ := h.cells
  have H : Hid (Sds w p a0 k0 a1 k1 r q) := h
  have hb1 := (Below.refl w.heap.size w).alloc (Nat.le_refl _) (.cells #[.int .i64 g] 2)
  have y1 := (hb1.cell (p := ⟨p, 1, none⟩) lp).trans c1
  have P := index_any (fun _ => True) 92 #[] #[.pointer (some ⟨w.heap.size, 0, none⟩)] (fun e => e.1 == g) ent_pop1 (w.alloc (.cells #[.int .i64 g] 2)) (fun w' e _ hs hk => pop1_any w' w.heap.size g e ((World.cell?_of_block (a := ⟨w.heap.size, 0, none⟩) (hk _ (by simp))).trans (by simp))) q a1 k1 (fun _ _ => trivial) (by omega) ((row_pairs h.q0).below hb1)
  clear h c0 f0
  go_enter Tryz.func75, Tryz.ntmps75
  go_wp2_with fail
  refine P.mono ?_
  clear P
  rintro e w1 ⟨hb, ⟨rfl, hn⟩ | ⟨i, rfl, hi, ht, hn⟩⟩
  · have HN : Hid (∀ e ∈ q, ¬ e.1 = g) := fun e he => by simpa using hn e he
    have hb2 := hb1.trans (hb.mono (by simp))
    clear hb hn
    go_wp2_with fail
    go_ret2
    exact Or.inl ⟨rfl, HN.out, hb2⟩
  · have HN : Hid (∀ e ∈ q.take i, ¬ e.1 = g) := fun e he => by simpa using hn e he
    have HT : Hid ((q.getD i (0, 0)).1 = g) := by show _ = _; simpa using ht
    obtain ⟨z, Hz⟩ : ∃ z, Hid (z = (q.getD i (0, 0)).2) := ⟨_, rfl⟩
    have hb2 := hb1.trans (hb.mono (by simp))
    have hsz := hb2.size
    have hS := H.out.below hb2
    obtain ⟨d0, d1, e0, e1, lp1⟩ := hS.cells
    have hLi := row_li hS.q0
    obtain ⟨b0, cap, hshape⟩ := row_shape hS.q0 (by omega)
    simp at hshape
    obtain ⟨rfl, rfl⟩ := hshape
    have hle := hLi.le
    have hmx : k1 ≤ maxLen := by
      rcases hS.q0.2 with ⟨_, h0⟩ | ⟨g, cap', cur, hv, _, _, _, hc, _⟩
      · omega
      · simp at hv; omega
    unfold maxLen at hmx
    obtain ⟨b0', o0', e0', hb0, hc⟩ := hLi.lp (by omega)
    cases e0'
    have x2 := (hc i hi).2
    rw [Nat.zero_add, ← Hz.out] at x2
    have i0 : (0 : Int) ≤ (i : Int) := by omega
    have i1 : (i : Int) < (q.length : Int) := by omega
    have HS : Hid (Sds w1 p a0 k0 (some ⟨b0, 0, none⟩) k1 r q) := hS
    clear hb hn hb1 hc hS ht
    have HP : Hid (Lp w1 (some ⟨b0, 0, none⟩) q) := hLi.lp
    have ht1 : Hid ((q.take i).length = i) := by show _ = _; rw [List.length_take]; omega
    have i2 : (i : Int) ≤ (k1 : Int) := by omega
    have i3 : IntKind.i64.wrap ((i : Int) + 1) = (i : Int) + 1 := by rw [IntKind.wrap_i64]; omega
    have i4 : (0 : Int) ≤ (i : Int) + 1 := by omega
    have i5 : (i : Int) + 1 ≤ (q.length : Int) := by omega
    have i6 : ((i : Int) + 1).toNat = i + 1 := by omega
    have i7 : (i : Int).toNat = i := by omega
    by_cases hk : i + 1 = k1
    · subst hk
      have hz : q.length - (i + 1) = 0 := by omega
      have hbd := ((Below.refl w1.heap.size w1).alloc (Nat.le_refl _) (.cells #[.slice (some ⟨b0, 0, none⟩) i (i + 1), .slice (some ⟨b0, 0, none⟩) 0 0] 49)).drew
      have ht2 : Hid ((q.drop (i + 1)).length = 0) := by show _ = _; rw [List.length_drop]; omega
      have hL2 : Lp (w1.alloc (.cells #[.slice (some ⟨b0, 0, none⟩) i (i + 1), .slice (some ⟨b0, 0, none⟩) 0 0] 49)).drew (some ⟨b0, 0, none⟩) (q.drop (i + 1)) := fun h => by rw [List.length_drop] at h; omega
      go_wp2_with fail
      go_region_with (go_at_call 93; refine (concat' _ w1.heap.size i (0) (q.take i) (q.drop (i + 1)) ⟨b0, 0, none⟩ ⟨b0, 0, none⟩ (i + 1) (0) ht1.out ht2.out (by simp) (by simp) ((HP.out.take i).below hbd) (hL2) (by omega)).mono ?_; rintro e w5 ⟨a5, c5, m5, rfl, hm5, hown, hb5⟩; have e4 := (hb5.cell (p := ⟨p, 1, none⟩) (by simp; omega)).trans ((hbd.cell (p := ⟨p, 1, none⟩) lp1).trans d1); have e5 := (hb5.frozen (p := ⟨p, 1, none⟩) (by simp; omega)).trans ((hbd.frozen (p := ⟨p, 1, none⟩) lp1).trans e1))
      all_goals
        go_wp2_with fail
        go_ret2
        refine Or.inr ⟨i, a5, c5, by rw [← Hz.out]; rfl, hi, HT.out, HN.out, ?_⟩
        have hb5' : Below w1.heap.size w1 w5 := hbd.trans (hb5.mono (by simp))
        exact pop_end H.out hb2 hb5' (row_base hown.out (fun k e => by have := (row_lt hown.out k e).1; simp at this; omega)) hi (by have := hm5.out; omega)
    · have hk2 : ¬ k1 = i + 1 := fun e => hk e.symm
      have hbd := ((Below.refl w1.heap.size w1).alloc (Nat.le_refl _) (.cells #[.slice (some ⟨b0, 0, none⟩) i k1, .slice (some ⟨b0, (i + 1) * 2, none⟩) (q.length - (i + 1)) (k1 - (i + 1))] 49)).drew
      have ht2 : Hid ((q.drop (i + 1)).length = q.length - (i + 1)) := List.length_drop
      have hL0 := (HP.out.drop (i + 1)).below hbd
      rw [Nat.zero_add] at hL0
      have HL2 : Hid (Lp (w1.alloc (.cells #[.slice (some ⟨b0, 0, none⟩) i k1, .slice (some ⟨b0, (i + 1) * 2, none⟩) (q.length - (i + 1)) (k1 - (i + 1))] 49)).drew (some ⟨b0, (i + 1) * 2, none⟩) (q.drop (i + 1))) := hL0
      clear hL0
      go_wp2_with fail
      go_region_with (go_at_call 93; refine (concat' _ w1.heap.size i (q.length - (i + 1)) (q.take i) (q.drop (i + 1)) ⟨b0, 0, none⟩ ⟨b0, (i + 1) * 2, none⟩ k1 (k1 - (i + 1)) ht1.out ht2.out (by simp) (by simp) ((HP.out.take i).below hbd) (HL2.out) (by omega)).mono ?_; rintro e w5 ⟨a5, c5, m5, rfl, hm5, hown, hb5⟩; have e4 := (hb5.cell (p := ⟨p, 1, none⟩) (by simp; omega)).trans ((hbd.cell (p := ⟨p, 1, none⟩) lp1).trans d1); have e5 := (hb5.frozen (p := ⟨p, 1, none⟩) (by simp; omega)).trans ((hbd.frozen (p := ⟨p, 1, none⟩) lp1).trans e1))
      all_goals
        go_wp2_with fail
        go_ret2
        refine Or.inr ⟨i, a5, c5, by rw [← Hz.out]; rfl, hi, HT.out, HN.out, ?_⟩
        have hb5' : Below w1.heap.size w1 w5 := hbd.trans (hb5.mono (by simp))
        exact pop_end H.out hb2 hb5' (row_base hown.out (fun k e => by have := (row_lt hown.out k e).1; simp at this; omega)) hi (by have := hm5.out; omega)

end Go.Proofs.YtogknhogphkddaaGreat

/- What a walk shows: lists. -/
namespace Go.Proofs.YtogknhogphkddaaGreat
open Go.RowKit W Kp Stl

def wI (v : Int × Int) : Int := ew v.1 v.2
def Vq (T : List Tw1) (v : Int × Int) : Prop := vc v.1 v.2 = 0 ∧ (v.1 = 3 → 0 ≤ v.2 ∧ Alv T v.2.toNat)
theorem Vq.lt {T : List Tw1} {v : Int × Int} (h : Vq T v) (h3 : v.1 = 3) : 0 ≤ v.2 ∧ v.2 < T.length := by
  obtain ⟨h0, h1⟩ := h.2 h3
  have := h1.1
  exact ⟨h0, by omega⟩
def tI (n : Nat) : List Int := (List.range n).map (fun i : Nat => (i : Int))
theorem tI_mem {n : Nat} {a : Int} : a ∈ tI n ↔ 0 ≤ a ∧ a < n := by
  unfold tI
  simp only [List.mem_map, List.mem_range]
  constructor
  · rintro ⟨i, hi, e⟩
    omega
  · rintro ⟨h0, h1⟩
    exact ⟨a.toNat, by omega, by omega⟩
theorem tI_len (n : Nat) : (tI n).length = n := by simp [tI]
def kdW (T : List Tw1) (a : Int) : Int := (T.getD a.toNat t0).1
def shW (T : List Tw1) (wt : List En) (a : Int) : List Int := ((T.getD a.toNat t0).2.1.map wI) ++ (if (T.getD a.toNat t0).1 = 5 then (wt.filter (fun e => e.1 == a)).map (fun e => ew 3 e.2) else [])
structure Wvw (T : List Tw1) (wt : List En) : Prop where
  fv : ∀ i, Alv T i → ∀ v ∈ (T.getD i t0).2.1, Vq T v
  wv : ∀ e ∈ wt, 0 ≤ e.1 ∧ 0 ≤ e.2 ∧ Alv T e.2.toNat
  tl : ∀ i, (T.getD i t0).2.1.length ≤ 12
  l1 : T.length ≤ 10000
  l2 : wt.length ≤ 10000
section
variable {T : List Tw1} {M : Vst → Int → Vst} {s : Vst} {v : Int × Int}
theorem wI_dec (h : Vq T v) : dk (wI v) = v.1 ∧ dn (wI v) = v.2 := (dec_enc _ _ h.1).2
theorem vst_o (h : Vq T v) (h3 : v.1 ≠ 3) : vst M (tI T.length) s (wI v) = (v, s) := by
  unfold vst
  rw [(wI_dec h).1, (wI_dec h).2, if_neg h3]
theorem vst_met (h : Vq T v) (h3 : v.1 = 3) (hs : s.1.contains v.2 = true) : vst M (tI T.length) s (wI v) = ((3, (s.1.idxOf v.2 : Int)), s) := by
  unfold vst
  rw [(wI_dec h).1, (wI_dec h).2, if_pos h3, if_pos (List.contains_iff_mem.2 (tI_mem.2 (h.lt h3))), if_pos hs]
theorem vst_new (h : Vq T v) (h3 : v.1 = 3) (hs : s.1.contains v.2 = false) : vst M (tI T.length) s (wI v) = ((3, (s.1.length : Int)), M s v.2) := by
  unfold vst
  rw [(wI_dec h).1, (wI_dec h).2, if_pos h3, if_pos (List.contains_iff_mem.2 (tI_mem.2 (h.lt h3))), if_neg (by rw [hs]; simp)]
end

def Vr4.vwW (T : List Tw1) (wt : List En) (l : List (Int × Int)) : List (Int × Int) × Vst := vls (met (tI T.length) (kdW T) (shW T wt) T.length) (tI T.length) ([], []) (l.map wI)

end Go.Proofs.YtogknhogphkddaaGreat
