/- Joined: Gb6, Vw3, Vw5, Vw6, Vw7, Gm, Sd7, Sd8, Sd9. -/
import Derived.Test.YtjhnhbeimjnloaaJ10
import Derived.Test.YtjhnhbeimjnloaaJ08
import Derived.Test.YtjhnhbeimjnloaaJ06
import Derived.Deep.RegionHeld3
import Derived.Test.YtjhnhbeimjnloaaJ01
import Derived.Maps.RangeWalk
import Derived.Maps.OwnSet
import Derived.Test.YtjhnhbeimjnloaaJ02
import Derived.Lib.AppendZeros
import Derived.Test.YtjhnhbeimjnloaaJ03
/- GroveBreaks: told: a view that is told anew, in memory. -/
namespace Go.Proofs.Ytjhnhbeimjnloaa
open Go.RowKit W Kp Stl

def numL (n : Nat) (ms : List Int) : List Int := (List.range n).map (fun i : Nat => if ms.contains (i : Int) = true then (ms.idxOf (i : Int) : Int) + 1 else 0)
theorem numL_len (n : Nat) (ms : List Int) : (numL n ms).length = n := by simp [numL]
theorem numL_at {n : Nat} {ms : List Int} {i : Nat} (hi : i < n) : (numL n ms)[i]? = some (if ms.contains (i : Int) = true then (ms.idxOf (i : Int) : Int) + 1 else 0) := by
  unfold numL
  rw [List.getElem?_map, List.getElem?_range hi]
  rfl
theorem numL_snoc {n : Nat} {ms : List Int} {a : Nat} (ha : a < n) (hs : (a : Int) ∉ ms) : numL n (ms ++ [(a : Int)]) = (numL n ms).set a ((ms.length : Int) + 1) := by
  refine List.ext_getElem? (fun i => ?_)
  by_cases hi : i < n
  · rw [numL_at hi, List.getElem?_set, numL_at hi, numL_len]
    by_cases e : a = i
    · subst e
      rw [if_pos rfl, if_pos ha, if_pos (by simp), List.idxOf_append, if_neg hs]
      simp
    · rw [if_neg e]
      have e2 : (i : Int) ≠ (a : Int) := by omega
      by_cases c : (i : Int) ∈ ms
      · rw [if_pos (List.contains_iff_mem.2 (List.mem_append_left _ c)), if_pos (List.contains_iff_mem.2 c), List.idxOf_append, if_pos c]
      · rw [if_neg, if_neg]
        · exact fun d => c (List.contains_iff_mem.1 d)
        · intro d
          rcases List.mem_append.1 (List.contains_iff_mem.1 d) with d | d
          · exact c d
          · exact e2 (List.mem_singleton.1 d)
  · rw [List.getElem?_eq_none (by rw [numL_len]; omega), List.getElem?_eq_none (by rw [List.length_set, numL_len]; omega)]

abbrev fnT (mb bb vb fb : Nat) : Value := .func (.func 33) #[] #[.pointer (some ⟨mb, 0, none⟩), .pointer (some ⟨vb, 0, none⟩), .pointer (some ⟨bb, 0, none⟩), .pointer (some ⟨fb, 0, none⟩)]
structure Wt (nn : Nat) (w0 w : World) (mb bb vb fb : Nat) (s : Vst) (va vn vr : Value) (m : List Vnd) : Prop where
  bel : Below w0.heap.size w0 w
  lo : w0.heap.size ≤ mb ∧ w0.heap.size ≤ vb ∧ w0.heap.size ≤ fb
  fc : w.heap[fb]? = some (.cells #[fnT mb bb vb fb] 83 (0, 0))
  mc : w.heap[mb]? = some (.cells #[va] 82 (0, 0))
  vc : w.heap[vb]? = some (.cells #[vr, vn] 35 (0, 0))
  mr : w.ownsRow w0.heap.size 3 1 va nn ((numL nn s.1).map (Value.int .i64))
  nr : w.ownsRow w0.heap.size 44 2 vn m.length (nv m)
  nd : nds m = s.2
  fl : ∀ x ∈ m, Lv w x.2.1 x.2.2.2
section
variable {nn : Nat} {w0 w w' : World} {mb bb vb fb : Nat} {s : Vst} {va vn vr : Value} {m : List Vnd}

theorem Wt.fbk (h : Wt nn w0 w mb bb vb fb s va vn vr m) (k : Nat) (hk : Fb m k) : k < w.heap.size := by
  obtain ⟨x, hx, hl, o, e⟩ := hk
  obtain ⟨b, o', cs, e', hb⟩ := (h.fl x hx).2 hl
  rw [e] at e'
  cases e'
  exact lt_of_some hb
theorem Wt.len (h : Wt nn w0 w mb bb vb fb s va vn vr m) : m.length = s.2.length := by rw [← h.nd]; simp [nds]
theorem Wt.cells (h : Wt nn w0 w mb bb vb fb s va vn vr m) : w.cell? ⟨mb, 0, none⟩ = some va ∧ w.cell? ⟨vb, 1, none⟩ = some vn ∧ w.cell? ⟨fb, 0, none⟩ = some (fnT mb bb vb fb) ∧ mb < w.heap.size ∧ vb < w.heap.size ∧ fb < w.heap.size ∧ (∀ o, w.frozen? ⟨mb, o, none⟩ = false) ∧ (∀ o, w.frozen? ⟨vb, o, none⟩ = false) ∧ w.cell? ⟨vb, 0, none⟩ = some vr :=
  ⟨by simp [World.cell?, h.mc], by simp [World.cell?, h.vc], by simp [World.cell?, h.fc], lt_of_some h.mc, lt_of_some h.vc, lt_of_some h.fc, fun o => by simp [World.frozen?, h.mc], fun o => by simp [World.frozen?, h.vc], by simp [World.cell?, h.vc]⟩
theorem Wt.but {X : Nat → Prop} (h : Wt nn w0 w mb bb vb fb s va vn vr m) (f : Fr X w w') (hX : ∀ k, k < w.heap.size → X k → (∃ cs, w.heap[k]? = some (.cells cs 41 (0, 0))) ∧ ¬ Fb m k ∧ w0.heap.size ≤ k) : Wt nn w0 w' mb bb vb fb s va vn vr m := by
  have hk : ∀ k cs e mm, w.heap[k]? = some (Obj.cells cs e mm) → e ≠ 41 → w'.heap[k]? = w.heap[k]? := fun k cs e mm hk hne => f.block k (lt_of_some hk) (fun d => by
    obtain ⟨⟨cs2, h2⟩, _⟩ := hX k (lt_of_some hk) d
    rw [hk] at h2
    simp at h2
    exact hne h2.2.1)
  have hrow : ∀ {b n sz : Nat} {e : TypeId} {v : Value} {l : List Value}, w.ownsRow b e sz v n l → e ≠ 41 → w'.ownsRow b e sz v n l := fun hr hne => row_keep hr (fun k e1 => by
    obtain ⟨cs, hc⟩ := row_type hr k e1
    exact hk k _ _ _ hc hne)
  refine ⟨⟨f.os.trans h.bel.os, f.tape.trans h.bel.tape, f.output.trans h.bel.output, Nat.le_trans h.bel.size f.size, fun k hlt => (f.block k (Nat.lt_of_lt_of_le hlt h.bel.size) (fun d => ?_)).trans (h.bel.block k hlt)⟩, h.lo, (hk _ _ _ _ h.fc (by decide)).trans h.fc, (hk _ _ _ _ h.mc (by decide)).trans h.mc, (hk _ _ _ _ h.vc (by decide)).trans h.vc, hrow h.mr (by decide), hrow h.nr (by decide), h.nd, fun x hx => ?_⟩
  · have := (hX k (Nat.lt_of_lt_of_le hlt h.bel.size) d).2.2
    omega
  · have hb : 0 < x.2.2.2.length → ∀ a, x.2.1 = some a → w'.heap[a.block]? = w.heap[a.block]? := fun hp a e => by
      obtain ⟨b0, o0, cs, e0, hb0⟩ := (h.fl x hx).2 hp
      rw [e0] at e
      cases e
      exact f.block _ (lt_of_some hb0) (fun d => (hX _ (lt_of_some hb0) d).2.1 ⟨x, hx, hp, o0, e0⟩)
    refine ⟨(h.fl x hx).1.keep f.size hb, fun hp => ?_⟩
    obtain ⟨b0, o0, cs, e0, hb0⟩ := (h.fl x hx).2 hp
    exact ⟨b0, o0, cs, e0, (hb hp _ e0).trans hb0⟩
theorem Wt.below (h : Wt nn w0 w mb bb vb fb s va vn vr m) (hb : Below w.heap.size w w') : Wt nn w0 w' mb bb vb fb s va vn vr m :=
  h.but (X := fun _ => False) (Fr.of hb) (fun _ _ d => d.elim)
theorem Wt.meets {gb cp : Nat} (h : Wt nn w0 w mb bb vb fb s (.slice (some ⟨gb, 0, none⟩) nn cp) vn vr m) (a : Nat) (ha : a < nn) (hs : (a : Int) ∉ s.1) : Wt nn w0 (w.setCell ⟨gb, a, none⟩ (.int .i64 ((s.1.length : Int) + 1))) mb bb vb fb (s.1 ++ [(a : Int)], s.2) (.slice (some ⟨gb, 0, none⟩) nn cp) vn vr m ∧ Kw w0.heap.size w (w.setCell ⟨gb, a, none⟩ (.int .i64 ((s.1.length : Int) + 1))) := by
  obtain ⟨cur, hcur⟩ := row_type h.mr gb rfl
  have f2 : Fr (fun k => k = gb) w (w.setCell ⟨gb, a, none⟩ (.int .i64 ((s.1.length : Int) + 1))) := (Fr.refl (fun k => k = gb) w).set gb _ _ rfl
  have hk : ∀ k cs e mm, w.heap[k]? = some (Obj.cells cs e mm) → e ≠ 3 → (w.setCell ⟨gb, a, none⟩ (.int .i64 ((s.1.length : Int) + 1))).heap[k]? = w.heap[k]? := fun k cs e mm hk h1 => f2.block k (lt_of_some hk) (fun d => by
    have d : k = gb := d
    rw [d, hcur] at hk
    simp at hk
    exact h1 hk.2.1.symm)
  have kw : Kw w0.heap.size w (w.setCell ⟨gb, a, none⟩ (.int .i64 ((s.1.length : Int) + 1))) := Kw.fr f2 (fun k d => by
    have d : k = gb := d
    refine ⟨by rw [d]; exact (row_lt h.mr gb rfl).1, fun cs e mm hc => ?_⟩
    rw [d, hcur] at hc
    simp at hc
    exact Or.inr (Or.inr (Or.inl hc.2.1.symm)))
  refine ⟨⟨h.bel.trans (kw.below h.bel.size), h.lo, (hk _ _ _ _ h.fc (by decide)).trans h.fc, (hk _ _ _ _ h.mc (by decide)).trans h.mc, (hk _ _ _ _ h.vc (by decide)).trans h.vc, ?_, row_keep h.nr (fun k e1 => by
    obtain ⟨cs, hc⟩ := row_type h.nr k e1
    exact hk k _ _ _ hc (by decide)), h.nd, fun x hx => (h.fl x hx).kw kw⟩, kw⟩
  have := row_put h.mr a (.int .i64 ((s.1.length : Int) + 1))
  rw [numL_snoc ha hs, List.map_set]
  exact this
theorem Wt.noded (h : Wt nn w0 w mb bb vb fb s va vn vr m) (k0 : Int) {w1 : World} {vn1 : Value} (f : Fr (fun k => some k = vn.ownBlock) w w1) (hr : w1.ownsRow w0.heap.size 44 2 vn1 (m ++ [(k0, none, 0, [])]).length (nv (m ++ [(k0, none, 0, [])]))) : Wt nn w0 (w1.setCell ⟨vb, 1, none⟩ vn1) mb bb vb fb (s.1, s.2 ++ [(k0, [])]) va vn1 vr (m ++ [(k0, none, 0, [])]) ∧ Kw w0.heap.size w (w1.setCell ⟨vb, 1, none⟩ vn1) := by
  have hty : ∀ k, some k = vn.ownBlock → ∃ cs, w.heap[k]? = some (.cells cs 44 (0, 0)) := fun k e => row_type h.nr k e
  have f2 : Fr (fun k => some k = vn.ownBlock ∨ k = vb) w (w1.setCell ⟨vb, 1, none⟩ vn1) := (f.mono (fun _ d => Or.inl d)).set vb _ _ (Or.inr rfl)
  have hk : ∀ k cs e mm, w.heap[k]? = some (Obj.cells cs e mm) → e ≠ 44 → e ≠ 35 → (w1.setCell ⟨vb, 1, none⟩ vn1).heap[k]? = w.heap[k]? := fun k cs e mm hk h1 h2 => f2.block k (lt_of_some hk) (fun d => by
    rcases d with d | d
    · obtain ⟨cs2, h3⟩ := hty k d
      rw [hk] at h3
      simp at h3
      exact h1 h3.2.1
    · rw [d, h.vc] at hk
      simp at hk
      exact h2 hk.2.1.symm)
  have kw : Kw w0.heap.size w (w1.setCell ⟨vb, 1, none⟩ vn1) := Kw.fr f2 (fun k d => by
    rcases d with d | d
    · refine ⟨(row_lt h.nr k d).1, fun cs e mm hc => ?_⟩
      obtain ⟨cs2, h3⟩ := hty k d
      rw [hc] at h3
      simp at h3
      exact Or.inr (Or.inr (Or.inr h3.2.1))
    · refine ⟨by rw [d]; exact h.lo.2.1, fun cs e mm hc => ?_⟩
      rw [d, h.vc] at hc
      simp at hc
      exact Or.inr (Or.inl hc.2.1.symm))
  have hq : w1.heap[vb]? = some (.cells #[vr, vn] 35 (0, 0)) := (f.block vb (lt_of_some h.vc) (fun e => by
      obtain ⟨cs2, h3⟩ := hty vb e
      rw [h.vc] at h3
      simp at h3)).trans h.vc
  refine ⟨⟨h.bel.trans (kw.below h.bel.size), h.lo, (hk _ _ _ _ h.fc (by decide) (by decide)).trans h.fc, (hk _ _ _ _ h.mc (by decide) (by decide)).trans h.mc, ?_, row_keep h.mr (fun k e1 => by
    obtain ⟨cs, hc⟩ := row_type h.mr k e1
    exact hk k _ _ _ hc (by decide) (by decide)), row_keep hr (fun k e => Below.heap_setCell _ _ _ _ (fun e' => ?_)), ?_, fun x hx => ?_⟩, kw⟩
  · simp only [World.setCell, Array.getElem?_modify, if_true, hq, Option.map_some]
    simp
  · have e' : k = vb := e'
    obtain ⟨cs, hc⟩ := row_type hr k e
    rw [e', hq] at hc
    simp at hc
  · have := h.nd
    simp [nds] at this ⊢
    exact this
  · rcases List.mem_append.1 hx with hx | hx
    · exact (h.fl x hx).kw kw
    · simp at hx
      subst hx
      exact Lv.nil
theorem Wt.filled {g cap len : Nat} (h : Wt nn w0 w mb bb vb fb s va (.slice (some ⟨g, 0, none⟩) len cap) vr m) {i : Nat} {k0 : Int} {v0 : List (Int × Int)} (hi : s.2[i]? = some (k0, v0)) {base c2 : Nat} {a2 : Option Addr} {vs : List (Int × Int)}
    (hr : w.ownsRow base 41 2 (.slice a2 vs.length c2) vs.length (ev vs)) :
    Wt nn w0 (w.setCell ⟨g, i * 2 + 1, none⟩ (.slice a2 vs.length c2)) mb bb vb fb (s.1, s.2.set i (k0, vs)) va (.slice (some ⟨g, 0, none⟩) len cap) vr (m.set i (k0, a2, c2, vs)) ∧ Kw w0.heap.size w (w.setCell ⟨g, i * 2 + 1, none⟩ (.slice a2 vs.length c2)) ∧ (∀ k, Fb (m.set i (k0, a2, c2, vs)) k → Fb m k ∨ base ≤ k) := by
  obtain ⟨cur, hcur⟩ := row_type h.nr g rfl
  have hg := (row_lt h.nr g rfl).1
  have f2 : Fr (fun k => k = g) w (w.setCell ⟨g, i * 2 + 1, none⟩ (.slice a2 vs.length c2)) := (Fr.refl _ w).set g _ _ rfl
  have hk : ∀ k cs e mm, w.heap[k]? = some (Obj.cells cs e mm) → e ≠ 44 → (w.setCell ⟨g, i * 2 + 1, none⟩ (.slice a2 vs.length c2)).heap[k]? = w.heap[k]? := fun k cs e mm hk h1 => f2.block k (lt_of_some hk) (fun d => by
    rw [d, hcur] at hk
    simp at hk
    exact h1 hk.2.1.symm)
  have kw : Kw w0.heap.size w (w.setCell ⟨g, i * 2 + 1, none⟩ (.slice a2 vs.length c2)) := Kw.fr f2 (fun k d => by
    refine ⟨by rw [d]; exact hg, fun cs e mm hc => ?_⟩
    rw [d, hcur] at hc
    simp at hc
    exact Or.inr (Or.inr (Or.inr hc.2.1.symm)))
  obtain ⟨x, hx, hxe⟩ : ∃ x : Vnd, m[i]? = some x ∧ (x.1, x.2.2.2) = (k0, v0) := by
    have := hi
    rw [← h.nd, nds, List.getElem?_map] at this
    obtain ⟨x, hx, e⟩ := Option.map_eq_some_iff.1 this
    exact ⟨x, hx, e⟩
  have e1 : x.1 = k0 := congrArg Prod.fst hxe
  have hlen : len = m.length := by
    rcases h.nr.2 with ⟨hv, _⟩ | ⟨g', cap', cur', hv, _⟩
    · simp at hv
    · simp at hv
      exact hv.2.1
  refine ⟨⟨h.bel.trans (kw.below h.bel.size), h.lo, (hk _ _ _ _ h.fc (by decide)).trans h.fc, (hk _ _ _ _ h.mc (by decide)).trans h.mc, (hk _ _ _ _ h.vc (by decide)).trans h.vc, row_keep h.mr (fun k e => by
    obtain ⟨cs, hc⟩ := row_type h.mr k e
    exact hk k _ _ _ hc (by decide)), ?_, ?_, fun y hy => ?_⟩, kw, fun k hk' => ?_⟩
  · rw [List.length_set, ← e1, nv_set m i x a2 c2 vs hx]
    have := h.nr
    rw [← hlen] at this ⊢
    exact row_put this _ _
  · rw [nds, List.map_set]
    show ((nds m).set i (k0, vs)) = _
    rw [h.nd]
  · rcases List.mem_or_eq_of_mem_set hy with hy | hy
    · exact (h.fl y hy).kw kw
    · subst hy
      exact (Lv.of hr).kw kw
  · obtain ⟨y, hy, hl, o, e⟩ := hk'
    rcases List.mem_or_eq_of_mem_set hy with hy | hy
    · exact Or.inl ⟨y, hy, hl, o, e⟩
    · subst hy
      have e : a2 = some ⟨k, o, none⟩ := e
      exact Or.inr (row_lt hr k (by rw [e]; rfl)).1
end

end Go.Proofs.Ytjhnhbeimjnloaa

/- A walk: what a node shows, and where a walk begins: contracts. -/
namespace Go.Proofs.Ytjhnhbeimjnloaa
open Go.RowKit W Kp Stl

section
variable {w : World} {pw p q N O y g : Nat} {ws : List Int} {sd : Nat} {v0 : Value} {a1 : Option Addr} {k1 : Nat} {Q : List En}

end

end Go.Proofs.Ytjhnhbeimjnloaa

/- A walk: number, value, values over whatever meets: contracts. -/
namespace Go.Proofs.Ytjhnhbeimjnloaa
open Go.RowKit W Kp Stl

section
variable {w0 w w' : World} {kb mq pw : Nat} {T : List Int} {s : Vst} {vn : Value} {m : List Vnd}
end

theorem infoVal : (Try.prog.info? 41).map (fun i => (i.zero, i.size, i.bytes)) = some (some (.agg #[.int .i64 0, .int .i64 0]), 2, 16) := by kernel_rfl

section
variable {w0 w : World} {kb mq pw n : Nat} {T : List Int} {kd : Int → Int} {sh : Int → List Int} {M : Vst → Int → Vst} {s : Vst} {vn : Value} {m : List Vnd}

end

end Go.Proofs.Ytjhnhbeimjnloaa

/- A walk: values over whatever meets: a contract. -/
namespace Go.Proofs.Ytjhnhbeimjnloaa
open Go.RowKit W Kp Stl

section
variable {w0 w : World} {kb mq pw n : Nat} {T : List Int} {kd : Int → Int} {sh : Int → List Int} {M : Vst → Int → Vst} {s : Vst} {vn : Value} {m : List Vnd}

end

end Go.Proofs.Ytjhnhbeimjnloaa

/- A walk: a thing is met: a contract. -/
namespace Go.Proofs.Ytjhnhbeimjnloaa
open Go.RowKit W Kp Stl

theorem infoNode : (Try.prog.info? 44).map (fun i => (i.zero, i.size, i.bytes)) = some (some (.agg #[.int .i64 0, .slice none 0 0]), 2, 32) := by kernel_rfl

section
variable {w0 w w' w'' : World} {kb mq pw n : Nat} {T : List Int} {s : Vst} {vn : Value} {m : List Vnd}

end

section
variable {w0 : World} {kb mq pw p q N O y g : Nat} {ws : List Int} {sd : Nat} {v0 : Value} {a1 : Option Addr} {k1 : Nat} {Q : List En} {T : List Int}

end

end Go.Proofs.Ytjhnhbeimjnloaa

/- A map of numbers, whatever it holds; a range over it. -/
namespace Go.Proofs.Ytjhnhbeimjnloaa
open Go.RowKit W Kp Stl

def hld (v : Value) : Option (DataW Value × List MemPlace) := some (.held v, [])
theorem lawL : Maps.Keyed Try.prog 2 := Maps.int_keyed Try.underlying2
theorem keyL {a : Int} (h0 : 0 ≤ a) (h1 : a < 1152921504606846976) : keyOf Try.prog 2 (.int .i64 a) = some (.int .i64 a) := Maps.keyOf_int_mk Try.underlying2 (WalkArith.wf_i64 ⟨by omega, by omega⟩)
def Dm (D : DataW Value) (f : Int → Option Value) : Prop := ∀ x : Int, Maps.has D (.int .i64 x) = (f x).isSome ∧ ∀ v, f x = some v → ∀ z, D.atKey (.int .i64 x) z = .held v
def Mh (w : World) (b n : Nat) (f : Int → Option Value) : Prop := ∃ D, w.ownsMap Try.prog 2 hld b n D ∧ Dm D f
def upm (f : Int → Option Value) (x : Int) (v : Value) : Int → Option Value := fun y => if y = x then some v else f y
def Rgm (w : World) (b r n : Nat) (f : Int → Option Value) (left : Int → Bool) (c : Nat) : Prop := ∃ D L, w.ranges Try.prog 2 hld b r n D L c ∧ Dm D f ∧ ∀ x : Int, L (.int .i64 x) = left x

section
variable {w w' : World} {b r n c : Nat} {f : Int → Option Value} {t e : TypeId} {left : Int → Bool}

theorem Mh.made (w : World) : Mh (w.alloc (.map #[] 0)) w.heap.size 0 (fun _ => none) := ⟨_, World.ownsMap_made w Try.prog 2 hld, fun _ => ⟨rfl, fun _ h => by cases h⟩⟩
theorem Mh.lt (h : Mh w b n f) : b < w.heap.size := let ⟨_, h, _⟩ := h; h.lt
theorem Mh.same (h : Mh w b n f) (e : w'.heap[b]? = w.heap[b]?) : Mh w' b n f := by
  obtain ⟨D, ⟨es, clock, hb, r⟩, hD⟩ := h
  exact ⟨D, ⟨es, clock, e.trans hb, r⟩, hD⟩
theorem Mh.blk (h : Mh w b n f) : ∃ es k, w.heap[b]? = some (.map es k) := let ⟨_, ⟨es, k, hb, _⟩, _⟩ := h; ⟨es, k, hb⟩
theorem Mh.put (h : Mh w b n f) (ht : Try.prog.underlying t = some (.map 2 e)) (hn : n < 100000) {x : Int} (h0 : 0 ≤ x) (h1 : x < 1152921504606846976) (v : Value) :
    ∃ w', (Instr.mapUpdate t (.map (some b)) (.int .i64 x) v).run Try.prog w = .ok () w' ∧ Mh w' b (n + 1) (upm f x v) ∧ w.grownBy w' (some b) := by
  obtain ⟨D, h, hD⟩ := h
  obtain ⟨w', r1, r2, r3⟩ := h.update (d := .held v) (ps := []) lawL ht (by unfold maxLen; omega) (keyL h0 h1) (val := v) rfl
  refine ⟨w', r1, ⟨_, r2, fun y => ?_⟩, r3⟩
  unfold upm
  by_cases ey : y = x
  · subst ey
    rw [if_pos rfl]
    exact ⟨Maps.has_put_same (k := .int .i64 y) h.isMap trivial _, fun u hu z => by cases hu; exact Maps.atKey_put_same (k := .int .i64 y) h.isMap trivial _ _⟩
  · rw [if_neg ey, Maps.has_put_other (by simpa using ey)]
    exact ⟨(hD y).1, fun u hu z => by rw [Maps.atKey_put_other (by simpa using ey)]; exact (hD y).2 u hu z⟩
theorem Dm.val {D : DataW Value} (hD : Dm D f) {x : Int} {z v : Value} {ps : List MemPlace} (h : hld v = some (D.atKey (.int .i64 x) (.held z), ps)) : v = (f x).getD z := by
  have h2 : (DataW.held v : DataW Value) = D.atKey (.int .i64 x) (.held z) := (Prod.mk.inj (Option.some.inj h)).1
  cases hf : f x with
  | none =>
    rw [Maps.atKey_of_not_has (by rw [(hD x).1, hf]; rfl)] at h2
    exact DataW.held.inj h2
  | some u =>
    rw [(hD x).2 u hf] at h2
    exact DataW.held.inj h2
theorem Mh.look (h : Mh w b n f) (ht : Try.prog.underlying t = some (.map 2 e)) {z : Value} (hz : (zeroValue e).run Try.prog w = .ok z w) {x : Int} (h0 : 0 ≤ x) (h1 : x < 1152921504606846976) :
    (Instr.lookup t (.map (some b)) (.int .i64 x) false).run Try.prog w = .ok ((f x).getD z) w := by
  obtain ⟨D, h, hD⟩ := h
  obtain ⟨v, ps, r1, r2⟩ := h.lookup (zd := .held z) (zp := []) lawL ht hz rfl (keyL h0 h1)
  rw [r1, hD.val r2]
theorem Mh.look_ok (h : Mh w b n f) (ht : Try.prog.underlying t = some (.map 2 e)) {z : Value} (hz : (zeroValue e).run Try.prog w = .ok z w) {x : Int} (h0 : 0 ≤ x) (h1 : x < 1152921504606846976) :
    (Instr.lookup t (.map (some b)) (.int .i64 x) true).run Try.prog w = .ok (.tuple #[(f x).getD z, .bool (f x).isSome]) w := by
  obtain ⟨D, h, hD⟩ := h
  obtain ⟨v, ps, r1, r2⟩ := h.look_ok (zd := .held z) (zp := []) lawL ht hz rfl (keyL h0 h1)
  rw [r1, hD.val r2, (hD x).1]
theorem Rgm.mh (h : Rgm w b r n f left c) : Mh w b n f := let ⟨D, _, h, d, _⟩ := h; ⟨D, h.owns, d⟩
theorem Rgm.left_eq (h : Rgm w b r n f left c) : w.rangeLeft b r = c := let ⟨_, _, h, _⟩ := h; h.left_eq
theorem Rgm.lt (h : Rgm w b r n f left c) : r < w.heap.size := let ⟨_, _, h, _⟩ := h; h.lt
theorem Rgm.same (h : Rgm w b r n f left c) (hb : w'.heap[b]? = w.heap[b]?) (hr : w'.heap[r]? = w.heap[r]?) : Rgm w' b r n f left c := by
  obtain ⟨D, L, ⟨es, clock, since, seen, c0, h1, h2, h3, h4, h5, h6⟩, q⟩ := h
  exact ⟨D, L, ⟨es, clock, since, seen, c0, hb.trans h1, h2, h3, h4, hr.trans h5, h6⟩, q⟩
theorem Mh.range (h : Mh w b n f) (ht : Try.prog.underlying t = some (.map 2 e)) :
    ∃ w' c, (Instr.range t (.map (some b))).run Try.prog w = .ok (.pointer (some ⟨w.heap.size, 0, none⟩)) w' ∧ Rgm w' b w.heap.size n f (fun x => (f x).isSome) c ∧ w.grownBy w' none ∧ w'.heap.size = w.heap.size + 1 := by
  obtain ⟨D, h, hD⟩ := h
  obtain ⟨w', r1, r2, r3, r4⟩ := h.range lawL ht
  exact ⟨w', _, r1, ⟨D, _, r2, hD, fun x => (hD x).1⟩, r3, r4⟩
theorem Rgm.next (h : Rgm w b r n f left c) (ty : TypeId) : (c = 0 ∧ (∀ x, left x = false) ∧ (Instr.next (.pointer (some ⟨r, 0, none⟩)) false ty).run Try.prog w = .ok (.tuple #[.bool false]) w) ∨
    ∃ x v w' c', left x = true ∧ f x = some v ∧ (Instr.next (.pointer (some ⟨r, 0, none⟩)) false ty).run Try.prog w = .ok (.tuple #[.bool true, .int .i64 x, v]) w' ∧
      Rgm w' b r n f (fun y => left y && !(y == x)) c' ∧ c' < c ∧ w.grownBy w' (some r) ∧ w'.heap.size = w.heap.size ∧ (Instr.entry (.pointer (some ⟨r, 0, none⟩))).run Try.prog w' = .ok (.tuple #[.int .i64 x, v]) w' := by
  obtain ⟨D, L, h, hD, hL⟩ := h
  rcases h.next lawL ty with ⟨h0, hl, hrun⟩ | ⟨key, v, kl, y, w', c', hkey, hlk, hv, hat, hrun, hrg, hlt, hgr, hsz, hen⟩
  · exact Or.inl ⟨h0, fun x => (hL x).symm.trans (hl _), hrun⟩
  · obtain ⟨x, rfl, rfl, hwx⟩ := Maps.keyOf_int_inv Try.underlying2 hkey
    have hy : y.1 = .held v := by cases hv; rfl
    have hx : f x = some v := by
      cases hf : f x with
      | none =>
        have h1 := hat (.lit (.int .i64 0))
        rw [Maps.atKey_of_not_has (by rw [(hD x).1, hf]; rfl), hy] at h1
        cases h1
      | some u =>
        have h1 := hat (.lit (.int .i64 0))
        rw [(hD x).2 u hf, hy] at h1
        rw [DataW.held.inj h1]
    refine Or.inr ⟨x, v, w', c', (hL x).symm.trans hlk, hx, hrun, ⟨D, _, hrg, hD, fun z => ?_⟩, hlt, hgr, hsz, hen⟩
    show (L (.int .i64 z) && !(Lit.int .i64 z).sameKey (.int .i64 x)) = _
    rw [hL z, show (Lit.int .i64 z).sameKey (.int .i64 x) = (z == x) from (by show decide _ = _; rw [Bool.eq_iff_iff]; simp)]
end

end Go.Proofs.Ytjhnhbeimjnloaa

/- Library functions over lists of entries: Grow, Concat, IndexFunc: contracts. -/
namespace Go.Proofs.Ytjhnhbeimjnloaa
open Go.RowKit W Kp Stl

theorem zeros_len (z : Value) (n : Nat) (hz : z.cells.size = 2) : (Builtin.zeroCells z.cells n).size = n * 2 := by rw [size_zeroCells, hz]

set_option maxRecDepth 100000 in
set_option maxHeartbeats 400000 in
theorem grow_any (w : World) (n : Nat) (hn : n ≤ 100000) :
    Calls Try.prog 100 #[.slice none 0 0, .int .i64 n] w fun e w' => ∃ a1 c1, e = .returned (.slice a1 0 c1) ∧ w'.ownsRow w.heap.size 96 2 (.slice a1 0 c1) 0 [] ∧ Below w.heap.size w w' := by
  obtain ⟨i0, hi, hz0, hz1, hz2⟩ := info_parts infoEn
  rcases Nat.eq_zero_or_pos n with h0 | h0
  · subst h0
    go_enter Try.func100, Try.ntmps100
    go_wp2_with fail
    go_ret
    exact ⟨none, 0, rfl, World.ownsRow_nil _ _ _ _, Below.refl _ _⟩
  · have hr := Lib.run_append_nil_zeros (P := Try.prog) w 61 3 61 96 i0 (.agg #[.int .i64 0, .int .i64 0]) .i64 .i64 Try.underlying61 Try.underlying3 hi hz0 n h0 (by rw [hz1]; decide) (by omega) (by rw [hz2]; omega)
    have hge := grownCap_ge w n 0 96
    have hcm : grownCap w n 0 96 ≤ maxLen := grownCap_le_maxLen w n 0 96 (by unfold maxLen; omega)
    generalize grownCap w n 0 96 = g at hr hge hcm
    have hown : (w.drew.alloc (.cells (Builtin.zeroCells (Value.agg #[.int .i64 0, .int .i64 0]).cells n ++ Builtin.zeroCells (Value.agg #[.int .i64 0, .int .i64 0]).cells (g - n)) 96)).ownsRow w.heap.size 96 2 (.slice (some ⟨w.heap.size, 0, none⟩) 0 g) 0 [] :=
      World.ownsRow_made w.drew _ g (Nat.le_refl _) hcm (by rw [Array.size_append, zeros_len _ _ rfl, zeros_len _ _ rfl]; omega)
    have hb : Below w.heap.size w (w.drew.alloc (.cells (Builtin.zeroCells (Value.agg #[.int .i64 0, .int .i64 0]).cells n ++ Builtin.zeroCells (Value.agg #[.int .i64 0, .int .i64 0]).cells (g - n)) 96)) := (Below.refl _ w).drew.alloc (Nat.le_refl _) _
    generalize w.drew.alloc (.cells (Builtin.zeroCells (Value.agg #[.int .i64 0, .int .i64 0]).cells n ++ Builtin.zeroCells (Value.agg #[.int .i64 0, .int .i64 0]).cells (g - n)) 96) = w1 at hr hown hb
    go_enter Try.func100, Try.ntmps100
    go_wp2_with (at_builtin; refine Lib.wpList_append_run _ rfl _ _ _ _ rfl _ _ rfl rfl _ _ hr ?_)
    go_wp2_with fail
    go_ret
    exact ⟨_, _, rfl, hown, hb⟩

set_option maxRecDepth 100000 in
set_option maxHeartbeats 400000 in
theorem index_any (D : En → Prop) (f : Nat) (b c : Array Value) (p : En → Bool) (hf : Ent f) (w : World)
    (hl : ∀ (w' : World) (e : En), D e → w.heap.size ≤ w'.heap.size → (∀ k, k < w.heap.size → w'.heap[k]? = w.heap[k]?) → Calls Try.prog f (b.push (en e) ++ c) w' fun r w'' => r = .returned (.bool (p e)) ∧ Below w'.heap.size w' w'')
    (l : List En) (ad : Option Addr) (cap : Nat) (hD : ∀ e ∈ l, D e) (hm : l.length ≤ 100000) (hp : Lp w ad l) :
    Calls Try.prog 85 #[.slice ad l.length cap, .func (.func f) b c] w fun r w' => Below w.heap.size w w' ∧ ((r = .returned (.int .i64 (-1)) ∧ ∀ e ∈ l, p e = false) ∨ ∃ i : Nat, r = .returned (.int .i64 i) ∧ i < l.length ∧ p (l.getD i (0, 0)) = true ∧ ∀ e ∈ l.take i, p e = false) := by
  have HL : Hid (∀ (w' : World) (e : En), D e → w.heap.size ≤ w'.heap.size → (∀ k, k < w.heap.size → w'.heap[k]? = w.heap[k]?) → Calls Try.prog f (b.push (en e) ++ c) w' fun r w'' => r = .returned (.bool (p e)) ∧ Below w'.heap.size w' w'') := hl
  have HP : Hid (Lp w ad l) := hp
  have HD : Hid (∀ e ∈ l, D e) := hD
  have hcf : ∀ (args : Array Value) (w : World), (callFunc f args).run Try.prog w = .ok (.enter f args) w := hf
  clear hl hp hf hD
  go_enter Try.func85, Try.ntmps85
  go_wp2_with fail
  go_loopw [8] (fun iv wr => ∃ j : Nat, j ≤ l.length ∧ iv = .int .i64 j ∧ Hid (∀ e ∈ l.take j, p e = false) ∧ Below w.heap.size w wr) (fun iv _ => l.length - (intOf iv).toNat)
  case atStart => exact ⟨0, Nat.zero_le _, rfl, by simp [Hid], Below.refl _ _⟩
  case round =>
    obtain ⟨j, hj, rfl, HE, hb⟩ := hrel
    by_cases hlt : j < l.length
    · obtain ⟨b0, o0, e0, hb0, hc⟩ := HP.out.below hb (by omega)
      obtain ⟨x1, x2⟩ := hc j hlt
      have HG : Hid (l.getD j (0, 0) = ((l.getD j (0, 0)).1, (l.getD j (0, 0)).2)) := rfl
      have hd : D (l.getD j (0, 0)) := HD.out _ (by rw [List.getD_eq_getElem?_getD, List.getElem?_eq_getElem hlt]; exact List.getElem_mem hlt)
      have hd : D ((l.getD j (0, 0)).1, (l.getD j (0, 0)).2) := hd
      obtain ⟨g, hg⟩ : ∃ g, g = (l.getD j (0, 0)).1 := ⟨_, rfl⟩
      obtain ⟨z, hz⟩ : ∃ z, z = (l.getD j (0, 0)).2 := ⟨_, rfl⟩
      rw [← hg] at x1 hd HG
      rw [← hz] at x2 hd HG
      clear hc hg hz
      subst e0
      go_wp2_with fail
      refine (HL.out wr (g, z) hd hb.size hb.block).mono ?_
      rintro r w1 ⟨rfl, hb1⟩
      have hb2 := hb.trans (hb1.mono hb.size)
      clear hb hb1
      cases hp : p (g, z)
      · have HE' : Hid (∀ e ∈ l.take (j + 1), p e = false) := fun e he => by
          rw [take_snoc l j hlt (0, 0), List.mem_append, List.mem_singleton] at he
          rcases he with he | he
          · exact HE.out e he
          · rw [he, HG.out]; exact hp
        clear hp
        go_wp2_with fail
        go_roundw
        case rel => exact ⟨j + 1, by omega, by go_num, HE', hb2⟩
        case measure => simp [intOf]; omega
      · have HPt : Hid (p (l.getD j (0, 0)) = true) := by show _ = _; rw [HG.out]; exact hp
        clear hp
        go_wp2_with fail
        go_ret
        exact ⟨hb2, Or.inr ⟨j, rfl, hlt, HPt.out, HE.out⟩⟩
    · obtain rfl : j = l.length := by omega
      rw [List.take_length] at HE
      go_wp2_with fail
      go_ret
      exact ⟨hb, Or.inl ⟨rfl, HE.out⟩⟩

end Go.Proofs.Ytjhnhbeimjnloaa

/- Concat of two lists of entries: a contract. -/
namespace Go.Proofs.Ytjhnhbeimjnloaa
open Go.RowKit W Kp Stl

set_option maxRecDepth 100000 in
set_option maxHeartbeats 1000000 in
theorem concat_any (w : World) (B : Nat) (l1 l2 : List En) (z1 z2 : Addr) (c1 c2 : Nat) (x0 : w.cell? ⟨B, 0, none⟩ = some (.slice (some z1) l1.length c1)) (x1 : w.cell? ⟨B, 1, none⟩ = some (.slice (some z2) l2.length c2)) (h1 : Lp w (some z1) l1) (h2 : Lp w (some z2) l2) (hm : l1.length + l2.length ≤ 100000) :
    Calls Try.prog 87 #[.slice (some ⟨B, 0, none⟩) 2 2] w fun e w' => ∃ a c, e = .returned (.slice a (l1.length + l2.length) c) ∧ w'.ownsRow w.heap.size 96 2 (.slice a (l1.length + l2.length) c) (l1.length + l2.length) (ev (l1 ++ l2)) ∧ Below w.heap.size w w' := by
  obtain ⟨i0, hi, hz0, hz1, hz2⟩ := info_parts infoEn
  have H1 : Hid (Lp w (some z1) l1) := h1
  have H2 : Hid (Lp w (some z2) l2) := h2
  have hB := World.block_lt_of_cell? w _ x0
  clear h1 h2
  go_enter Try.func87, Try.ntmps87
  go_wp2_with fail
  go_loopw [3, 11] (fun sv iv wr => wr = w ∧ ((iv = .int .i64 0 ∧ sv = .int .i64 0) ∨ (iv = .int .i64 1 ∧ sv = .int .i64 l1.length) ∨ (iv = .int .i64 2 ∧ sv = .int .i64 (l1.length + l2.length : Nat)))) (fun _ iv _ => 2 - (intOf iv).toNat)
  case atStart => exact ⟨rfl, Or.inl ⟨rfl, rfl⟩⟩
  case round =>
    obtain ⟨hw, ⟨rfl, rfl⟩ | ⟨rfl, rfl⟩ | ⟨rfl, rfl⟩⟩ := hrel
    all_goals
      have hw := hw.symm
      subst hw
    · go_wp2_with fail
      go_roundw
      case rel => exact ⟨trivial, Or.inr (Or.inl ⟨by go_num, by go_num⟩)⟩
      case measure => simp [intOf]
    · go_wp2_with fail
      go_roundw
      case rel => exact ⟨trivial, Or.inr (Or.inr ⟨by go_num, by go_num⟩)⟩
      case measure => simp [intOf]
    · go_wp2_with fail
      refine (grow_any w (l1.length + l2.length) hm).mono ?_
      rintro e w1 ⟨a1, d1, rfl, hown, hb⟩
      go_wp2_with fail
      go_loopw [6, 27] (fun vv iv wk => Below w.heap.size w wk ∧ ((∃ a c, iv = .int .i64 0 ∧ vv = .slice a 0 c ∧ wk.ownsRow w.heap.size 96 2 (.slice a 0 c) 0 []) ∨ (∃ a c, iv = .int .i64 1 ∧ vv = .slice a l1.length c ∧ wk.ownsRow w.heap.size 96 2 (.slice a l1.length c) l1.length (ev l1)) ∨ (∃ a c, iv = .int .i64 2 ∧ vv = .slice a (l1.length + l2.length) c ∧ wk.ownsRow w.heap.size 96 2 (.slice a (l1.length + l2.length) c) (l1.length + l2.length) (ev (l1 ++ l2))))) (fun _ iv _ => 2 - (intOf iv).toNat)
      case atStart => exact ⟨hb, Or.inl ⟨a1, d1, rfl, rfl, hown⟩⟩
      case round =>
        clear hown hb
        obtain ⟨hb, ⟨a, c, rfl, rfl, hown⟩ | ⟨a, c, rfl, rfl, hown⟩ | ⟨a, c, rfl, rfl, hown⟩⟩ := hrel
        · have y0 := (hb.cell (p := ⟨B, 0, none⟩) hB).trans x0
          have hs := hb.size
          go_wp2_with (at_builtin; refine wpList_append_own _ rfl _ _ 61 rfl w.heap.size 96 i0 (.agg #[.int .i64 0, .int .i64 0]) 2 16 Try.underlying61 hi hz0 hz1 hz2 rfl (by decide) (.slice a 0 c) 0 [] rfl hown z1 l1.length c1 (ev l1) rfl (ev_length l1) ((H1.out.below hb).cells z1 rfl) (ev_one l1) ?_ ?_ hs ?_; (unfold maxLen; omega); omega; intro v w2 hown2 hgrow2 _; rw [Nat.zero_add, List.nil_append] at hown2; obtain ⟨a2, d2, e2⟩ := row_slice hown2; subst e2)
          have hb2 := hb.grown hgrow2 hs (fun k e => (row_lt hown k e.symm).1)
          clear hb hgrow2
          go_wp2_with fail
          go_roundw
          case rel => exact ⟨hb2, Or.inr (Or.inl ⟨a2, d2, by go_num, rfl, hown2⟩)⟩
          case measure => simp [intOf]
        · have y0 := (hb.cell (p := ⟨B, 1, none⟩) hB).trans x1
          have hs := hb.size
          go_wp2_with (at_builtin; refine wpList_append_own _ rfl _ _ 61 rfl w.heap.size 96 i0 (.agg #[.int .i64 0, .int .i64 0]) 2 16 Try.underlying61 hi hz0 hz1 hz2 rfl (by decide) (.slice a l1.length c) l1.length (ev l1) rfl hown z2 l2.length c2 (ev l2) rfl (ev_length l2) ((H2.out.below hb).cells z2 rfl) (ev_one l2) ?_ ?_ hs ?_; (unfold maxLen; omega); omega; intro v w2 hown2 hgrow2 _; rw [← ev_append] at hown2; obtain ⟨a2, d2, e2⟩ := row_slice hown2; subst e2)
          have hb2 := hb.grown hgrow2 hs (fun k e => (row_lt hown k e.symm).1)
          clear hb hgrow2
          go_wp2_with fail
          go_roundw
          case rel => exact ⟨hb2, Or.inr (Or.inr ⟨a2, d2, by go_num, rfl, hown2⟩)⟩
          case measure => simp [intOf]
        · go_wp2_with fail
          go_ret
          exact ⟨a, c, rfl, hown, hb⟩

end Go.Proofs.Ytjhnhbeimjnloaa

/- Full, Reg, Copy of a Side: contracts. -/
namespace Go.Proofs.Ytjhnhbeimjnloaa
open Go.RowKit W Kp Stl

structure Sds (w : World) (p : Nat) (a0 : Option Addr) (k0 : Nat) (a1 : Option Addr) (k1 : Nat) (r q : List En) : Prop where
  blk : w.heap[p]? = some (.cells #[.slice a0 r.length k0, .slice a1 q.length k1] 63 (0, 0))
  r0 : w.ownsRow 0 96 2 (.slice a0 r.length k0) r.length (ev r)
  q0 : w.ownsRow 0 96 2 (.slice a1 q.length k1) q.length (ev q)

theorem row_li {w : World} {base : Nat} {e : TypeId} {ad : Option Addr} {cap : Nat} {l : List En} (h : w.ownsRow base e 2 (.slice ad l.length cap) l.length (ev l)) : Li w ad l cap := by
  refine ⟨row_pairs h, ?_, ?_⟩
  · rcases h.2 with ⟨hv, h0⟩ | ⟨g, cap', cur, hv, _, _, hc, _⟩
    · omega
    · simp at hv; omega
  · intro e0
    rcases h.2 with ⟨hv, h0⟩ | ⟨g, cap', cur, hv, _⟩
    · simp at hv; exact ⟨h0, hv.2.2⟩
    · rw [e0] at hv; simp at hv

theorem Sds.keep {w w' : World} {p : Nat} {a0 a1 : Option Addr} {k0 k1 : Nat} {r q : List En} (h : Sds w p a0 k0 a1 k1 r q) (h1 : w'.heap[p]? = w.heap[p]?) (h2 : ∀ k, some k = (Value.slice a0 r.length k0).ownBlock → w'.heap[k]? = w.heap[k]?) (h3 : ∀ k, some k = (Value.slice a1 q.length k1).ownBlock → w'.heap[k]? = w.heap[k]?) : Sds w' p a0 k0 a1 k1 r q :=
  ⟨h1.trans h.blk, row_keep h.r0 h2, row_keep h.q0 h3⟩
theorem Sds.below {w w' : World} {p : Nat} {a0 a1 : Option Addr} {k0 k1 : Nat} {r q : List En} (h : Sds w p a0 k0 a1 k1 r q) (hb : Below w.heap.size w w') : Sds w' p a0 k0 a1 k1 r q :=
  h.keep (hb.block p (lt_of_some h.blk)) (fun k e => hb.block k (row_lt h.r0 k e).2) (fun k e => hb.block k (row_lt h.q0 k e).2)
theorem Sds.np {w : World} {p : Nat} {a0 a1 : Option Addr} {k0 k1 : Nat} {r q : List En} (h : Sds w p a0 k0 a1 k1 r q) {b n : Nat} {v : Value} {l : List Value} (hr : w.ownsRow b 96 2 v n l) : ∀ k, some k = v.ownBlock → k ≠ p := by
  intro k e e'
  obtain ⟨cur, hc⟩ := row_type hr k e
  rw [e', h.blk] at hc
  simp at hc

def fulB (n : Nat) : Bool := decide (24 ≤ n)
theorem fulB_yes {n : Nat} (h : 24 ≤ n) : fulB n = true := by simp [fulB, h]
theorem fulB_no {n : Nat} (h : ¬ 24 ≤ n) : fulB n = false := by simp [fulB, h]

theorem ful_eq {n0 n1 : Nat} (h0 : n0 ≤ 100000) (h1 : n1 ≤ 100000) : Hid (decide ((24 : Int) ≤ IntKind.i64.wrap ((n0 : Int) + (n1 : Int))) = fulB (n0 + n1)) := by
  show _ = _
  rw [show IntKind.i64.wrap ((n0 : Int) + (n1 : Int)) = (n0 : Int) + n1 by rw [IntKind.wrap_i64]; omega]
  unfold fulB
  by_cases h : 24 ≤ n0 + n1
  · rw [decide_eq_true h, decide_eq_true (by omega)]
  · rw [decide_eq_false h, decide_eq_false (by omega)]

set_option maxRecDepth 100000 in
set_option maxHeartbeats 400000 in
theorem full_any' (w : World) (p : Nat) (a0 a1 : Option Addr) (n0 k0 n1 k1 : Nat) (h : w.heap[p]? = some (.cells #[.slice a0 n0 k0, .slice a1 n1 k1] 63 (0, 0))) (h0 : n0 ≤ 100000) (h1 : n1 ≤ 100000) :
    Calls Try.prog 60 #[.pointer (some ⟨p, 0, none⟩)] w fun e w' => e = .returned (.bool (fulB (n0 + n1))) ∧ Below w.heap.size w w' := by
  have c0 : w.cell? ⟨p, 0, none⟩ = some (.slice a0 n0 k0) := by simp [World.cell?, h]
  have c1 : w.cell? ⟨p, 1, none⟩ = some (.slice a1 n1 k1) := by simp [World.cell?, h]
  clear h
  have HE := ful_eq h0 h1
  go_enter Try.func60, Try.ntmps60
  go_wp2_with fail
  go_region_held3 (fun w' => w'.cell? ⟨p, 0, none⟩ = some (.slice a0 n0 k0) ∧ w'.cell? ⟨p, 1, none⟩ = some (.slice a1 n1 k1)) (go_keep) (fail)
  go_wp2_with fail
  go_ret
  exact ⟨by rw [← HE.out]; rfl, (Below.refl _ _).drew⟩

theorem Sds.cells {w : World} {p : Nat} {a0 a1 : Option Addr} {k0 k1 : Nat} {r q : List En} (h : Sds w p a0 k0 a1 k1 r q) : w.cell? ⟨p, 0, none⟩ = some (.slice a0 r.length k0) ∧ w.cell? ⟨p, 1, none⟩ = some (.slice a1 q.length k1) ∧ w.frozen? ⟨p, 0, none⟩ = false ∧ w.frozen? ⟨p, 1, none⟩ = false ∧ p < w.heap.size :=
  ⟨by simp [World.cell?, h.blk], by simp [World.cell?, h.blk], by simp [World.frozen?, h.blk], by simp [World.frozen?, h.blk], lt_of_some h.blk⟩

theorem set_fst {w : World} {p : Nat} {x y v : Value} {T : TypeId} (h : w.heap[p]? = some (.cells #[x, y] T (0, 0))) : (w.setCell ⟨p, 0, none⟩ v).heap[p]? = some (.cells #[v, y] T (0, 0)) := by
  simp only [World.setCell, Array.getElem?_modify, if_true, h, Option.map_some]
  simp
theorem set_snd {w : World} {p : Nat} {x y v : Value} {T : TypeId} (h : w.heap[p]? = some (.cells #[x, y] T (0, 0))) : (w.setCell ⟨p, 1, none⟩ v).heap[p]? = some (.cells #[x, v] T (0, 0)) := by
  simp only [World.setCell, Array.getElem?_modify, if_true, h, Option.map_some]
  simp

set_option maxRecDepth 100000 in
set_option maxHeartbeats 1000000 in
theorem reg_any (w : World) (p : Nat) (a0 a1 : Option Addr) (k0 k1 : Nat) (r q : List En) (g z : Int) (h : Sds w p a0 k0 a1 k1 r q) (h0 : r.length ≤ 90000) (h1 : q.length ≤ 90000) :
    Calls Try.prog 41 #[.pointer (some ⟨p, 0, none⟩), .agg #[.int .i64 g, .int .i64 z]] w fun e w' => e = .returned (.bool (!fulB (r.length + q.length))) ∧
      ((24 ≤ r.length + q.length ∧ Below w.heap.size w w') ∨ (¬ 24 ≤ r.length + q.length ∧ ∃ b1 c1, Sds w' p (some ⟨b1, 0, none⟩) c1 a1 k1 (r ++ [(g, z)]) q ∧ w.heap.size ≤ b1 ∧ Fr (fun k => k = p) w w')) := by
  obtain ⟨c0, c1, f0, f1, lp⟩ := h.cells
  have H : Hid (Sds w p a0 k0 a1 k1 r q) := h
  have hb1 := (Below.refl w.heap.size w).alloc (Nat.le_refl _) (.cells #[.int .i64 g, .int .i64 z] 96)
  have HLi : Hid (Li w a0 r k0) := row_li h.r0
  by_cases hf : 24 ≤ r.length + q.length
  · rw [fulB_yes hf]
    clear h
    go_enter Try.func41, Try.ntmps41
    go_wp2_with fail
    refine (full_any' _ p a0 a1 r.length k0 q.length k1 ((hb1.block p lp).trans H.out.blk) (by omega) (by omega)).mono ?_
    rintro e w1 ⟨rfl, hb⟩
    rw [fulB_yes hf]
    have hb2 := hb1.trans (hb.mono (by simp))
    go_wp2_with fail
    go_ret
    exact ⟨rfl, Or.inl ⟨hf, hb2⟩⟩
  · rw [fulB_no hf]
    clear h
    go_enter Try.func41, Try.ntmps41
    go_wp2_with fail
    refine (full_any' _ p a0 a1 r.length k0 q.length k1 ((hb1.block p lp).trans H.out.blk) (by omega) (by omega)).mono ?_
    rintro e w1 ⟨rfl, hb⟩
    rw [fulB_no hf]
    have hb2 := hb1.trans (hb.mono (by simp))
    have hl0 : w.heap.size < w1.heap.size := by have := hb.size; simp at this; omega
    have y0 : w1.cell? ⟨w.heap.size, 0, none⟩ = some (.int .i64 g) := (hb.cell (by simp)).trans (by simp)
    have y1 : w1.cell? ⟨w.heap.size, 1, none⟩ = some (.int .i64 z) := (hb.cell (by simp)).trans (by simp)
    have y2 := (hb2.cell (p := ⟨p, 0, none⟩) lp).trans c0
    have y3 := (hb2.frozen (p := ⟨p, 0, none⟩) lp).trans f0
    have lp1 : p < w1.heap.size := by omega
    have hLi1 := HLi.out.below hb2
    clear hb hb1
    go_wp2_with fail
    go_region_with (go_at_call 61; refine (with_any _ a0 r k0 g z (hLi1.below ((Below.refl _ _).drew)) (by omega)).mono ?_; rintro e w5 ⟨b1, cap1, rfl, hown, hb5⟩; have e4 := (hb5.cell (p := ⟨p, 0, none⟩) lp1).trans y2; have e5 := (hb5.frozen (p := ⟨p, 0, none⟩) lp1).trans y3)
    all_goals
      go_wp2_with fail
      go_ret
      refine ⟨rfl, Or.inr ⟨hf, b1, cap1, ?_⟩⟩
      have hbw : Below w.heap.size w w5 := hb2.drew.trans (hb5.mono (by simp; omega))
      have lb : w1.heap.size ≤ b1 := (row_lt hown b1 rfl).1
      have hS := H.out.below hbw
      have hfr : Fr (fun k => k = p) w (w5.setCell ⟨p, 0, none⟩ (.slice (some ⟨b1, 0, none⟩) (r.length + 1) cap1)) := (Fr.of hbw).set p 0 _ rfl
      have kk : ∀ k, k ≠ p → (w5.setCell ⟨p, 0, none⟩ (.slice (some ⟨b1, 0, none⟩) (r.length + 1) cap1)).heap[k]? = w5.heap[k]? := fun k hk => Below.heap_setCell _ _ _ _ hk
      refine ⟨⟨by simpa using set_fst hS.blk, ?_, row_keep hS.q0 (fun k e => kk k (hS.np hS.q0 k e))⟩, by omega, hfr⟩
      have := row_base (base' := 0) (row_keep (w' := w5.setCell ⟨p, 0, none⟩ (.slice (some ⟨b1, 0, none⟩) (r.length + 1) cap1)) hown (fun k e => kk k (hS.np hown k e))) (fun _ _ => Nat.zero_le _)
      simpa using this

end Go.Proofs.Ytjhnhbeimjnloaa
