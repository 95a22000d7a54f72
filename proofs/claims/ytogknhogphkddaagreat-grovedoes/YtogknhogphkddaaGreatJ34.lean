/- Joined: Vr1, Vr2, Vr3, Vr4. -/
import Derived.Test.YtogknhogphkddaaGreatJ10
import Derived.Test.YtogknhogphkddaaGreatJ33
import Derived.Test.YtogknhogphkddaaGreatJ02
import Derived.Test.YtogknhogphkddaaGreatGr3
import Derived.Test.YtogknhogphkddaaGreatJ16
import Derived.Test.YtogknhogphkddaaGreatJ06
import Derived.Test.YtogknhogphkddaaGreatGr9
/- The document's world: View: a walk in memory, what may turn while it goes. -/
namespace Go.Proofs.YtogknhogphkddaaGreat
open Go.RowKit W Kp Stl

abbrev fnV (mb bb vb fb : Nat) : Value := .func (.func 34) #[] #[.pointer (some ⟨mb, 0, none⟩), .pointer (some ⟨bb, 0, none⟩), .pointer (some ⟨vb, 0, none⟩), .pointer (some ⟨fb, 0, none⟩)]
structure Wv (w0 w : World) (mb bb vb fb : Nat) (s : Vst) (va vn vr : Value) (m : List Vnd) : Prop where
  bel : Below w0.heap.size w0 w
  lo : w0.heap.size ≤ mb ∧ w0.heap.size ≤ vb ∧ w0.heap.size ≤ fb
  fc : w.heap[fb]? = some (.cells #[fnV mb bb vb fb] 86 (0, 0))
  mc : w.heap[mb]? = some (.cells #[va] 68 (0, 0))
  vc : w.heap[vb]? = some (.cells #[vr, vn] 41 (0, 0))
  mr : w.ownsRow w0.heap.size 3 1 va s.1.length (s.1.map (Value.int .i64))
  nr : w.ownsRow w0.heap.size 80 2 vn m.length (nv m)
  nd : nds m = s.2
  fl : ∀ x ∈ m, Lv w x.2.1 x.2.2.2
section
variable {w0 w w' : World} {mb bb vb fb : Nat} {s : Vst} {va vn vr : Value} {m : List Vnd}

theorem Wv.fbk (h : Wv w0 w mb bb vb fb s va vn vr m) (k : Nat) (hk : Fb m k) : k < w.heap.size := by
  obtain ⟨x, hx, hl, o, e⟩ := hk
  obtain ⟨b, o', cs, e', hb⟩ := (h.fl x hx).2 hl
  rw [e] at e'
  cases e'
  exact lt_of_some hb
theorem Wv.len (h : Wv w0 w mb bb vb fb s va vn vr m) : m.length = s.2.length := by rw [← h.nd]; simp [nds]
theorem Wv.cells (h : Wv w0 w mb bb vb fb s va vn vr m) : w.cell? ⟨mb, 0, none⟩ = some va ∧ w.cell? ⟨vb, 1, none⟩ = some vn ∧ w.cell? ⟨fb, 0, none⟩ = some (fnV mb bb vb fb) ∧ mb < w.heap.size ∧ vb < w.heap.size ∧ fb < w.heap.size ∧ (∀ o, w.frozen? ⟨mb, o, none⟩ = false) ∧ (∀ o, w.frozen? ⟨vb, o, none⟩ = false) ∧ w.cell? ⟨vb, 0, none⟩ = some vr :=
  ⟨by simp [World.cell?, h.mc], by simp [World.cell?, h.vc], by simp [World.cell?, h.fc], lt_of_some h.mc, lt_of_some h.vc, lt_of_some h.fc, fun o => by simp [World.frozen?, h.mc], fun o => by simp [World.frozen?, h.vc], by simp [World.cell?, h.vc]⟩
theorem Wv.but {X : Nat → Prop} (h : Wv w0 w mb bb vb fb s va vn vr m) (f : Fr X w w') (hX : ∀ k, k < w.heap.size → X k → (∃ cs, w.heap[k]? = some (.cells cs 54 (0, 0))) ∧ ¬ Fb m k ∧ w0.heap.size ≤ k) : Wv w0 w' mb bb vb fb s va vn vr m := by
  have hk : ∀ k cs e mm, w.heap[k]? = some (Obj.cells cs e mm) → e ≠ 54 → w'.heap[k]? = w.heap[k]? := fun k cs e mm hk hne => f.block k (lt_of_some hk) (fun d => by
    obtain ⟨⟨cs2, h2⟩, _⟩ := hX k (lt_of_some hk) d
    rw [hk] at h2
    simp at h2
    exact hne h2.2.1)
  have hrow : ∀ {b n sz : Nat} {e : TypeId} {v : Value} {l : List Value}, w.ownsRow b e sz v n l → e ≠ 54 → w'.ownsRow b e sz v n l := fun hr hne => row_keep hr (fun k e1 => by
    obtain ⟨cs, hc⟩ := row_type hr k e1
    exact hk k _ _ _ hc hne)
  refine ⟨⟨f.os.trans h.bel.os, f.tape.trans h.bel.tape, f.output.trans h.bel.output, Nat.le_trans h.bel.size f.size, fun k hlt => (f.block k (Nat.lt_of_lt_of_le hlt h.bel.size) (fun d => ?_)).trans (h.bel.block k hlt)⟩, h.lo, (hk _ _ _ _ h.fc (by decide)).trans h.fc, (hk _ _ _ _ h.mc (by decide)).trans h.mc, (hk _ _ _ _ h.vc (by decide)).trans h.vc, hrow h.mr (by decide), hrow h.nr (by decide), h.nd, fun x hx => ?_⟩
  · have := (hX k (Nat.lt_of_lt_of_le hlt h.bel.size) d).2.2
    omega
  · have hb : 0 < x.2.2.2.length → ∀ a, x.2.1 = some a → w'.heap[a.block]? = w.heap[a.block]? := fun hp a e => by
      obtain ⟨b0, o0, cs, e0, hb0⟩ := (h.fl x hx).2 hp
      rw [e0] at e
      cases e
      exact f.block _ (lt_of_some hb0) (fun d => (hX _ (lt_of_some hb0) d).2.1 ⟨x, hx, hp, o0, e0⟩)
    refine ⟨(h.fl x hx).1.keep f.size hb, fun hp => ?_⟩
    obtain ⟨b0, o0, cs, e0, hb0⟩ := (h.fl x hx).2 hp
    exact ⟨b0, o0, cs, e0, (hb hp _ e0).trans hb0⟩
theorem Wv.below (h : Wv w0 w mb bb vb fb s va vn vr m) (hb : Below w.heap.size w w') : Wv w0 w' mb bb vb fb s va vn vr m :=
  h.but (X := fun _ => False) (Fr.of hb) (fun _ _ d => d.elim)
theorem Wv.meets (h : Wv w0 w mb bb vb fb s va vn vr m) (a : Int) {w1 : World} {va1 : Value} (f : Fr (fun k => some k = va.ownBlock) w w1) (hr : w1.ownsRow w0.heap.size 3 1 va1 (s.1 ++ [a]).length ((s.1 ++ [a]).map (Value.int .i64))) : Wv w0 (w1.setCell ⟨mb, 0, none⟩ va1) mb bb vb fb (s.1 ++ [a], s.2) va1 vn vr m ∧ Kw w0.heap.size w (w1.setCell ⟨mb, 0, none⟩ va1) := by
  have hty : ∀ k, some k = va.ownBlock → ∃ cs, w.heap[k]? = some (.cells cs 3 (0, 0)) := fun k e => row_type h.mr k e
  have f2 : Fr (fun k => some k = va.ownBlock ∨ k = mb) w (w1.setCell ⟨mb, 0, none⟩ va1) := (f.mono (fun _ d => Or.inl d)).set mb _ _ (Or.inr rfl)
  have hk : ∀ k cs e mm, w.heap[k]? = some (Obj.cells cs e mm) → e ≠ 3 → e ≠ 68 → (w1.setCell ⟨mb, 0, none⟩ va1).heap[k]? = w.heap[k]? := fun k cs e mm hk h1 h2 => f2.block k (lt_of_some hk) (fun d => by
    rcases d with d | d
    · obtain ⟨cs2, h3⟩ := hty k d
      rw [hk] at h3
      simp at h3
      exact h1 h3.2.1
    · rw [d, h.mc] at hk
      simp at hk
      exact h2 hk.2.1.symm)
  have kw : Kw w0.heap.size w (w1.setCell ⟨mb, 0, none⟩ va1) := Kw.fr f2 (fun k d => by
    rcases d with d | d
    · refine ⟨(row_lt h.mr k d).1, fun cs e mm hc => ?_⟩
      obtain ⟨cs2, h3⟩ := hty k d
      rw [hc] at h3
      simp at h3
      exact Or.inr (Or.inr (Or.inl h3.2.1))
    · refine ⟨by rw [d]; exact h.lo.1, fun cs e mm hc => ?_⟩
      rw [d, h.mc] at hc
      simp at hc
      exact Or.inl hc.2.1.symm)
  refine ⟨⟨h.bel.trans (kw.below h.bel.size), h.lo, (hk _ _ _ _ h.fc (by decide) (by decide)).trans h.fc, ?_, (hk _ _ _ _ h.vc (by decide) (by decide)).trans h.vc, row_keep hr (fun k e => Below.heap_setCell _ _ _ _ (fun e' => ?_)), row_keep h.nr (fun k e1 => by
    obtain ⟨cs, hc⟩ := row_type h.nr k e1
    exact hk k _ _ _ hc (by decide) (by decide)), h.nd, fun x hx => (h.fl x hx).kw kw⟩, kw⟩
  · have hq := (f.block mb (lt_of_some h.mc) (fun e => by
      obtain ⟨cs2, h3⟩ := hty mb e
      rw [h.mc] at h3
      simp at h3)).trans h.mc
    simp only [World.setCell, Array.getElem?_modify, if_true, hq, Option.map_some]
    simp
  · have e' : k = mb := e'
    obtain ⟨cs, hc⟩ := row_type hr k e
    have hq := (f.block mb (lt_of_some h.mc) (fun e => by
      obtain ⟨cs2, h3⟩ := hty mb e
      rw [h.mc] at h3
      simp at h3)).trans h.mc
    rw [e', hq] at hc
    simp at hc
theorem Wv.noded (h : Wv w0 w mb bb vb fb s va vn vr m) (k0 : Int) {w1 : World} {vn1 : Value} (f : Fr (fun k => some k = vn.ownBlock) w w1) (hr : w1.ownsRow w0.heap.size 80 2 vn1 (m ++ [(k0, none, 0, [])]).length (nv (m ++ [(k0, none, 0, [])]))) : Wv w0 (w1.setCell ⟨vb, 1, none⟩ vn1) mb bb vb fb (s.1, s.2 ++ [(k0, [])]) va vn1 vr (m ++ [(k0, none, 0, [])]) ∧ Kw w0.heap.size w (w1.setCell ⟨vb, 1, none⟩ vn1) := by
  have hty : ∀ k, some k = vn.ownBlock → ∃ cs, w.heap[k]? = some (.cells cs 80 (0, 0)) := fun k e => row_type h.nr k e
  have f2 : Fr (fun k => some k = vn.ownBlock ∨ k = vb) w (w1.setCell ⟨vb, 1, none⟩ vn1) := (f.mono (fun _ d => Or.inl d)).set vb _ _ (Or.inr rfl)
  have hk : ∀ k cs e mm, w.heap[k]? = some (Obj.cells cs e mm) → e ≠ 80 → e ≠ 41 → (w1.setCell ⟨vb, 1, none⟩ vn1).heap[k]? = w.heap[k]? := fun k cs e mm hk h1 h2 => f2.block k (lt_of_some hk) (fun d => by
    rcases d with d | d
    · obtain ⟨cs2, h3⟩ := hty k d
      rw [hk] at h3
      simp at h3
      exact h1 h3.2.1
    · rw [d, h.vc] at hk
      simp at hk
      exact h2 hk.2.1.symm)
  have kw : Kw w0.heap.size w (w1.setCell ⟨vb, 1, none⟩ vn1) := Kw.fr f2 (fun k d => by
    rcases d with d | d
    · refine ⟨(row_lt h.nr k d).1, fun cs e mm hc => ?_⟩
      obtain ⟨cs2, h3⟩ := hty k d
      rw [hc] at h3
      simp at h3
      exact Or.inr (Or.inr (Or.inr h3.2.1))
    · refine ⟨by rw [d]; exact h.lo.2.1, fun cs e mm hc => ?_⟩
      rw [d, h.vc] at hc
      simp at hc
      exact Or.inr (Or.inl hc.2.1.symm))
  have hq : w1.heap[vb]? = some (.cells #[vr, vn] 41 (0, 0)) := (f.block vb (lt_of_some h.vc) (fun e => by
      obtain ⟨cs2, h3⟩ := hty vb e
      rw [h.vc] at h3
      simp at h3)).trans h.vc
  refine ⟨⟨h.bel.trans (kw.below h.bel.size), h.lo, (hk _ _ _ _ h.fc (by decide) (by decide)).trans h.fc, (hk _ _ _ _ h.mc (by decide) (by decide)).trans h.mc, ?_, row_keep h.mr (fun k e1 => by
    obtain ⟨cs, hc⟩ := row_type h.mr k e1
    exact hk k _ _ _ hc (by decide) (by decide)), row_keep hr (fun k e => Below.heap_setCell _ _ _ _ (fun e' => ?_)), ?_, fun x hx => ?_⟩, kw⟩
  · simp only [World.setCell, Array.getElem?_modify, if_true, hq, Option.map_some]
    simp
  · have e' : k = vb := e'
    obtain ⟨cs, hc⟩ := row_type hr k e
    rw [e', hq] at hc
    simp at hc
  · have := h.nd
    simp [nds] at this ⊢
    exact this
  · rcases List.mem_append.1 hx with hx | hx
    · exact (h.fl x hx).kw kw
    · simp at hx
      subst hx
      exact Lv.nil
theorem Wv.filled {g cap len : Nat} (h : Wv w0 w mb bb vb fb s va (.slice (some ⟨g, 0, none⟩) len cap) vr m) {i : Nat} {k0 : Int} {v0 : List (Int × Int)} (hi : s.2[i]? = some (k0, v0)) {base c2 : Nat} {a2 : Option Addr} {vs : List (Int × Int)}
    (hr : w.ownsRow base 54 2 (.slice a2 vs.length c2) vs.length (ev vs)) :
    Wv w0 (w.setCell ⟨g, i * 2 + 1, none⟩ (.slice a2 vs.length c2)) mb bb vb fb (s.1, s.2.set i (k0, vs)) va (.slice (some ⟨g, 0, none⟩) len cap) vr (m.set i (k0, a2, c2, vs)) ∧ Kw w0.heap.size w (w.setCell ⟨g, i * 2 + 1, none⟩ (.slice a2 vs.length c2)) ∧ (∀ k, Fb (m.set i (k0, a2, c2, vs)) k → Fb m k ∨ base ≤ k) := by
  obtain ⟨cur, hcur⟩ := row_type h.nr g rfl
  have hg := (row_lt h.nr g rfl).1
  have f2 : Fr (fun k => k = g) w (w.setCell ⟨g, i * 2 + 1, none⟩ (.slice a2 vs.length c2)) := (Fr.refl _ w).set g _ _ rfl
  have hk : ∀ k cs e mm, w.heap[k]? = some (Obj.cells cs e mm) → e ≠ 80 → (w.setCell ⟨g, i * 2 + 1, none⟩ (.slice a2 vs.length c2)).heap[k]? = w.heap[k]? := fun k cs e mm hk h1 => f2.block k (lt_of_some hk) (fun d => by
    rw [d, hcur] at hk
    simp at hk
    exact h1 hk.2.1.symm)
  have kw : Kw w0.heap.size w (w.setCell ⟨g, i * 2 + 1, none⟩ (.slice a2 vs.length c2)) := Kw.fr f2 (fun k d => by
    refine ⟨by rw [d]; exact hg, fun cs e mm hc => ?_⟩
    rw [d, hcur] at hc
    simp at hc
    exact Or.inr (Or.inr (Or.inr hc.2.1.symm)))
  obtain ⟨x, hx, hxe⟩ : ∃ x : Vnd, m[i]? = some x ∧ (x.1, x.2.2.2) = (k0, v0) := by
    have := hi
    rw [← h.nd, nds, List.getElem?_map] at this
    obtain ⟨x, hx, e⟩ := Option.map_eq_some_iff.1 this
    exact ⟨x, hx, e⟩
  have e1 : x.1 = k0 := congrArg Prod.fst hxe
  have hlen : len = m.length := by
    rcases h.nr.2 with ⟨hv, _⟩ | ⟨g', cap', cur', hv, _⟩
    · simp at hv
    · simp at hv
      exact hv.2.1
  refine ⟨⟨h.bel.trans (kw.below h.bel.size), h.lo, (hk _ _ _ _ h.fc (by decide)).trans h.fc, (hk _ _ _ _ h.mc (by decide)).trans h.mc, (hk _ _ _ _ h.vc (by decide)).trans h.vc, row_keep h.mr (fun k e => by
    obtain ⟨cs, hc⟩ := row_type h.mr k e
    exact hk k _ _ _ hc (by decide)), ?_, ?_, fun y hy => ?_⟩, kw, fun k hk' => ?_⟩
  · rw [List.length_set, ← e1, nv_set m i x a2 c2 vs hx]
    have := h.nr
    rw [← hlen] at this ⊢
    exact row_put this _ _
  · rw [nds, List.map_set]
    show ((nds m).set i (k0, vs)) = _
    rw [h.nd]
  · rcases List.mem_or_eq_of_mem_set hy with hy | hy
    · exact (h.fl y hy).kw kw
    · subst hy
      exact (Lv.of hr).kw kw
  · obtain ⟨y, hy, hl, o, e⟩ := hk'
    rcases List.mem_or_eq_of_mem_set hy with hy | hy
    · exact Or.inl ⟨y, hy, hl, o, e⟩
    · subst hy
      have e : a2 = some ⟨k, o, none⟩ := e
      exact Or.inr (row_lt hr k (by rw [e]; rfl)).1
end

end Go.Proofs.YtogknhogphkddaaGreat

/- The document's world: View: a value as it is shown: contracts, where it leads nowhere, or to what was met. -/
namespace Go.Proofs.YtogknhogphkddaaGreat
open Go.RowKit W Kp Stl


section
variable {w0 w : World} {mb bb vb fb : Nat} {s : Vst} {va vn vr : Value} {m : List Vnd}

abbrev valA (k x : Int) (mb bb vb fb : Nat) : Array Value := #[.agg #[.int .i64 k, .int .i64 x], .pointer (some ⟨mb, 0, none⟩), .pointer (some ⟨bb, 0, none⟩), .pointer (some ⟨vb, 0, none⟩), .pointer (some ⟨fb, 0, none⟩)]

set_option maxRecDepth 100000 in
set_option maxHeartbeats 2000000 in
theorem valueW_o (w : World) (k x : Int) (h3 : k ≠ 3) : Calls Tryz.prog 34 (valA k x mb bb vb fb) w fun e w' => e = .returned (.agg #[.int .i64 k, .int .i64 x]) ∧ Below w.heap.size w w' := by
  have hk : (k == 3) = false := by simpa using h3
  have hb := ((Below.refl w.heap.size w).alloc (Nat.le_refl _) (.cells #[.int .i64 k, .int .i64 x] 54)).alloc (by simp) (.cells #[.int .i64 k, .int .i64 x] 54)
  have HB : Hid (Below w.heap.size w ((w.alloc (.cells #[.int .i64 k, .int .i64 x] 54)).alloc (.cells #[.int .i64 k, .int .i64 x] 54))) := hb
  have hg := heap_alloc_new (w.alloc (.cells #[.int .i64 k, .int .i64 x] 54)) (.cells #[.int .i64 k, .int .i64 x] 54)
  have HG : Hid (((w.alloc (.cells #[.int .i64 k, .int .i64 x] 54)).alloc (.cells #[.int .i64 k, .int .i64 x] 54)).heap[(w.alloc (.cells #[.int .i64 k, .int .i64 x] 54)).heap.size]? = some (.cells #[.int .i64 k, .int .i64 x] 54 (0, 0))) := hg
  clear hb hg
  go_enter Tryz.func34, Tryz.ntmps34
  go_wp2_with fail
  have HE : (w.alloc (.cells #[.int .i64 k, .int .i64 x] 54)).heap.size = w.heap.size + 1 := by simp
  have hg := HG.out
  rw [HE] at hg
  have g0 : ((w.alloc (.cells #[.int .i64 k, .int .i64 x] 54)).alloc (.cells #[.int .i64 k, .int .i64 x] 54)).cell? ⟨w.heap.size + 1, 0, none⟩ = some (.int .i64 k) := by
    unfold World.cell?
    rw [hg]
    rfl
  have g1 : ((w.alloc (.cells #[.int .i64 k, .int .i64 x] 54)).alloc (.cells #[.int .i64 k, .int .i64 x] 54)).cell? ⟨w.heap.size + 1, 1, none⟩ = some (.int .i64 x) := by
    unfold World.cell?
    rw [hg]
    rfl
  exact bodyPost_ret (v := .agg #[.int .i64 k, .int .i64 x]) (by simp [results, Tryz.results34, go_sem, g0, g1]) rfl ⟨rfl, HB.out⟩

set_option maxRecDepth 100000 in
set_option maxHeartbeats 2000000 in
theorem valueW_met (h : Wv w0 w mb bb vb fb s va vn vr m) (x : Int) (hl : s.1.length ≤ 100000) (hs : s.1.contains x = true) : Calls Tryz.prog 34 (valA 3 x mb bb vb fb) w fun e w' => e = .returned (.agg #[.int .i64 3, .int .i64 (s.1.idxOf x)]) ∧ Below w.heap.size w w' := by
  obtain ⟨ms, ns⟩ := s
  dsimp only at hl hs ⊢
  have hmem : x ∈ ms := List.contains_iff_mem.1 hs
  have hix := List.idxOf_lt_length_of_mem hmem
  obtain ⟨aM, cM, e0⟩ := row_slice h.mr
  subst e0
  obtain ⟨ab, cb, e1⟩ := row_shape h.mr (by show 0 < ms.length; omega)
  obtain ⟨rfl, rfl⟩ : aM = some ⟨ab, 0, none⟩ ∧ cM = cb := by simpa using e1
  have hb := ((Below.refl w.heap.size w).alloc (Nat.le_refl _) (.cells #[.int .i64 3, .int .i64 x] 54)).alloc (by simp) (.cells #[.int .i64 0, .int .i64 0] 54)
  have HB : Hid (Below w.heap.size w ((w.alloc (.cells #[.int .i64 3, .int .i64 x] 54)).alloc (.cells #[.int .i64 0, .int .i64 0] 54))) := hb
  have HC : Hid (∀ j, j < ms.length → ((w.alloc (.cells #[.int .i64 3, .int .i64 x] 54)).alloc (.cells #[.int .i64 0, .int .i64 0] 54)).cell? ⟨ab, j, none⟩ = some (.int .i64 (ms.getD j 0))) := fun j hj => by
    have h1 := (row_cell h.mr (i := j) (u := .int .i64 (ms.getD j 0)) (by
      show (ms.map (Value.int .i64))[j]? = _
      rw [List.getElem?_map, List.getElem?_eq_getElem hj, List.getD_eq_getElem?_getD, List.getElem?_eq_getElem hj]
      rfl)).1
    exact (hb.cell (p := ⟨ab, j, none⟩) (World.block_lt_of_cell? w _ h1)).trans h1
  have c0 := (hb.cell (p := ⟨mb, 0, none⟩) h.cells.2.2.2.1).trans h.cells.1
  have lmb := h.cells.2.2.2.1
  have lab := (row_lt h.mr ab rfl).2
  have HIX : Hid (ms.getD (ms.idxOf x) 0 = x ∧ ∀ j, ms.getD j 0 = x → j < ms.length → ms.idxOf x ≤ j) := ⟨by
    rw [List.getD_eq_getElem?_getD, List.getElem?_eq_getElem hix]
    simp, fun j hj hlt => by
    rcases Nat.lt_or_ge j (ms.idxOf x) with d | d
    · exfalso
      rw [List.getD_eq_getElem?_getD, List.getElem?_eq_getElem hlt] at hj
      have hj : ms[j] = x := hj
      have q := List.not_of_lt_findIdx (p := fun y => y == x) (xs := ms) d
      simp [hj] at q
    · exact d⟩
  have hms : w.heap.size ≠ mb := by omega
  clear hb h e1 hs hmem
  generalize hie : ms.idxOf x = ix at *
  go_enter Tryz.func34, Tryz.ntmps34
  go_wp2_with fail
  have HG : Hid (((w.alloc (.cells #[.int .i64 3, .int .i64 x] 54)).alloc (.cells #[.int .i64 0, .int .i64 0] 54)).heap[w.heap.size + 1]? = some (.cells #[.int .i64 0, .int .i64 0] 54 (0, 0)) ∧ ((w.alloc (.cells #[.int .i64 3, .int .i64 x] 54)).alloc (.cells #[.int .i64 0, .int .i64 0] 54)).heap[w.heap.size]? = some (.cells #[.int .i64 3, .int .i64 x] 54 (0, 0)) ∧ ((w.alloc (.cells #[.int .i64 3, .int .i64 x] 54)).alloc (.cells #[.int .i64 0, .int .i64 0] 54)).heap.size = w.heap.size + 2) := by
    refine ⟨?_, ?_, by simp⟩
    · have := heap_alloc_new (w.alloc (.cells #[.int .i64 3, .int .i64 x] 54)) (.cells #[.int .i64 0, .int .i64 0] 54)
      have e : (w.alloc (.cells #[.int .i64 3, .int .i64 x] 54)).heap.size = w.heap.size + 1 := by simp
      rw [e] at this
      exact this
    · have h1 := heap_alloc_new w (.cells #[.int .i64 3, .int .i64 x] 54)
      have h2 := (Below.refl (w.alloc (.cells #[.int .i64 3, .int .i64 x] 54)).heap.size (w.alloc (.cells #[.int .i64 3, .int .i64 x] 54))).alloc (Nat.le_refl _) (.cells #[.int .i64 0, .int .i64 0] 54)
      exact (h2.block w.heap.size (by simp)).trans h1
  generalize (w.alloc (.cells #[.int .i64 3, .int .i64 x] 54)).alloc (.cells #[.int .i64 0, .int .i64 0] 54) = W2 at *
  go_loopw [7] (fun iv wr => ∃ j : Nat, j ≤ ix ∧ iv = .int .i64 j ∧ Hid (Below W2.heap.size W2 wr)) (fun iv _ => ms.length - (intOf iv).toNat)
  case atStart => exact ⟨0, Nat.zero_le _, rfl, Below.refl _ _⟩
  case round =>
    obtain ⟨j, hj, rfl, HW⟩ := hrel
    have lt2 : mb < W2.heap.size := World.block_lt_of_cell? W2 _ c0
    have z0 := (HW.out.cell (p := ⟨mb, 0, none⟩) lt2).trans c0
    have hjl : j < ms.length := by omega
    have z1 := (HW.out.cell (p := ⟨ab, j, none⟩) (World.block_lt_of_cell? W2 _ (HC.out j hjl))).trans (HC.out j hjl)
    have hx1 := (HW.out.block w.heap.size (lt_of_some HG.out.2.1)).trans HG.out.2.1
    have hx2 := (HW.out.block (w.heap.size + 1) (lt_of_some HG.out.1)).trans HG.out.1
    have y1 : wr.cell? ⟨w.heap.size, 1, none⟩ = some (.int .i64 x) := by simp [World.cell?, hx1]
    have r0 : wr.cell? ⟨w.heap.size + 1, 0, none⟩ = some (.int .i64 0) := by simp [World.cell?, hx2]
    have r1 : wr.cell? ⟨w.heap.size + 1, 1, none⟩ = some (.int .i64 0) := by simp [World.cell?, hx2]
    have f0 : wr.frozen? ⟨w.heap.size + 1, 0, none⟩ = false := by simp [World.frozen?, hx2]
    have f1 : wr.frozen? ⟨w.heap.size + 1, 1, none⟩ = false := by simp [World.frozen?, hx2]
    have j0 : (0 : Int) ≤ (j : Int) := by omega
    have j1 : (j : Int) < (ms.length : Int) := by omega
    clear hx1 hx2
    by_cases hj2 : j = ix
    · subst hj2
      rw [HIX.out.1] at z1
      go_wp2_with fail
      go_quiet (fail)
      go_wp2_with fail
      have hF : Fr (fun k => k = w.heap.size + 1) wr (((wr.drewN nq).setCell ⟨w.heap.size + 1, 0, none⟩ (.int .i64 3)).setCell ⟨w.heap.size + 1, 1, none⟩ (.int .i64 j)) := by
        have f0 : Fr (fun k => k = w.heap.size + 1) wr (wr.drewN nq) := Fr.of (below_drewN (Below.refl _ _) nq)
        exact (f0.set (w.heap.size + 1) 0 _ rfl).set (w.heap.size + 1) 1 _ rfl
      have g0 : (((wr.drewN nq).setCell ⟨w.heap.size + 1, 0, none⟩ (.int .i64 3)).setCell ⟨w.heap.size + 1, 1, none⟩ (.int .i64 j)).cell? ⟨w.heap.size + 1, 0, none⟩ = some (.int .i64 3) := by
        rw [World.cell?_setCell_other _ _ _ _ (by simp)]
        exact World.cell?_setCell_same _ _ _ (u := .int .i64 0) r0
      have g1 : (((wr.drewN nq).setCell ⟨w.heap.size + 1, 0, none⟩ (.int .i64 3)).setCell ⟨w.heap.size + 1, 1, none⟩ (.int .i64 j)).cell? ⟨w.heap.size + 1, 1, none⟩ = some (.int .i64 j) := World.cell?_setCell_same _ _ _ (u := .int .i64 0) ((World.cell?_setCell_other _ _ _ _ (by simp)).trans r1)
      have hB9 : Below w.heap.size w wr := HB.out.trans (HW.out.mono HB.out.size)
      exact bodyPost_ret (v := .agg #[.int .i64 3, .int .i64 j]) (by simp [results, Tryz.results34, go_sem, g0, g1]) rfl ⟨rfl, hB9.trans (hF.below hB9.size (fun k e => by have e : k = w.heap.size + 1 := e; omega))⟩
    · have hne : (ms.getD j 0 == x) = false := by
        have : ms.getD j 0 ≠ x := fun e => by
          have := HIX.out.2 j e hjl
          omega
        simpa using this
      generalize ms.getD j 0 = y at *
      go_wp2_with fail
      go_quiet (fail)
      go_wp2_with fail
      go_roundw
      case rel => exact ⟨j + 1, by omega, by go_num, below_drewN HW.out _⟩
      case measure => simp [intOf]; omega
end

end Go.Proofs.YtogknhogphkddaaGreat

/- The document's world: View: a node's values while they are shown, in memory. -/
namespace Go.Proofs.YtogknhogphkddaaGreat
open Go.RowKit W Kp Stl

structure Lr (w0 w3 wr : World) (mb bb vb fb : Nat) (vr : Value) (m1 : List Vnd) (P : List (Int × Int) × Vst) (la : Option Addr) (lc : Nat) (va vn : Value) (m' : List Vnd) : Prop where
  hs : w0.heap.size ≤ w3.heap.size
  wv : Wv w0 wr mb bb vb fb P.2 va vn vr m'
  kx : Kx w0 w3 m1 wr m'
  row : wr.ownsRow w3.heap.size 54 2 (.slice la P.1.length lc) P.1.length (ev P.1)
  no : ∀ k, Fb m' k → ¬ some k = (Value.slice la P.1.length lc).ownBlock

section
variable {w0 w3 wr : World} {mb bb vb fb : Nat} {vr va vn : Value} {m1 m' : List Vnd} {P : List (Int × Int) × Vst} {la : Option Addr} {lc : Nat}

theorem Lr.start (h : Wv w0 w3 mb bb vb fb P.2 va vn vr m1) (hp : P.1 = []) : Lr w0 w3 w3 mb bb vb fb vr m1 P none 0 va vn m1 :=
  ⟨h.bel.size, h, Kx.refl _ _ _, by rw [hp]; exact World.ownsRow_nil _ _ _ _, fun k _ e => by cases e⟩
theorem Lr.call (h : Lr w0 w3 wr mb bb vb fb vr m1 P la lc va vn m') {w5 : World} {s' : Vst} {va' vn' : Value} {m2 : List Vnd} (hW : Wv w0 w5 mb bb vb fb s' va' vn' vr m2) (hK : Kx w0 wr m' w5 m2) : Lr w0 w3 w5 mb bb vb fb vr m1 (P.1, s') la lc va' vn' m2 :=
  ⟨h.hs, hW, h.kx.trans hK, row_keep h.row (fun k e => by
    obtain ⟨cs, hc⟩ := row_type h.row k e
    exact hK.1.oth k _ _ _ hc (by unfold Tyw; decide)), fun k hk e => by
    rcases hK.2 k hk with d | d
    · exact h.no k d e
    · have := (row_lt h.row k e).2
      omega⟩
theorem Lr.below (h : Lr w0 w3 wr mb bb vb fb vr m1 P la lc va vn m') {w5 : World} (hb : Below wr.heap.size wr w5) : Lr w0 w3 w5 mb bb vb fb vr m1 P la lc va vn m' :=
  h.call (s' := P.2) (h.wv.below hb) (Kx.of hb)
theorem Lr.push (h : Lr w0 w3 wr mb bb vb fb vr m1 P la lc va vn m') {wq w10 : World} (hq : Below wr.heap.size wr wq) {v : Int × Int} {la' : Option Addr} {lc' : Nat} (hg : wq.grownBy w10 (Value.slice la P.1.length lc).ownBlock) (ho : w10.ownsRow w3.heap.size 54 2 (.slice la' (P.1.length + 1) lc') (P.1.length + 1) (ev P.1 ++ ev [v])) (hn : (Value.slice la' (P.1.length + 1) lc').ownBlock = (Value.slice la P.1.length lc).ownBlock ∨ (Value.slice la' (P.1.length + 1) lc').ownBlock = some wq.heap.size) :
    Lr w0 w3 w10 mb bb vb fb vr m1 (P.1 ++ [v], P.2) la' lc' va vn m' := by
  have fr : Fr (fun k => some k = (Value.slice la P.1.length lc).ownBlock) wr w10 := (Fr.of hq).grown hg (fun k e => Or.inl (by simpa using e.symm))
  have h1 : (P.1 ++ [v]).length = P.1.length + 1 := by simp
  have h2 : ev (P.1 ++ [v]) = ev P.1 ++ ev [v] := by simp [ev]
  refine ⟨h.hs, h.wv.but fr (fun k hk e => ?_), ⟨h.kx.1.new fr (fun k e => (row_lt h.row k e).1), h.kx.2⟩, by rw [h1, h2]; exact ho, fun k hk e => ?_⟩
  · refine ⟨row_type h.row k e, fun d => h.no k d e, ?_⟩
    have h3 := (row_lt h.row k e).1
    have := h.hs
    omega
  · rw [h1] at e
    rcases hn with d | d
    · rw [d] at e
      exact h.no k hk e
    · rw [d] at e
      have e : k = wq.heap.size := by simpa using e
      have := h.wv.fbk k hk
      have := hq.size
      omega
theorem Lr.box (h : Lr w0 w3 wr mb bb vb fb vr m1 P la lc va vn m') {yb : Nat} {w6 : World} (f : Fr (fun k => k = yb) wr w6) (hb : w3.heap.size ≤ yb) (ht : yb < wr.heap.size → (∃ cs, wr.heap[yb]? = some (.cells cs 54 (0, 0))) ∧ ¬ Fb m' yb ∧ ¬ some yb = (Value.slice la P.1.length lc).ownBlock) : Lr w0 w3 w6 mb bb vb fb vr m1 P la lc va vn m' :=
  ⟨h.hs, h.wv.but f (fun k hk e => by
    have e : k = yb := e
    subst e
    have := h.hs
    exact ⟨(ht hk).1, (ht hk).2.1, by omega⟩), ⟨h.kx.1.new f (fun k e => by have e : k = yb := e; omega), h.kx.2⟩, row_keep h.row (fun k e => f.block k (row_lt h.row k e).2 (fun d => by
    have d : k = yb := d
    subst d
    exact (ht (row_lt h.row k e).2).2.2 e)), h.no⟩
theorem Lr.late {W : World} (hL : Lr w0 w3 W mb bb vb fb vr m1 P la lc va vn m') {w5 : World} {s' : Vst} {va5 vn5 : Value} {m5 : List Vnd} (h5 : Lr w0 w3 w5 mb bb vb fb vr m1 (P.1, s') la lc va5 vn5 m5) (hK : Kx w0 (W.alloc (.cells #[.int .i64 0, .int .i64 0] 54)) m' w5 m5) (v1 v2 : Int) :
    w5.heap[W.heap.size]? = some (.cells #[.int .i64 0, .int .i64 0] 54 (0, 0)) ∧ Lr w0 w3 ((w5.setCell ⟨W.heap.size, 0, none⟩ (.int .i64 v1)).setCell ⟨W.heap.size, 1, none⟩ (.int .i64 v2)) mb bb vb fb vr m1 (P.1, s') la lc va5 vn5 m5 := by
  have hc := heap_alloc_new W (.cells #[.int .i64 0, .int .i64 0] 54)
  have h1 := (hK.1.oth _ _ _ _ hc (by unfold Tyw; decide)).trans hc
  refine ⟨h1, h5.box (yb := W.heap.size) (((Fr.refl (fun k => k = W.heap.size) w5).set _ 0 _ rfl).set _ 1 _ rfl) hL.kx.1.size (fun _ => ⟨⟨_, h1⟩, fun d => ?_, fun e => ?_⟩)⟩
  · rcases hK.2 _ d with d | d
    · have := hL.wv.fbk _ d
      omega
    · simp at d
      omega
  · have := (row_lt hL.row W.heap.size e).2
    omega
end

end Go.Proofs.YtogknhogphkddaaGreat

/- The document's world: View: a thing that is met: contracts of its function's end. -/
namespace Go.Proofs.YtogknhogphkddaaGreat.Vr4
open Go.RowKit W Kp Stl

def begins := Cut7.begins
abbrev find := Cut7.find

section
variable {w0 w3 wb : World} {mb bb vb fb : Nat} {vr : Value}

theorem fin_mem {wr : World} {mB m1 m' : List Vnd} {P : List (Int × Int) × Vst} {la : Option Addr} {lc n rb : Nat} {va vn : Value} {k0 : Int} {v0 : List (Int × Int)} (h : Lr w0 w3 wr mb bb vb fb vr m1 P la lc va vn m') (hn : P.2.2[n]? = some (k0, v0)) (hnl : P.2.2.length ≤ 100000) (hr : wr.heap[rb]? = some (.cells #[.int .i64 0, .int .i64 0] 54 (0, 0))) (hlt : rb < w3.heap.size) (hlo : w0.heap.size ≤ rb) (hfb : ¬ Fb m' rb) (hwb : wb.heap.size ≤ rb) (hK : Kx w0 wb mB wr m') :
    ∃ g gC u, vn = .slice (some ⟨g, 0, none⟩) m'.length gC ∧ wr.cell? ⟨vb, 1, none⟩ = some (.slice (some ⟨g, 0, none⟩) m'.length gC) ∧ n < m'.length ∧ m'.length ≤ 100000 ∧ wr.cell? ⟨g, n * 2 + 1, none⟩ = some u ∧ wr.frozen? ⟨g, n * 2 + 1, none⟩ = false ∧ wr.cell? ⟨rb, 0, none⟩ = some (.int .i64 0) ∧ wr.cell? ⟨rb, 1, none⟩ = some (.int .i64 0) ∧ wr.frozen? ⟨rb, 0, none⟩ = false ∧ wr.frozen? ⟨rb, 1, none⟩ = false ∧ g ≠ rb ∧
      Hid ((∃ m2, Wv w0 (((wr.setCell ⟨g, n * 2 + 1, none⟩ (.slice la P.1.length lc)).setCell ⟨rb, 0, none⟩ (.int .i64 3)).setCell ⟨rb, 1, none⟩ (.int .i64 n)) mb bb vb fb (P.2.1, P.2.2.set n (k0, P.1)) va vn vr m2 ∧ Kx w0 wb mB (((wr.setCell ⟨g, n * 2 + 1, none⟩ (.slice la P.1.length lc)).setCell ⟨rb, 0, none⟩ (.int .i64 3)).setCell ⟨rb, 1, none⟩ (.int .i64 n)) m2) ∧ (((wr.setCell ⟨g, n * 2 + 1, none⟩ (.slice la P.1.length lc)).setCell ⟨rb, 0, none⟩ (.int .i64 3)).setCell ⟨rb, 1, none⟩ (.int .i64 n)).cell? ⟨rb, 0, none⟩ = some (.int .i64 3) ∧ (((wr.setCell ⟨g, n * 2 + 1, none⟩ (.slice la P.1.length lc)).setCell ⟨rb, 0, none⟩ (.int .i64 3)).setCell ⟨rb, 1, none⟩ (.int .i64 n)).cell? ⟨rb, 1, none⟩ = some (.int .i64 n)) := by
  have hnm : n < m'.length := by
    rw [h.wv.len]
    exact (List.getElem?_eq_some_iff.1 hn).1
  have hml : m'.length ≤ 100000 := by rw [h.wv.len]; exact hnl
  obtain ⟨gA, gC, eA⟩ := row_slice h.wv.nr
  subst eA
  obtain ⟨g, cap, eg⟩ := row_shape h.wv.nr (by omega)
  obtain ⟨rfl, rfl⟩ : gA = some ⟨g, 0, none⟩ ∧ gC = cap := by simpa using eg
  obtain ⟨y, hy⟩ : ∃ y, m'[n]? = some y := ⟨_, List.getElem?_eq_getElem hnm⟩
  obtain ⟨_, e2⟩ := nv_get m' n y hy
  obtain ⟨n1, n2⟩ := row_cell h.wv.nr e2
  have cn := h.wv.cells.2.1
  have r0 : wr.cell? ⟨rb, 0, none⟩ = some (.int .i64 0) := by simp [World.cell?, hr]
  have r1 : wr.cell? ⟨rb, 1, none⟩ = some (.int .i64 0) := by simp [World.cell?, hr]
  have f0 : wr.frozen? ⟨rb, 0, none⟩ = false := by simp [World.frozen?, hr]
  have f1 : wr.frozen? ⟨rb, 1, none⟩ = false := by simp [World.frozen?, hr]
  obtain ⟨cur, hcur⟩ := row_type h.wv.nr g rfl
  have hgr : g ≠ rb := fun e => by
    rw [e, hr] at hcur
    simp at hcur
  refine ⟨g, gC, _, rfl, cn, hnm, hml, n1, n2, r0, r1, f0, f1, hgr, ?_, ?_, ?_⟩
  · obtain ⟨a1, a2, a3⟩ := h.wv.filled hn h.row
    have fr : Fr (fun k => k = rb) (wr.setCell ⟨g, n * 2 + 1, none⟩ (.slice la P.1.length lc)) (((wr.setCell ⟨g, n * 2 + 1, none⟩ (.slice la P.1.length lc)).setCell ⟨rb, 0, none⟩ (.int .i64 3)).setCell ⟨rb, 1, none⟩ (.int .i64 n)) := ((Fr.refl (fun k => k = rb) _).set rb 0 _ rfl).set rb 1 _ rfl
    have hr2 : (wr.setCell ⟨g, n * 2 + 1, none⟩ (.slice la P.1.length lc)).heap[rb]? = some (.cells #[.int .i64 0, .int .i64 0] 54 (0, 0)) := (Below.heap_setCell _ _ _ _ (show rb ≠ g from fun e => hgr e.symm)).trans hr
    refine ⟨_, a1.but fr (fun k _ e => ?_), ⟨(hK.1.trans a2).new fr (fun k e => by have e : k = rb := e; omega), fun k hk => ?_⟩⟩
    · have e : k = rb := e
      subst e
      refine ⟨⟨_, hr2⟩, fun d => ?_, hlo⟩
      rcases a3 k d with d | d
      · exact hfb d
      · omega
    · rcases a3 k hk with d | d
      · exact hK.2 k d
      · right
        omega
  · rw [World.cell?_setCell_other _ _ _ _ (by simp)]
    exact World.cell?_setCell_same _ _ _ (u := .int .i64 0) ((World.cell?_setCell_other _ _ _ _ (fun e => hgr (by injection e))).trans r0)
  · exact World.cell?_setCell_same _ _ _ (u := .int .i64 0) ((World.cell?_setCell_other _ _ _ _ (by simp)).trans ((World.cell?_setCell_other _ _ _ _ (fun e => hgr (by injection e))).trans r1))
end

end Go.Proofs.YtogknhogphkddaaGreat.Vr4
