/- Looks that are handed over, over whatever memory they have of their own: contracts of with, Clip, Clone, parted, told. -/
import Derived.Test.YthlfgddhkffilaaSm3
import Derived.Test.YthlfgddhkffilaaStl2
import Derived.Deep.RegionHeld3
import Derived.ArgAppend
namespace Go.Proofs.Ythlfgddhkffilaa
open Go.RowKit W Kp Stl

theorem infoEn : (Try.prog.info? 84).map (fun i => (i.zero, i.size, i.bytes)) = some (some (.agg #[.int .i64 0, .int .i64 0]), 2, 16) := by kernel_rfl

/-- An entry as a value. -/
abbrev en (e : En) : Value := .agg #[.int .i64 e.1, .int .i64 e.2]

/-- Something in memory: its state, and the blocks that are its own. -/
structure Ob (τ : Type) where
  J : (Nat → Prop) → τ → World → Prop
  lt : ∀ {F t w}, J F t w → ∀ k, F k → k < w.heap.size
  keep : ∀ {F t w w'}, J F t w → w.heap.size ≤ w'.heap.size → (∀ k, F k → w'.heap[k]? = w.heap[k]?) → J F t w'

theorem Ob.fr {τ : Type} (o : Ob τ) {F X : Nat → Prop} {t : τ} {w w' : World} (h : o.J F t w) (f : Fr X w w') (hx : ∀ k, F k → ¬ X k) : o.J F t w' := o.keep h f.size (fun k hk => f.block k (o.lt h k hk) (hx k hk))
theorem Ob.below {τ : Type} (o : Ob τ) {F : Nat → Prop} {t : τ} {w w' : World} (h : o.J F t w) (f : Below w.heap.size w w') : o.J F t w' := o.keep h f.size (fun k hk => f.block k (o.lt h k hk))

/-- A function that is entered. -/
def Ent (f : Nat) : Prop := ∀ (args : Array Value) (w : World), (callFunc f args).run Try.prog w = .ok (.enter f args) w
theorem ent_of {f : Nat} {fn : Func} {c : Code} (hf : Try.prog.funcs[f]? = some fn) (hname : (fn.name == "runtime.NumGoroutine") = false) (hb : fn.body = some c) : Ent f := by
  intro args w
  have h1 : fn.name ≠ "runtime.NumGoroutine" := by simpa using hname
  simp [callFunc, hf, h1, hb]

/-! ### a row of its own grows: what else stands -/
theorem grow_ob {τ : Type} (o : Ob τ) {F : Nat → Prop} {t : τ} {w w4 : World} {ob : Obj} {vb : Option Nat} (h : o.J F t w) (hg : (w.alloc ob).grownBy w4 vb) (hne : ∀ k, some k = vb → ¬ F k) : o.J F t w4 :=
  o.keep h (by have := hg.size; simp at this; omega) (fun k hk => (hg.block k (by have := o.lt h k hk; simp; omega) (fun e => hne k e hk)).trans (Below.heap_alloc _ _ _ (o.lt h k hk)))
theorem grow_row {w w4 : World} {base n m : Nat} {e : TypeId} {v : Value} {l : List Value} {ob : Obj} {vb : Option Nat} (h : w.ownsRow base e m v n l) (hg : (w.alloc ob).grownBy w4 vb) (hne : ∀ k, some k = v.ownBlock → some k ≠ vb) : w4.ownsRow base e m v n l :=
  row_keep h (fun k hk => (hg.block k (by have := (row_lt h k hk).2; simp; omega) (hne k hk)).trans (Below.heap_alloc _ _ _ (row_lt h k hk).2))
theorem row_alloc {w : World} {base n m : Nat} {e : TypeId} {v : Value} {l : List Value} (h : w.ownsRow base e m v n l) (ob : Obj) : (w.alloc ob).ownsRow base e m v n l :=
  row_keep h (fun k hk => Below.heap_alloc _ _ _ (row_lt h k hk).2)

/-- A look at an entry: what it tells, what becomes of what it looks at. -/
def Looks {τ : Type} (o : Ob τ) (D : En → Prop) (G : τ → Prop) (f : Nat) (b c : Array Value) (lk : τ → En → Bool × τ) : Prop :=
  ∀ F t w (e : En), D e → G t → o.J F t w → Calls Try.prog f (b.push (en e) ++ c) w fun r w' => ∃ F', r = .returned (.bool (lk t e).1) ∧ o.J F' (lk t e).2 w' ∧ Fr F w w' ∧ ∀ k, F' k → F k ∨ w.heap.size ≤ k

/-- One more entry is looked at. -/
def pstep {τ : Type} (lk : τ → En → Bool × τ) (s : List En × List En × τ) (e : En) : List En × List En × τ :=
  if (lk s.2.2 e).1 then (s.1 ++ [e], s.2.1, (lk s.2.2 e).2) else (s.1, s.2.1 ++ [e], (lk s.2.2 e).2)
/-- Entries in two parts. -/
def pts {τ : Type} (lk : τ → En → Bool × τ) (t : τ) (l : List En) : List En × List En × τ := l.foldl (pstep lk) ([], [], t)
theorem pts_nil {τ : Type} (lk : τ → En → Bool × τ) (t : τ) : pts lk t [] = ([], [], t) := rfl
theorem pts_snoc {τ : Type} (lk : τ → En → Bool × τ) (t : τ) (l : List En) (e : En) : pts lk t (l ++ [e]) = pstep lk (pts lk t l) e := by simp [pts, List.foldl_append]
theorem pts_len {τ : Type} (lk : τ → En → Bool × τ) (t : τ) (l : List En) : (pts lk t l).1.length + (pts lk t l).2.1.length = l.length := by
  have key : ∀ (l : List En) (s : List En × List En × τ), (l.foldl (pstep lk) s).1.length + (l.foldl (pstep lk) s).2.1.length = s.1.length + s.2.1.length + l.length := by
    intro l
    induction l with
    | nil => intro s; simp
    | cons e r ih =>
      intro s
      rw [List.foldl_cons, ih]
      unfold pstep
      split <;> simp <;> omega
  simpa [pts] using key l ([], [], t)

set_option maxRecDepth 100000 in
set_option maxHeartbeats 1000000 in
theorem parted_any {τ : Type} (o : Ob τ) (D : En → Prop) (G : τ → Prop) (f : Nat) (b c : Array Value) (lk : τ → En → Bool × τ) (hf : Ent f) (hl : Looks o D G f b c lk) (l : List En) (ad : Option Addr) (cap : Nat) (F : Nat → Prop) (t : τ) (w : World)
    (hD : ∀ e ∈ l, D e) (hG : ∀ j, j < l.length → G (pts lk t (l.take j)).2.2) (hm : l.length ≤ 100000) (hJ : o.J F t w) (hp : ∀ F' t' w', o.J F' t' w' → Fr F w w' → Lp w' ad l) :
    Calls Try.prog 114 #[.slice ad l.length cap, .func (.func f) b c] w fun r w' => ∃ a1 c1 a2 c2 F', r = .returned (.tuple #[.slice a1 (pts lk t l).1.length c1, .slice a2 (pts lk t l).2.1.length c2]) ∧ w'.ownsRow w.heap.size 84 2 (.slice a1 (pts lk t l).1.length c1) (pts lk t l).1.length (ev (pts lk t l).1) ∧
      w'.ownsRow w.heap.size 84 2 (.slice a2 (pts lk t l).2.1.length c2) (pts lk t l).2.1.length (ev (pts lk t l).2.1) ∧ o.J F' (pts lk t l).2.2 w' ∧ Fr F w w' ∧ (∀ k, F' k → F k ∨ w.heap.size ≤ k) ∧ (∀ k, some k = (Value.slice a1 (pts lk t l).1.length c1).ownBlock → ¬ F' k) ∧ (∀ k, some k = (Value.slice a2 (pts lk t l).2.1.length c2).ownBlock → ¬ F' k) := by
  obtain ⟨i0, hi, hz0, hz1, hz2⟩ := info_parts infoEn
  have HL : Hid (Looks o D G f b c lk) := hl
  have HG : Hid (∀ j, j < l.length → G (pts lk t (l.take j)).2.2) := hG
  clear hG
  clear hl
  have HP : Hid (∀ F' t' w', o.J F' t' w' → Fr F w w' → Lp w' ad l) := hp
  clear hp
  have hcf : ∀ (args : Array Value) (w : World), (callFunc f args).run Try.prog w = .ok (.enter f args) w := hf
  clear hf
  go_enter Try.func114, Try.ntmps114
  go_wp2_with fail
  go_loopw [6, 7, 12] (fun vy vn iv wr => ∃ (j : Nat) (Y N : List En) (ay an : Option Addr) (cy cn : Nat) (F1 : Nat → Prop) (t1 : τ), j ≤ l.length ∧ iv = .int .i64 j ∧ Hid (pts lk t (l.take j) = (Y, N, t1)) ∧ vy = .slice ay Y.length cy ∧ vn = .slice an N.length cn ∧
      wr.ownsRow w.heap.size 84 2 (.slice ay Y.length cy) Y.length (ev Y) ∧ wr.ownsRow w.heap.size 84 2 (.slice an N.length cn) N.length (ev N) ∧ o.J F1 t1 wr ∧ Fr F w wr ∧ Hid (∀ k, F1 k → F k ∨ w.heap.size ≤ k) ∧
      Hid (∀ k, some k = (Value.slice ay Y.length cy).ownBlock → ¬ F1 k ∧ some k ≠ (Value.slice an N.length cn).ownBlock) ∧ Hid (∀ k, some k = (Value.slice an N.length cn).ownBlock → ¬ F1 k)) (fun _ _ iv _ => l.length - (intOf iv).toNat)
  case atStart => exact ⟨0, [], [], none, none, 0, 0, F, t, Nat.zero_le _, rfl, rfl, rfl, rfl, World.ownsRow_nil _ _ _ _, World.ownsRow_nil _ _ _ _, hJ, Fr.refl _ _, fun k h => Or.inl h, fun k e => by simp [Value.ownBlock] at e, fun k e => by simp [Value.ownBlock] at e⟩
  case round =>
    obtain ⟨j, Y, N, ay, an, cy, cn, F1, t1, hj, rfl, HE, rfl, rfl, hY, hN, hJ1, hfr, HF1, HY, HN⟩ := hrel
    by_cases hlt : j < l.length
    · obtain ⟨b0, o0, e0, hb0, hc⟩ := HP.out F1 t1 wr hJ1 hfr (by omega)
      obtain ⟨x1, x2⟩ := hc j hlt
      clear hc
      have hde : D (l.getD j (0, 0)) := hD _ (by rw [List.getD_eq_getElem?_getD, List.getElem?_eq_getElem hlt]; exact List.getElem_mem hlt)
      have hgt : G t1 := by have := HG.out j hlt; rw [HE.out] at this; exact this
      have HS := pts_snoc lk t (l.take j) (l.getD j (0, 0))
      rw [← take_snoc l j hlt (0, 0), HE.out] at HS
      have HS : Hid (pts lk t (l.take (j + 1)) = pstep lk (Y, N, t1) ((l.getD j (0, 0)).1, (l.getD j (0, 0)).2)) := HS
      have hde : D ((l.getD j (0, 0)).1, (l.getD j (0, 0)).2) := hde
      generalize (l.getD j (0, 0)).1 = g at x1 HS hde
      generalize (l.getD j (0, 0)).2 = z at x2 HS hde
      subst e0
      have hYl : Y.length + N.length ≤ 100000 := by
        have h1 := pts_len lk t (l.take j)
        rw [HE.out] at h1
        simp at h1
        omega
      have hsz := hfr.size
      have hlF := o.lt hJ1
      go_wp2_with fail
      refine (HL.out F1 t1 _ (g, z) hde hgt (o.below hJ1 ((Below.refl _ _).alloc (Nat.le_refl _) _))).mono ?_
      rintro e w2 ⟨F2, rfl, hJ2, hfr2, hF2⟩
      have hs2 := hfr2.size
      simp at hs2
      have hw0 : ¬ F1 wr.heap.size := fun h => by have := hlF _ h; omega
      have hblk : w2.heap[wr.heap.size]? = some (.cells #[.int .i64 g, .int .i64 z] 84 (0, 0)) := (hfr2.block _ (by simp) hw0).trans (heap_alloc_new _ _)
      have x3 : w2.cell? ⟨wr.heap.size, 0, none⟩ = some (.int .i64 g) := by simp [World.cell?, hblk]
      have x4 : w2.cell? ⟨wr.heap.size, 1, none⟩ = some (.int .i64 z) := by simp [World.cell?, hblk]
      have hlt2 : wr.heap.size < w2.heap.size := by omega
      clear hblk
      have hY2 := row_fr (row_alloc hY (.cells #[.int .i64 g, .int .i64 z] 84)) hfr2 (fun k e => (HY.out k e).1)
      have hN2 := row_fr (row_alloc hN (.cells #[.int .i64 g, .int .i64 z] 84)) hfr2 (fun k e => HN.out k e)
      have hfr3 : Fr F w w2 := (hfr.alloc (.cells #[.int .i64 g, .int .i64 z] 84)).trans hfr2 HF1.out
      have HF2 : Hid (∀ k, F2 k → F k ∨ w.heap.size ≤ k) := fun k hk => (hF2 k hk).elim (fun h => HF1.out k h) (fun h => Or.inr (by simp at h; omega))
      have HY2 : Hid (∀ k, some k = (Value.slice ay Y.length cy).ownBlock → ¬ F2 k ∧ some k ≠ (Value.slice an N.length cn).ownBlock) := fun k e => ⟨fun h => (hF2 k h).elim (HY.out k e).1 (fun h => by have := (row_lt hY k e).2; simp at h; omega), (HY.out k e).2⟩
      have HN2 : Hid (∀ k, some k = (Value.slice an N.length cn).ownBlock → ¬ F2 k) := fun k e h => (hF2 k h).elim (HN.out k e) (fun h => by have := (row_lt hN k e).2; simp at h; omega)
      have hlF2 := o.lt hJ2
      clear hY hN hfr hfr2 HF1 HY HN hJ1 hF2 hlF hw0
      have hd : Hid (pts lk t (l.take (j + 1)) = if (lk t1 (g, z)).1 then (Y ++ [(g, z)], N, (lk t1 (g, z)).2) else (Y, N ++ [(g, z)], (lk t1 (g, z)).2)) := HS.out
      clear HS
      generalize (lk t1 (g, z)).2 = t2 at hJ2 hd
      cases hb : (lk t1 (g, z)).1
      · rw [hb] at hd
        have hd : Hid (pts lk t (l.take (j + 1)) = (Y, N ++ [(g, z)], t2)) := hd
        clear hb
        go_wp2_with (at_builtin; refine wpList_append_own_at _ rfl _ _ 80 rfl w.heap.size 84 i0 (.agg #[.int .i64 0, .int .i64 0]) 2 16 Try.underlying80 hi hz0 hz1 hz2 rfl (by decide) (.slice an N.length cn) N.length (ev N) rfl (row_alloc hN2 _) ⟨w2.heap.size, 0, none⟩ 1 1 [.int .i64 g, .int .i64 z] rfl rfl ?_ ?_ ?_ ?_ ?_ ?_; (intro j u hj; match j, hj with | 0, hj => (simp at hj; subst hj; simp [Addr.add]) | 1, hj => (simp at hj; subst hj; simp [Addr.add])); (intro u hu; simp at hu; rcases hu with hu | hu <;> (subst hu; rfl)); (unfold maxLen; omega); omega; (simp; omega); intro v' w4 hown4 hgrow4 _ hloc4; obtain ⟨b4, cap4, ev4⟩ := row_shape hown4 (Nat.succ_pos _); subst ev4)
        have hN4 : w4.ownsRow w.heap.size 84 2 (.slice (some ⟨b4, 0, none⟩) (N ++ [(g, z)]).length cap4) (N ++ [(g, z)]).length (ev (N ++ [(g, z)])) := by
          rw [ev_append]
          simpa [ev] using hown4
        have hJ4 := grow_ob o hJ2 hgrow4 (fun k e => HN2.out k e)
        have hY4 := grow_row hY2 hgrow4 (fun k e => (HY2.out k e).2)
        have hfr4 := (hfr3.alloc (.cells #[.int .i64 g, .int .i64 z] 84)).grown hgrow4 (fun k e => Or.inr (row_lt hN2 k e.symm).1)
        have hbl4 : some b4 = (Value.slice an N.length cn).ownBlock ∨ b4 = w2.heap.size + 1 := hloc4.imp id (fun e => by simpa [Value.ownBlock] using e)
        have HY4 : Hid (∀ k, some k = (Value.slice ay Y.length cy).ownBlock → ¬ F2 k ∧ some k ≠ some b4) := fun k e => ⟨(HY2.out k e).1, fun e' => hbl4.elim (fun h => (HY2.out k e).2 (e'.trans h)) (fun h => by have := (row_lt hY2 k e).2; simp at e'; omega)⟩
        have HN4 : Hid (∀ k, some k = some b4 → ¬ F2 k) := fun k e h => hbl4.elim (fun h' => HN2.out k (e.trans h') h) (fun h' => by have := hlF2 k h; simp at e; omega)
        clear hown4 hgrow4 hloc4 hbl4 hY2 hN2 hfr3 HY2 HN2 hJ2 x1 x2 x3 x4
        go_wp2_with fail
        go_roundw
        case rel => exact ⟨j + 1, Y, N ++ [(g, z)], ay, some ⟨b4, 0, none⟩, cy, cap4, F2, t2, by omega, by go_num, hd, rfl, by simp, hY4, hN4, hJ4, hfr4, HF2, HY4, HN4⟩
        case measure => simp [intOf]; omega
      · rw [hb] at hd
        have hd : Hid (pts lk t (l.take (j + 1)) = (Y ++ [(g, z)], N, t2)) := hd
        clear hb
        go_wp2_with (at_builtin; refine wpList_append_own_at _ rfl _ _ 80 rfl w.heap.size 84 i0 (.agg #[.int .i64 0, .int .i64 0]) 2 16 Try.underlying80 hi hz0 hz1 hz2 rfl (by decide) (.slice ay Y.length cy) Y.length (ev Y) rfl (row_alloc hY2 _) ⟨w2.heap.size, 0, none⟩ 1 1 [.int .i64 g, .int .i64 z] rfl rfl ?_ ?_ ?_ ?_ ?_ ?_; (intro j u hj; match j, hj with | 0, hj => (simp at hj; subst hj; simp [Addr.add]) | 1, hj => (simp at hj; subst hj; simp [Addr.add])); (intro u hu; simp at hu; rcases hu with hu | hu <;> (subst hu; rfl)); (unfold maxLen; omega); omega; (simp; omega); intro v' w4 hown4 hgrow4 _ hloc4; obtain ⟨b4, cap4, ev4⟩ := row_shape hown4 (Nat.succ_pos _); subst ev4)
        have hY4 : w4.ownsRow w.heap.size 84 2 (.slice (some ⟨b4, 0, none⟩) (Y ++ [(g, z)]).length cap4) (Y ++ [(g, z)]).length (ev (Y ++ [(g, z)])) := by
          rw [ev_append]
          simpa [ev] using hown4
        have hJ4 := grow_ob o hJ2 hgrow4 (fun k e => (HY2.out k e).1)
        have hN4 := grow_row hN2 hgrow4 (fun k e e' => (HY2.out k e').2 e)
        have hfr4 := (hfr3.alloc (.cells #[.int .i64 g, .int .i64 z] 84)).grown hgrow4 (fun k e => Or.inr (row_lt hY2 k e.symm).1)
        have hbl4 : some b4 = (Value.slice ay Y.length cy).ownBlock ∨ b4 = w2.heap.size + 1 := hloc4.imp id (fun e => by simpa [Value.ownBlock] using e)
        have HY4 : Hid (∀ k, some k = some b4 → ¬ F2 k ∧ some k ≠ (Value.slice an N.length cn).ownBlock) := fun k e => ⟨fun h => hbl4.elim (fun h' => (HY2.out k (e.trans h')).1 h) (fun h' => by have := hlF2 k h; simp at e; omega), fun e' => hbl4.elim (fun h => (HY2.out k (e.trans h)).2 e') (fun h => by have := (row_lt hN2 k e').2; simp at e; omega)⟩
        clear hown4 hgrow4 hloc4 hbl4 hY2 hN2 hfr3 HY2 hJ2 x1 x2 x3 x4
        go_wp2_with fail
        go_roundw
        case rel => exact ⟨j + 1, Y ++ [(g, z)], N, some ⟨b4, 0, none⟩, an, cap4, cn, F2, t2, by omega, by go_num, hd, by simp, rfl, hY4, hN4, hJ4, hfr4, HF2, HY4, HN2⟩
        case measure => simp [intOf]; omega
    · obtain rfl : j = l.length := by omega
      rw [List.take_length] at HE
      go_wp2_with fail
      go_ret2
      rw [HE.out]
      exact ⟨_, _, _, _, F1, rfl, hY, hN, hJ1, hfr, HF1.out, fun k e => (HY.out k e).1, HN.out⟩

/-- A list that is apart from what is looked at may be read throughout. -/
theorem Lp.apart {τ : Type} {o : Ob τ} {F : Nat → Prop} {w : World} {ad : Option Addr} {l : List En} (h : Lp w ad l) (hF : 0 < l.length → ∀ z, ad = some z → ¬ F z.block) : ∀ F' t' w', o.J F' t' w' → Fr F w w' → Lp w' ad l := fun _ _ _ _ hfr =>
  h.keep hfr.size (fun hp z e => by
    obtain ⟨b0, o0, e0, hb0, _⟩ := h hp
    rw [e] at e0
    cases e0
    exact hfr.block _ hb0 (hF hp _ e))

/-- All blocks of a world. -/
def allOb (w0 : World) : Ob Unit where
  J F _ w := (∀ k, F k ↔ k < w0.heap.size) ∧ w0.heap.size ≤ w.heap.size ∧ ∀ k, k < w0.heap.size → w.heap[k]? = w0.heap[k]?
  lt := by
    rintro F t w ⟨h1, h2, h3⟩ k hk
    have := (h1 k).1 hk
    omega
  keep := by
    rintro F t w w' ⟨h1, h2, h3⟩ hs hk
    exact ⟨h1, by omega, fun k h => (hk k ((h1 k).2 h)).trans (h3 k h)⟩

theorem pts_pure {σ : Type} (p : σ → En → Bool) (s : σ) (l : List En) : pts (fun s e => (p s e, s)) s l = (l.filter (p s), l.filter (fun e => !p s e), s) := by
  have key : ∀ (l Y N : List En), l.foldl (pstep (fun s e => (p s e, s))) (Y, N, s) = (Y ++ l.filter (p s), N ++ l.filter (fun e => !p s e), s) := by
    intro l
    induction l with
    | nil => intro Y N; simp
    | cons e r ih =>
      intro Y N
      rw [List.foldl_cons]
      cases h : p s e
      · simp [pstep, h, ih]
      · simp [pstep, h, ih]
  simpa [pts] using key l [] []

/-- By a look that changes nothing. -/
theorem parted_pure (D : En → Prop) (f : Nat) (b c : Array Value) (p : En → Bool) (hf : Ent f) (w : World)
    (hl : ∀ (w' : World) (e : En), D e → w.heap.size ≤ w'.heap.size → (∀ k, k < w.heap.size → w'.heap[k]? = w.heap[k]?) → Calls Try.prog f (b.push (en e) ++ c) w' fun r w'' => r = .returned (.bool (p e)) ∧ Below w'.heap.size w' w'')
    (l : List En) (ad : Option Addr) (cap : Nat) (hD : ∀ e ∈ l, D e) (hm : l.length ≤ 100000) (hp : Lp w ad l) :
    Calls Try.prog 114 #[.slice ad l.length cap, .func (.func f) b c] w fun r w' => ∃ a1 c1 a2 c2, r = .returned (.tuple #[.slice a1 (l.filter p).length c1, .slice a2 (l.filter (fun e => !p e)).length c2]) ∧ w'.ownsRow w.heap.size 84 2 (.slice a1 (l.filter p).length c1) (l.filter p).length (ev (l.filter p)) ∧
      w'.ownsRow w.heap.size 84 2 (.slice a2 (l.filter (fun e => !p e)).length c2) (l.filter (fun e => !p e)).length (ev (l.filter (fun e => !p e))) ∧ Below w.heap.size w w' := by
  have P := parted_any (allOb w) D (fun _ => True) f b c (fun _ e => (p e, ())) hf (by
      rintro F t w1 e hD _ ⟨j1, j2, j3⟩
      refine (hl w1 e hD j2 j3).mono ?_
      rintro r w2 ⟨rfl, hb⟩
      exact ⟨F, rfl, (allOb w).below ⟨j1, j2, j3⟩ hb, Fr.of hb, fun k h => Or.inl h⟩) l ad cap (fun k => k < w.heap.size) () w hD (fun _ _ => trivial) hm ⟨fun k => Iff.rfl, Nat.le_refl _, fun _ _ => rfl⟩
    (by
      rintro F' t' w' ⟨j1, j2, j3⟩ _
      refine hp.keep j2 (fun hq z e => ?_)
      obtain ⟨b0, o0, e0, hb0, _⟩ := hp hq
      rw [e] at e0
      cases e0
      exact j3 _ hb0)
  rw [pts_pure (fun _ e => p e) () l] at P
  refine P.mono ?_
  rintro r w' ⟨a1, c1, a2, c2, F', rfl, hY, hN, ⟨j1, j2, j3⟩, hfr, _, _, _⟩
  exact ⟨a1, c1, a2, c2, rfl, hY, hN, hfr.os, hfr.tape, hfr.output, hfr.size, j3⟩

end Go.Proofs.Ythlfgddhkffilaa
