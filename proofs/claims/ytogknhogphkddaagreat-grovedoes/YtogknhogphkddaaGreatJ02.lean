/- Joined: Sd, Sd1, Vp4, Wp. -/
import Derived.Test.YtogknhogphkddaaGreatJ01
import Derived.Test.YtogknhogphkddaaGreatJ00
import Derived.Deep.RegionHeld3
import Derived.ArgAppend
import Derived.Deep.RegionLawGrows
/- Looks that are handed over, over whatever memory they have of their own: contracts of with, Clip, Clone, parted, told. -/
namespace Go.Proofs.YtogknhogphkddaaGreat
open Go.RowKit W Kp Stl

theorem infoEn : (Tryz.prog.info? 100).map (fun i => (i.zero, i.size, i.bytes)) = some (some (.agg #[.int .i64 0, .int .i64 0]), 2, 16) := by kernel_rfl

abbrev en (e : En) : Value := .agg #[.int .i64 e.1, .int .i64 e.2]

structure Ob (τ : Type) where
  J : (Nat → Prop) → τ → World → Prop
  lt : ∀ {F t w}, J F t w → ∀ k, F k → k < w.heap.size
  keep : ∀ {F t w w'}, J F t w → w.heap.size ≤ w'.heap.size → (∀ k, F k → w'.heap[k]? = w.heap[k]?) → J F t w'

theorem Ob.fr {τ : Type} (o : Ob τ) {F X : Nat → Prop} {t : τ} {w w' : World} (h : o.J F t w) (f : Fr X w w') (hx : ∀ k, F k → ¬ X k) : o.J F t w' := o.keep h f.size (fun k hk => f.block k (o.lt h k hk) (hx k hk))
theorem Ob.below {τ : Type} (o : Ob τ) {F : Nat → Prop} {t : τ} {w w' : World} (h : o.J F t w) (f : Below w.heap.size w w') : o.J F t w' := o.keep h f.size (fun k hk => f.block k (o.lt h k hk))

def Ent (f : Nat) : Prop := ∀ (args : Array Value) (w : World), (callFunc f args).run Tryz.prog w = .ok (.enter f args) w
theorem ent_of {f : Nat} {fn : Func} {c : Code} (hf : Tryz.prog.funcs[f]? = some fn) (hname : (fn.name == "runtime.NumGoroutine") = false) (hb : fn.body = some c) : Ent f := by
  intro args w
  have h1 : fn.name ≠ "runtime.NumGoroutine" := by simpa using hname
  simp [callFunc, hf, h1, hb]

/-! ### a row of its own grows: what else stands -/
theorem grow_ob {τ : Type} (o : Ob τ) {F : Nat → Prop} {t : τ} {w w4 : World} {ob : Obj} {vb : Option Nat} (h : o.J F t w) (hg : (w.alloc ob).grownBy w4 vb) (hne : ∀ k, some k = vb → ¬ F k) : o.J F t w4 :=
  o.keep h (by have := hg.size; simp at this; omega) (fun k hk => (hg.block k (by have := o.lt h k hk; simp; omega) (fun e => hne k e hk)).trans (Below.heap_alloc _ _ _ (o.lt h k hk)))
theorem grow_row {w w4 : World} {base n m : Nat} {e : TypeId} {v : Value} {l : List Value} {ob : Obj} {vb : Option Nat} (h : w.ownsRow base e m v n l) (hg : (w.alloc ob).grownBy w4 vb) (hne : ∀ k, some k = v.ownBlock → some k ≠ vb) : w4.ownsRow base e m v n l :=
  row_keep h (fun k hk => (hg.block k (by have := (row_lt h k hk).2; simp; omega) (hne k hk)).trans (Below.heap_alloc _ _ _ (row_lt h k hk).2))
theorem row_alloc {w : World} {base n m : Nat} {e : TypeId} {v : Value} {l : List Value} (h : w.ownsRow base e m v n l) (ob : Obj) : (w.alloc ob).ownsRow base e m v n l :=
  row_keep h (fun k hk => Below.heap_alloc _ _ _ (row_lt h k hk).2)

def Looks {τ : Type} (o : Ob τ) (D : En → Prop) (G : τ → Prop) (f : Nat) (b c : Array Value) (lk : τ → En → Bool × τ) : Prop :=
  ∀ F t w (e : En), D e → G t → o.J F t w → Calls Tryz.prog f (b.push (en e) ++ c) w fun r w' => ∃ F', r = .returned (.bool (lk t e).1) ∧ o.J F' (lk t e).2 w' ∧ Fr F w w' ∧ ∀ k, F' k → F k ∨ w.heap.size ≤ k

def pstep {τ : Type} (lk : τ → En → Bool × τ) (s : List En × List En × τ) (e : En) : List En × List En × τ :=
  if (lk s.2.2 e).1 then (s.1 ++ [e], s.2.1, (lk s.2.2 e).2) else (s.1, s.2.1 ++ [e], (lk s.2.2 e).2)
def pts {τ : Type} (lk : τ → En → Bool × τ) (t : τ) (l : List En) : List En × List En × τ := l.foldl (pstep lk) ([], [], t)
theorem pts_snoc {τ : Type} (lk : τ → En → Bool × τ) (t : τ) (l : List En) (e : En) : pts lk t (l ++ [e]) = pstep lk (pts lk t l) e := by simp [pts, List.foldl_append]
theorem pts_len {τ : Type} (lk : τ → En → Bool × τ) (t : τ) (l : List En) : (pts lk t l).1.length + (pts lk t l).2.1.length = l.length := by
  have key : ∀ (l : List En) (s : List En × List En × τ), (l.foldl (pstep lk) s).1.length + (l.foldl (pstep lk) s).2.1.length = s.1.length + s.2.1.length + l.length := by
    intro l
    induction l with
    | nil => intro s; simp
    | cons e r ih =>
      intro s
      rw [List.foldl_cons, ih]
      unfold pstep
      split <;> simp <;> omega
  simpa [pts] using key l ([], [], t)

set_option maxRecDepth 100000 in
set_option maxHeartbeats 1000000 in
theorem parted_any {τ : Type} (o : Ob τ) (D : En → Prop) (G : τ → Prop) (f : Nat) (b c : Array Value) (lk : τ → En → Bool × τ) (hf : Ent f) (hl : Looks o D G f b c lk) (l : List En) (ad : Option Addr) (cap : Nat) (F : Nat → Prop) (t : τ) (w : World)
    (hD : ∀ e ∈ l, D e) (hG : ∀ j, j < l.length → G (pts lk t (l.take j)).2.2) (hm : l.length ≤ 100000) (hJ : o.J F t w) (hp : ∀ F' t' w', o.J F' t' w' → Fr F w w' → Lp w' ad l) :
    Calls Tryz.prog 103 #[.slice ad l.length cap, .func (.func f) b c] w fun r w' => ∃ a1 c1 a2 c2 F', r = .returned (.tuple #[.slice a1 (pts lk t l).1.length c1, .slice a2 (pts lk t l).2.1.length c2]) ∧ w'.ownsRow w.heap.size 100 2 (.slice a1 (pts lk t l).1.length c1) (pts lk t l).1.length (ev (pts lk t l).1) ∧
      w'.ownsRow w.heap.size 100 2 (.slice a2 (pts lk t l).2.1.length c2) (pts lk t l).2.1.length (ev (pts lk t l).2.1) ∧ o.J F' (pts lk t l).2.2 w' ∧ Fr F w w' ∧ (∀ k, F' k → F k ∨ w.heap.size ≤ k) ∧ (∀ k, some k = (Value.slice a1 (pts lk t l).1.length c1).ownBlock → ¬ F' k) ∧ (∀ k, some k = (Value.slice a2 (pts lk t l).2.1.length c2).ownBlock → ¬ F' k) := by
  obtain ⟨i0, hi, hz0, hz1, hz2⟩ := info_parts infoEn
  have HL : Hid (Looks o D G f b c lk) := hl
  have HG : Hid (∀ j, j < l.length → G (pts lk t (l.take j)).2.2) := hG
  clear hG
  clear hl
  have HP : Hid (∀ F' t' w', o.J F' t' w' → Fr F w w' → Lp w' ad l) := hp
  clear hp
  have hcf : ∀ (args : Array Value) (w : World), (callFunc f args).run Tryz.prog w = .ok (.enter f args) w := hf
  clear hf
  go_enter Tryz.func103, Tryz.ntmps103
  go_wp2_with fail
  go_loopw [6, 7, 12] (fun vy vn iv wr => ∃ (j : Nat) (Y N : List En) (ay an : Option Addr) (cy cn : Nat) (F1 : Nat → Prop) (t1 : τ), j ≤ l.length ∧ iv = .int .i64 j ∧ Hid (pts lk t (l.take j) = (Y, N, t1)) ∧ vy = .slice ay Y.length cy ∧ vn = .slice an N.length cn ∧
      wr.ownsRow w.heap.size 100 2 (.slice ay Y.length cy) Y.length (ev Y) ∧ wr.ownsRow w.heap.size 100 2 (.slice an N.length cn) N.length (ev N) ∧ o.J F1 t1 wr ∧ Fr F w wr ∧ Hid (∀ k, F1 k → F k ∨ w.heap.size ≤ k) ∧
      Hid (∀ k, some k = (Value.slice ay Y.length cy).ownBlock → ¬ F1 k ∧ some k ≠ (Value.slice an N.length cn).ownBlock) ∧ Hid (∀ k, some k = (Value.slice an N.length cn).ownBlock → ¬ F1 k)) (fun _ _ iv _ => l.length - (intOf iv).toNat)
  case atStart => exact ⟨0, [], [], none, none, 0, 0, F, t, Nat.zero_le _, rfl, rfl, rfl, rfl, World.ownsRow_nil _ _ _ _, World.ownsRow_nil _ _ _ _, hJ, Fr.refl _ _, fun k h => Or.inl h, fun k e => by simp [Value.ownBlock] at e, fun k e => by simp [Value.ownBlock] at e⟩
  case round =>
    obtain ⟨j, Y, N, ay, an, cy, cn, F1, t1, hj, rfl, HE, rfl, rfl, hY, hN, hJ1, hfr, HF1, HY, HN⟩ := hrel
    by_cases hlt : j < l.length
    · obtain ⟨b0, o0, e0, hb0, hc⟩ := HP.out F1 t1 wr hJ1 hfr (by omega)
      obtain ⟨x1, x2⟩ := hc j hlt
      clear hc
      have hde : D (l.getD j (0, 0)) := hD _ (by rw [List.getD_eq_getElem?_getD, List.getElem?_eq_getElem hlt]; exact List.getElem_mem hlt)
      have hgt : G t1 := by have := HG.out j hlt; rw [HE.out] at this; exact this
      have HS := pts_snoc lk t (l.take j) (l.getD j (0, 0))
      rw [← take_snoc l j hlt (0, 0), HE.out] at HS
      have HS : Hid (pts lk t (l.take (j + 1)) = pstep lk (Y, N, t1) ((l.getD j (0, 0)).1, (l.getD j (0, 0)).2)) := HS
      have hde : D ((l.getD j (0, 0)).1, (l.getD j (0, 0)).2) := hde
      generalize (l.getD j (0, 0)).1 = g at x1 HS hde
      generalize (l.getD j (0, 0)).2 = z at x2 HS hde
      subst e0
      have hYl : Y.length + N.length ≤ 100000 := by
        have h1 := pts_len lk t (l.take j)
        rw [HE.out] at h1
        simp at h1
        omega
      have hsz := hfr.size
      have hlF := o.lt hJ1
      go_wp2_with fail
      refine (HL.out F1 t1 _ (g, z) hde hgt (o.below hJ1 ((Below.refl _ _).alloc (Nat.le_refl _) _))).mono ?_
      rintro e w2 ⟨F2, rfl, hJ2, hfr2, hF2⟩
      have hs2 := hfr2.size
      simp at hs2
      have hw0 : ¬ F1 wr.heap.size := fun h => by have := hlF _ h; omega
      have hblk : w2.heap[wr.heap.size]? = some (.cells #[.int .i64 g, .int .i64 z] 100 (0, 0)) := (hfr2.block _ (by simp) hw0).trans (heap_alloc_new _ _)
      have x3 : w2.cell? ⟨wr.heap.size, 0, none⟩ = some (.int .i64 g) := by simp [World.cell?, hblk]
      have x4 : w2.cell? ⟨wr.heap.size, 1, none⟩ = some (.int .i64 z) := by simp [World.cell?, hblk]
      have hlt2 : wr.heap.size < w2.heap.size := by omega
      clear hblk
      have hY2 := row_fr (row_alloc hY (.cells #[.int .i64 g, .int .i64 z] 100)) hfr2 (fun k e => (HY.out k e).1)
      have hN2 := row_fr (row_alloc hN (.cells #[.int .i64 g, .int .i64 z] 100)) hfr2 (fun k e => HN.out k e)
      have hfr3 : Fr F w w2 := (hfr.alloc (.cells #[.int .i64 g, .int .i64 z] 100)).trans hfr2 HF1.out
      have HF2 : Hid (∀ k, F2 k → F k ∨ w.heap.size ≤ k) := fun k hk => (hF2 k hk).elim (fun h => HF1.out k h) (fun h => Or.inr (by simp at h; omega))
      have HY2 : Hid (∀ k, some k = (Value.slice ay Y.length cy).ownBlock → ¬ F2 k ∧ some k ≠ (Value.slice an N.length cn).ownBlock) := fun k e => ⟨fun h => (hF2 k h).elim (HY.out k e).1 (fun h => by have := (row_lt hY k e).2; simp at h; omega), (HY.out k e).2⟩
      have HN2 : Hid (∀ k, some k = (Value.slice an N.length cn).ownBlock → ¬ F2 k) := fun k e h => (hF2 k h).elim (HN.out k e) (fun h => by have := (row_lt hN k e).2; simp at h; omega)
      have hlF2 := o.lt hJ2
      clear hY hN hfr hfr2 HF1 HY HN hJ1 hF2 hlF hw0
      have hd : Hid (pts lk t (l.take (j + 1)) = if (lk t1 (g, z)).1 then (Y ++ [(g, z)], N, (lk t1 (g, z)).2) else (Y, N ++ [(g, z)], (lk t1 (g, z)).2)) := HS.out
      clear HS
      generalize (lk t1 (g, z)).2 = t2 at hJ2 hd
      cases hb : (lk t1 (g, z)).1
      · rw [hb] at hd
        have hd : Hid (pts lk t (l.take (j + 1)) = (Y, N ++ [(g, z)], t2)) := hd
        clear hb
        go_wp2_with (at_builtin; refine wpList_append_own_at _ rfl _ _ 49 rfl w.heap.size 100 i0 (.agg #[.int .i64 0, .int .i64 0]) 2 16 Tryz.underlying49 hi hz0 hz1 hz2 rfl (by decide) (.slice an N.length cn) N.length (ev N) rfl (row_alloc hN2 _) ⟨w2.heap.size, 0, none⟩ 1 1 [.int .i64 g, .int .i64 z] rfl rfl ?_ ?_ ?_ ?_ ?_ ?_; (intro j u hj; match j, hj with | 0, hj => (simp at hj; subst hj; simp [Addr.add]) | 1, hj => (simp at hj; subst hj; simp [Addr.add])); (intro u hu; simp at hu; rcases hu with hu | hu <;> (subst hu; rfl)); (unfold maxLen; omega); omega; (simp; omega); intro v' w4 hown4 hgrow4 _ hloc4; obtain ⟨b4, cap4, ev4⟩ := row_shape hown4 (Nat.succ_pos _); subst ev4)
        have hN4 : w4.ownsRow w.heap.size 100 2 (.slice (some ⟨b4, 0, none⟩) (N ++ [(g, z)]).length cap4) (N ++ [(g, z)]).length (ev (N ++ [(g, z)])) := by
          rw [ev_append]
          simpa [ev] using hown4
        have hJ4 := grow_ob o hJ2 hgrow4 (fun k e => HN2.out k e)
        have hY4 := grow_row hY2 hgrow4 (fun k e => (HY2.out k e).2)
        have hfr4 := (hfr3.alloc (.cells #[.int .i64 g, .int .i64 z] 100)).grown hgrow4 (fun k e => Or.inr (row_lt hN2 k e.symm).1)
        have hbl4 : some b4 = (Value.slice an N.length cn).ownBlock ∨ b4 = w2.heap.size + 1 := hloc4.imp id (fun e => by simpa [Value.ownBlock] using e)
        have HY4 : Hid (∀ k, some k = (Value.slice ay Y.length cy).ownBlock → ¬ F2 k ∧ some k ≠ some b4) := fun k e => ⟨(HY2.out k e).1, fun e' => hbl4.elim (fun h => (HY2.out k e).2 (e'.trans h)) (fun h => by have := (row_lt hY2 k e).2; simp at e'; omega)⟩
        have HN4 : Hid (∀ k, some k = some b4 → ¬ F2 k) := fun k e h => hbl4.elim (fun h' => HN2.out k (e.trans h') h) (fun h' => by have := hlF2 k h; simp at e; omega)
        clear hown4 hgrow4 hloc4 hbl4 hY2 hN2 hfr3 HY2 HN2 hJ2 x1 x2 x3 x4
        go_wp2_with fail
        go_roundw
        case rel => exact ⟨j + 1, Y, N ++ [(g, z)], ay, some ⟨b4, 0, none⟩, cy, cap4, F2, t2, by omega, by go_num, hd, rfl, by simp, hY4, hN4, hJ4, hfr4, HF2, HY4, HN4⟩
        case measure => simp [intOf]; omega
      · rw [hb] at hd
        have hd : Hid (pts lk t (l.take (j + 1)) = (Y ++ [(g, z)], N, t2)) := hd
        clear hb
        go_wp2_with (at_builtin; refine wpList_append_own_at _ rfl _ _ 49 rfl w.heap.size 100 i0 (.agg #[.int .i64 0, .int .i64 0]) 2 16 Tryz.underlying49 hi hz0 hz1 hz2 rfl (by decide) (.slice ay Y.length cy) Y.length (ev Y) rfl (row_alloc hY2 _) ⟨w2.heap.size, 0, none⟩ 1 1 [.int .i64 g, .int .i64 z] rfl rfl ?_ ?_ ?_ ?_ ?_ ?_; (intro j u hj; match j, hj with | 0, hj => (simp at hj; subst hj; simp [Addr.add]) | 1, hj => (simp at hj; subst hj; simp [Addr.add])); (intro u hu; simp at hu; rcases hu with hu | hu <;> (subst hu; rfl)); (unfold maxLen; omega); omega; (simp; omega); intro v' w4 hown4 hgrow4 _ hloc4; obtain ⟨b4, cap4, ev4⟩ := row_shape hown4 (Nat.succ_pos _); subst ev4)
        have hY4 : w4.ownsRow w.heap.size 100 2 (.slice (some ⟨b4, 0, none⟩) (Y ++ [(g, z)]).length cap4) (Y ++ [(g, z)]).length (ev (Y ++ [(g, z)])) := by
          rw [ev_append]
          simpa [ev] using hown4
        have hJ4 := grow_ob o hJ2 hgrow4 (fun k e => (HY2.out k e).1)
        have hN4 := grow_row hN2 hgrow4 (fun k e e' => (HY2.out k e').2 e)
        have hfr4 := (hfr3.alloc (.cells #[.int .i64 g, .int .i64 z] 100)).grown hgrow4 (fun k e => Or.inr (row_lt hY2 k e.symm).1)
        have hbl4 : some b4 = (Value.slice ay Y.length cy).ownBlock ∨ b4 = w2.heap.size + 1 := hloc4.imp id (fun e => by simpa [Value.ownBlock] using e)
        have HY4 : Hid (∀ k, some k = some b4 → ¬ F2 k ∧ some k ≠ (Value.slice an N.length cn).ownBlock) := fun k e => ⟨fun h => hbl4.elim (fun h' => (HY2.out k (e.trans h')).1 h) (fun h' => by have := hlF2 k h; simp at e; omega), fun e' => hbl4.elim (fun h => (HY2.out k (e.trans h)).2 e') (fun h => by have := (row_lt hN2 k e').2; simp at e; omega)⟩
        clear hown4 hgrow4 hloc4 hbl4 hY2 hN2 hfr3 HY2 hJ2 x1 x2 x3 x4
        go_wp2_with fail
        go_roundw
        case rel => exact ⟨j + 1, Y ++ [(g, z)], N, some ⟨b4, 0, none⟩, an, cap4, cn, F2, t2, by omega, by go_num, hd, by simp, rfl, hY4, hN4, hJ4, hfr4, HF2, HY4, HN2⟩
        case measure => simp [intOf]; omega
    · obtain rfl : j = l.length := by omega
      rw [List.take_length] at HE
      go_wp2_with fail
      go_ret2
      rw [HE.out]
      exact ⟨_, _, _, _, F1, rfl, hY, hN, hJ1, hfr, HF1.out, fun k e => (HY.out k e).1, HN.out⟩

theorem Lp.apart {τ : Type} {o : Ob τ} {F : Nat → Prop} {w : World} {ad : Option Addr} {l : List En} (h : Lp w ad l) (hF : 0 < l.length → ∀ z, ad = some z → ¬ F z.block) : ∀ F' t' w', o.J F' t' w' → Fr F w w' → Lp w' ad l := fun _ _ _ _ hfr =>
  h.keep hfr.size (fun hp z e => by
    obtain ⟨b0, o0, e0, hb0, _⟩ := h hp
    rw [e] at e0
    cases e0
    exact hfr.block _ hb0 (hF hp _ e))

def allOb (w0 : World) : Ob Unit where
  J F _ w := (∀ k, F k ↔ k < w0.heap.size) ∧ w0.heap.size ≤ w.heap.size ∧ ∀ k, k < w0.heap.size → w.heap[k]? = w0.heap[k]?
  lt := by
    rintro F t w ⟨h1, h2, h3⟩ k hk
    have := (h1 k).1 hk
    omega
  keep := by
    rintro F t w w' ⟨h1, h2, h3⟩ hs hk
    exact ⟨h1, by omega, fun k h => (hk k ((h1 k).2 h)).trans (h3 k h)⟩

theorem pts_pure {σ : Type} (p : σ → En → Bool) (s : σ) (l : List En) : pts (fun s e => (p s e, s)) s l = (l.filter (p s), l.filter (fun e => !p s e), s) := by
  have key : ∀ (l Y N : List En), l.foldl (pstep (fun s e => (p s e, s))) (Y, N, s) = (Y ++ l.filter (p s), N ++ l.filter (fun e => !p s e), s) := by
    intro l
    induction l with
    | nil => intro Y N; simp
    | cons e r ih =>
      intro Y N
      rw [List.foldl_cons]
      cases h : p s e
      · simp [pstep, h, ih]
      · simp [pstep, h, ih]
  simpa [pts] using key l [] []

theorem parted_pure (D : En → Prop) (f : Nat) (b c : Array Value) (p : En → Bool) (hf : Ent f) (w : World)
    (hl : ∀ (w' : World) (e : En), D e → w.heap.size ≤ w'.heap.size → (∀ k, k < w.heap.size → w'.heap[k]? = w.heap[k]?) → Calls Tryz.prog f (b.push (en e) ++ c) w' fun r w'' => r = .returned (.bool (p e)) ∧ Below w'.heap.size w' w'')
    (l : List En) (ad : Option Addr) (cap : Nat) (hD : ∀ e ∈ l, D e) (hm : l.length ≤ 100000) (hp : Lp w ad l) :
    Calls Tryz.prog 103 #[.slice ad l.length cap, .func (.func f) b c] w fun r w' => ∃ a1 c1 a2 c2, r = .returned (.tuple #[.slice a1 (l.filter p).length c1, .slice a2 (l.filter (fun e => !p e)).length c2]) ∧ w'.ownsRow w.heap.size 100 2 (.slice a1 (l.filter p).length c1) (l.filter p).length (ev (l.filter p)) ∧
      w'.ownsRow w.heap.size 100 2 (.slice a2 (l.filter (fun e => !p e)).length c2) (l.filter (fun e => !p e)).length (ev (l.filter (fun e => !p e))) ∧ Below w.heap.size w w' := by
  have P := parted_any (allOb w) D (fun _ => True) f b c (fun _ e => (p e, ())) hf (by
      rintro F t w1 e hD _ ⟨j1, j2, j3⟩
      refine (hl w1 e hD j2 j3).mono ?_
      rintro r w2 ⟨rfl, hb⟩
      exact ⟨F, rfl, (allOb w).below ⟨j1, j2, j3⟩ hb, Fr.of hb, fun k h => Or.inl h⟩) l ad cap (fun k => k < w.heap.size) () w hD (fun _ _ => trivial) hm ⟨fun k => Iff.rfl, Nat.le_refl _, fun _ _ => rfl⟩
    (by
      rintro F' t' w' ⟨j1, j2, j3⟩ _
      refine hp.keep j2 (fun hq z e => ?_)
      obtain ⟨b0, o0, e0, hb0, _⟩ := hp hq
      rw [e] at e0
      cases e0
      exact j3 _ hb0)
  rw [pts_pure (fun _ e => p e) () l] at P
  refine P.mono ?_
  rintro r w' ⟨a1, c1, a2, c2, F', rfl, hY, hN, ⟨j1, j2, j3⟩, hfr, _, _, _⟩
  exact ⟨a1, c1, a2, c2, rfl, hY, hN, hfr.os, hfr.tape, hfr.output, hfr.size, j3⟩

end Go.Proofs.YtogknhogphkddaaGreat

/- Lists of entries: Clip, with, Clone: contracts. -/
namespace Go.Proofs.YtogknhogphkddaaGreat
open Go.RowKit W Kp Stl

set_option maxRecDepth 100000 in
set_option maxHeartbeats 400000 in
theorem clip_any (w : World) (ad : Option Addr) (n cap : Nat) (h1 : n ≤ cap) :
    Calls Tryz.prog 82 #[.slice ad n cap] w fun e w' => e = .returned (.slice ad n n) ∧ w' = w := by
  go_enter Tryz.func82, Tryz.ntmps82
  go_wp2_with fail
  go_ret
  exact ⟨rfl, rfl⟩

structure Li (w : World) (ad : Option Addr) (l : List En) (cap : Nat) : Prop where
  lp : Lp w ad l
  le : l.length ≤ cap
  nil : ad = none → l.length = 0 ∧ cap = 0

theorem Lp.cells {w : World} {ad : Option Addr} {q : List En} (h : Lp w ad q) : ∀ b, ad = some b → ∀ j u, (ev q)[j]? = some u → w.cell? (b.add j) = some u := by
  intro b e j u hj
  have hl := ev_length q
  have hjl : j < (ev q).length := (List.getElem?_eq_some_iff.1 hj).1
  obtain ⟨g, o, e2, hb, hc⟩ := h (by omega)
  rw [e] at e2
  cases e2
  obtain ⟨c1, c2⟩ := hc (j / 2) (by omega)
  obtain ⟨k1, k2⟩ := ev_get q (j / 2) (by omega)
  rcases Nat.mod_two_eq_zero_or_one j with hz | hz
  · have e3 : j / 2 * 2 = j := by omega
    rw [e3] at k1 c1
    rw [hj] at k1
    cases k1
    rw [Addr.add_lit]
    exact c1
  · have e3 : j / 2 * 2 + 1 = j := by omega
    have e4 : o + j / 2 * 2 + 1 = o + j := by omega
    rw [e3] at k2
    rw [e4] at c2
    rw [hj] at k2
    cases k2
    rw [Addr.add_lit]
    exact c2
theorem Lp.below {w w' : World} {ad : Option Addr} {l : List (Int × Int)} (h : Lp w ad l) (hb : Below w.heap.size w w') : Lp w' ad l :=
  h.keep hb.size (fun hp z e => by
    obtain ⟨b, o, e2, hlt, _⟩ := h hp
    rw [e] at e2
    cases e2
    exact hb.block _ hlt)

set_option maxRecDepth 100000 in
set_option maxHeartbeats 400000 in
theorem with_any (w : World) (ad : Option Addr) (q : List En) (cap : Nat) (g z : Int) (h : Li w ad q cap) (hm : q.length ≤ 100000) :
    Calls Tryz.prog 66 #[.slice ad q.length cap, .agg #[.int .i64 g, .int .i64 z]] w fun e w' => ∃ b1 cap1, e = .returned (.slice (some ⟨b1, 0, none⟩) (q.length + 1) cap1) ∧ w'.ownsRow w.heap.size 100 2 (.slice (some ⟨b1, 0, none⟩) (q.length + 1) cap1) (q.length + 1) (ev (q ++ [(g, z)])) ∧ Below w.heap.size w w' := by
  obtain ⟨i0, hi, hz0, hz1, hz2⟩ := info_parts infoEn
  have HL : Hid (Lp w ad q) := h.lp
  have HN : Hid (ad = none → q.length = 0 ∧ q.length = 0) := fun e => ⟨(h.nil e).1, (h.nil e).1⟩
  have hle := h.le
  clear h
  go_enter Tryz.func66, Tryz.ntmps66
  go_wp2_with fail
  go_region_held3 (fun w' => w'.cell? ⟨w.heap.size, 0, none⟩ = some (.int .i64 g) ∧ w'.cell? ⟨w.heap.size, 1, none⟩ = some (.int .i64 z)) (go_keep)
    (first | (go_at_call 82; refine (clip_any _ ad q.length cap hle).mono ?_; rintro e w3 ⟨rfl, rfl⟩) | (refine step_append_grows rfl (.tmp 6) (.tmp 8) 49 rfl 100 i0 (.agg #[.int .i64 0, .int .i64 0]) 2 16 Tryz.underlying49 hi hz0 hz1 hz2 rfl (by decide) ad q.length q.length (ev q) (by simp [Act.eval]) HN.out (ev_length q) (HL.out.below (by first | exact (((Below.refl _ w).alloc (Nat.le_refl _) _).alloc (by simp) _).drew | exact ((Below.refl _ w).alloc (Nat.le_refl _) _).drew.alloc (by simp) _)).cells ⟨w.heap.size + 1, 0, none⟩ 1 1 [.int .i64 g, .int .i64 z] (by simp [Act.eval]) rfl ?_ ?_ (by omega) (by unfold maxLen; omega) (by omega) ?_; (intro j u hj; match j, hj with | 0, hj => (simp at hj; subst hj; simp [Addr.add]) | 1, hj => (simp at hj; subst hj; simp [Addr.add])); (intro u hu; simp at hu; rcases hu with hu | hu <;> (subst hu; rfl)); intro v' w4 hown4 hgrow4; obtain ⟨b4, cap4, ev4⟩ := row_shape hown4 (Nat.succ_pos _); subst ev4; have y1 := hgrow4.cell (a := ⟨w.heap.size, 0, none⟩) (v := .int .i64 g) (by simp) (by simp); have y2 := hgrow4.cell (a := ⟨w.heap.size, 1, none⟩) (v := .int .i64 z) (by simp) (by simp)))
  all_goals
    go_wp2_with fail
    go_ret
    exact ⟨b4, cap4, rfl, by rw [ev_append]; exact row_base hown4 (fun k e => by have := (row_lt hown4 k e).1; simp at this; omega), by first | exact ((((Below.refl _ w).alloc (Nat.le_refl _) _).alloc (by simp) _).drew).grown hgrow4 (by simp; omega) (fun k e => by cases e) | exact (((Below.refl _ w).alloc (Nat.le_refl _) _).drew.alloc (by simp) _).grown hgrow4 (by simp; omega) (fun k e => by cases e)⟩

theorem ev_one (l : List En) : ∀ u ∈ ev l, u.oneCell' = true := by
  intro u hu
  simp only [ev, List.mem_flatMap] at hu
  obtain ⟨e, _, hu⟩ := hu
  simp at hu
  rcases hu with rfl | rfl <;> rfl

theorem owns_emptyE (w : World) : (w.alloc (.cells #[] 100)).ownsRow w.heap.size 100 2 (.slice (some ⟨w.heap.size, 0, none⟩) 0 0) 0 [] :=
  ⟨rfl, Or.inr ⟨w.heap.size, 0, #[], rfl, Nat.le_refl _, heap_alloc_new _ _, Nat.le_refl _, Nat.zero_le _, rfl, rfl⟩⟩

set_option maxRecDepth 100000 in
set_option maxHeartbeats 400000 in
theorem cloneE_any (w : World) (ad : Option Addr) (l : List En) (cap : Nat) (h : Li w ad l cap) (hm : l.length ≤ 100000) :
    Calls Tryz.prog 98 #[.slice ad l.length cap] w fun e w' => ∃ a1 c1, e = .returned (.slice a1 l.length c1) ∧ w'.ownsRow w.heap.size 100 2 (.slice a1 l.length c1) l.length (ev l) ∧ Below w.heap.size w w' := by
  obtain ⟨i0, hi, hz0, hz1, hz2⟩ := info_parts infoEn
  have qn : ∀ (w : World) (a : Option Addr) (n c : Nat), (binOp .eql 49 (.slice a n c) (.slice none 0 0)).run Tryz.prog w = .ok (.bool a.isNone) w := fun w a n c => Lib.run_eql_slice_nil w _ _ a n c 0 0 Tryz.underlying49
  have HL : Hid (Lp w ad l) := h.lp
  cases ad with
  | none =>
    have hl : l = [] := List.eq_nil_of_length_eq_zero (h.nil rfl).1
    subst hl
    clear h HL
    go_enter Tryz.func98, Tryz.ntmps98
    go_wp2_with fail
    go_ret
    exact ⟨none, 0, rfl, World.ownsRow_nil _ _ _ _, Below.refl _ _⟩
  | some a =>
    clear h
    go_enter Tryz.func98, Tryz.ntmps98
    go_wp2_with (at_builtin; refine wpList_append_own _ rfl _ _ 49 rfl w.heap.size 100 i0 (.agg #[.int .i64 0, .int .i64 0]) 2 16 Tryz.underlying49 hi hz0 hz1 hz2 rfl (by decide) _ 0 [] rfl (owns_emptyE w) a l.length cap (ev l) rfl (ev_length l) ((HL.out.below ((Below.refl _ _).alloc (Nat.le_refl _) _)).cells a rfl) (ev_one l) ?_ ?_ ?_ ?_; (unfold maxLen; omega); omega; (simp); intro v w1 hown hgrow _)
    rw [List.nil_append, Nat.zero_add] at hown
    obtain ⟨a1, c1, rfl⟩ := row_slice hown
    go_wp2_with fail
    go_ret
    exact ⟨a1, c1, rfl, hown, ((Below.refl _ _).alloc (Nat.le_refl _) _).grown hgrow (by simp) (fun k e => by cases e; exact Nat.le_refl _)⟩

end Go.Proofs.YtogknhogphkddaaGreat

/- Nodes and values in memory: where they lie. -/
namespace Go.Proofs.YtogknhogphkddaaGreat
open Go.RowKit W Kp Stl

abbrev Vnd := Int × Option Addr × Nat × List (Int × Int)
def nv (m : List Vnd) : List Value := m.flatMap fun x => [.int .i64 x.1, .slice x.2.1 x.2.2.2.length x.2.2.1]
def nds (m : List Vnd) : List (Int × List (Int × Int)) := m.map fun x => (x.1, x.2.2.2)
theorem nv_append (a b : List Vnd) : nv (a ++ b) = nv a ++ nv b := by simp [nv]
theorem nv_get : ∀ (l : List Vnd) (i : Nat) (x : Vnd), l[i]? = some x → (nv l)[i * 2]? = some (.int .i64 x.1) ∧ (nv l)[i * 2 + 1]? = some (.slice x.2.1 x.2.2.2.length x.2.2.1)
  | [], i, x, h => by simp at h
  | e :: r, 0, x, h => by
    simp at h
    subst h
    simp [nv]
  | e :: r, i + 1, x, h => by
    have h2 := nv_get r i x (by simpa using h)
    have e1 : (nv (e :: r)) = .int .i64 e.1 :: .slice e.2.1 e.2.2.2.length e.2.2.1 :: nv r := by simp [nv]
    rw [e1, show (i + 1) * 2 = i * 2 + 1 + 1 by omega]
    simpa using h2
theorem nv_set : ∀ (l : List Vnd) (i : Nat) (x : Vnd) (ad : Option Addr) (c : Nat) (vs : List (Int × Int)), l[i]? = some x → nv (l.set i (x.1, ad, c, vs)) = (nv l).set (i * 2 + 1) (.slice ad vs.length c)
  | [], _, _, _, _, _, _ => rfl
  | e :: l, 0, x, ad, c, vs, h => by
    simp at h
    subst h
    simp [nv]
  | e :: l, i + 1, x, ad, c, vs, h => by
    have ih := nv_set l i x ad c vs (by simpa using h)
    have e1 : (nv (e :: l)) = .int .i64 e.1 :: .slice e.2.1 e.2.2.2.length e.2.2.1 :: nv l := by simp [nv]
    have e2 : (nv (e :: l.set i (x.1, ad, c, vs))) = .int .i64 e.1 :: .slice e.2.1 e.2.2.2.length e.2.2.1 :: nv (l.set i (x.1, ad, c, vs)) := by simp [nv]
    rw [List.set_cons_succ, e2, e1, ih, show (i + 1) * 2 + 1 = i * 2 + 1 + 1 + 1 by omega]
    simp

theorem row_put {w : World} {base size n g cap : Nat} {e : TypeId} {xs : List Value} (h : w.ownsRow base e size (.slice (some ⟨g, 0, none⟩) n cap) n xs) (i : Nat) (u : Value) : (w.setCell ⟨g, i, none⟩ u).ownsRow base e size (.slice (some ⟨g, 0, none⟩) n cap) n (xs.set i u) := by
  refine ⟨by rw [List.length_set]; exact h.1, ?_⟩
  rcases h.2 with ⟨hv, _⟩ | ⟨g', cap', cur, hv, hb, hg, h1, h2, h3, h4⟩
  · simp at hv
  · simp at hv
    obtain ⟨rfl, rfl⟩ := hv
    refine Or.inr ⟨g, cap, cur.setIfInBounds i u, rfl, hb, ?_, h1, h2, by rw [Array.size_setIfInBounds]; exact h3, ?_⟩
    · simp only [World.setCell, Array.getElem?_modify, if_true, hg, Option.map_some]
      rfl
    · rw [Array.toList_setIfInBounds, List.take_set, h4]

def Lv (w : World) (ad : Option Addr) (l : List (Int × Int)) : Prop := Lp w ad l ∧ (0 < l.length → ∃ b o cs, ad = some ⟨b, o, none⟩ ∧ w.heap[b]? = some (.cells cs 54 (0, 0)))

section
variable {B : Nat} {w w' w'' : World}
theorem Lv.nil {ad : Option Addr} : Lv w ad [] := ⟨fun h => by simp at h, fun h => by simp at h⟩
theorem Lv.of {base cap : Nat} {ad : Option Addr} {l : List (Int × Int)} (h : w.ownsRow base 54 2 (.slice ad l.length cap) l.length (ev l)) : Lv w ad l := by
  refine ⟨row_pairs h, fun hp => ?_⟩
  obtain ⟨b0, c0, e0⟩ := row_shape h hp
  obtain ⟨cs, hc⟩ := row_type h b0 (by rw [e0]; rfl)
  cases e0
  exact ⟨b0, 0, cs, rfl, hc⟩
end

def Fb (m : List Vnd) (k : Nat) : Prop := ∃ x ∈ m, 0 < x.2.2.2.length ∧ ∃ o, x.2.1 = some ⟨k, o, none⟩

theorem row_cell {w : World} {base size n g cap : Nat} {e : TypeId} {xs : List Value} (h : w.ownsRow base e size (.slice (some ⟨g, 0, none⟩) n cap) n xs) {i : Nat} {u : Value} (hi : xs[i]? = some u) : w.cell? ⟨g, i, none⟩ = some u ∧ w.frozen? ⟨g, i, none⟩ = false := by
  rcases h.2 with ⟨hv, _⟩ | ⟨g', cap', cur, hv, hb, hg, h1, h2, h3, h4⟩
  · simp at hv
  · simp at hv
    obtain ⟨rfl, rfl⟩ := hv
    rw [← h4] at hi
    have hlt : i < n * size := by
      rcases Nat.lt_or_ge i (n * size) with c | c
      · exact c
      · rw [List.getElem?_take, if_neg (by omega)] at hi
        simp at hi
    rw [List.getElem?_take_of_lt hlt] at hi
    constructor
    · simp [World.cell?, hg]
      simpa using hi
    · simp [World.frozen?, hg]

def Ln (w : World) (ad : Option Addr) (ns : List (Int × List (Int × Int))) : Prop :=
  ∃ m : List Vnd, nds m = ns ∧ (∀ x ∈ m, Lp w x.2.1 x.2.2.2) ∧ (0 < m.length → ∃ b o, ad = some ⟨b, o, none⟩ ∧ b < w.heap.size ∧ ∀ i x, m[i]? = some x → w.cell? ⟨b, o + i * 2, none⟩ = some (.int .i64 x.1) ∧ w.cell? ⟨b, o + i * 2 + 1, none⟩ = some (.slice x.2.1 x.2.2.2.length x.2.2.1))
theorem Ln.below {w w' : World} {ad : Option Addr} {ns : List (Int × List (Int × Int))} (h : Ln w ad ns) (hb : Below w.heap.size w w') : Ln w' ad ns := by
  obtain ⟨m, h1, h2, h3⟩ := h
  refine ⟨m, h1, fun x hx => (h2 x hx).below hb, fun hp => ?_⟩
  obtain ⟨b, o, e, hl, hc⟩ := h3 hp
  exact ⟨b, o, e, Nat.lt_of_lt_of_le hl hb.size, fun i x hx => ⟨(hb.cell (p := ⟨b, o + i * 2, none⟩) hl).trans (hc i x hx).1, (hb.cell (p := ⟨b, o + i * 2 + 1, none⟩) hl).trans (hc i x hx).2⟩⟩

def LpN (w : World) (base : Nat) (ad : Option Addr) (l : List (Int × Int)) : Prop := Lp w ad l ∧ (0 < l.length → ∃ b o, ad = some ⟨b, o, none⟩ ∧ base ≤ b)
def LnN (w : World) (base : Nat) (ad : Option Addr) (ns : List (Int × List (Int × Int))) : Prop :=
  ∃ m : List Vnd, nds m = ns ∧ (∀ x ∈ m, Lp w x.2.1 x.2.2.2) ∧ (∀ k, Fb m k → base ≤ k) ∧ (0 < m.length → ∃ b o, ad = some ⟨b, o, none⟩ ∧ base ≤ b ∧ b < w.heap.size ∧ ∀ i x, m[i]? = some x → w.cell? ⟨b, o + i * 2, none⟩ = some (.int .i64 x.1) ∧ w.cell? ⟨b, o + i * 2 + 1, none⟩ = some (.slice x.2.1 x.2.2.2.length x.2.2.1))
theorem LnN.ln {w : World} {base : Nat} {ad : Option Addr} {ns : List (Int × List (Int × Int))} (h : LnN w base ad ns) : Ln w ad ns := by
  obtain ⟨m, h1, h2, _, h4⟩ := h
  exact ⟨m, h1, h2, fun hp => by
    obtain ⟨b, o, e, _, l, c⟩ := h4 hp
    exact ⟨b, o, e, l, c⟩⟩
end Go.Proofs.YtogknhogphkddaaGreat

/- The document's world: lists. -/
namespace Go.Proofs.YtogknhogphkddaaGreat
open Go.RowKit W Kp Stl

abbrev Tw1 := Int × List (Int × Int) × Bool × Bool
structure Wrs where
  T : List Tw1
  rs : List (Int × Int)
  rg : List En
  wt : List En
theorem ev_root : ∀ (l : List (Int × Int)) (i : Nat) (x : Int × Int), ev (l.set i x) = ((ev l).set (i * 2) (.int .i64 x.1)).set (i * 2 + 1) (.int .i64 x.2)
  | [], _, _ => rfl
  | e :: l, 0, x => by simp [ev]
  | e :: l, i + 1, x => by
    have ih := ev_root l i x
    have e1 : ev (e :: l) = .int .i64 e.1 :: .int .i64 e.2 :: ev l := by simp [ev]
    have e2 : ev ((e :: l).set (i + 1) x) = .int .i64 e.1 :: .int .i64 e.2 :: ev (l.set i x) := by simp [ev]
    rw [e1, e2, ih, show (i + 1) * 2 = i * 2 + 1 + 1 by omega]
    simp
def pqI (g : Int) (q : List En) : Nat := q.findIdx (fun e => e.1 == g)

end Go.Proofs.YtogknhogphkddaaGreat
