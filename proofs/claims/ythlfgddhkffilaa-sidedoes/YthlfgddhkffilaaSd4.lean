/- What Settle does of what it may do wholly: a contract, over whatever looks. -/
import Derived.Test.YthlfgddhkffilaaSd3
namespace Go.Proofs.Ythlfgddhkffilaa
open Go.RowKit W Kp Stl

/-- A Side, and what Settle lays around its looks. -/
def boxed {σ : Type} (o : SdOb σ) (bl bg bs : Nat) (fa fk fn : Fv) : Ob σ where
  J F s w := ∃ F0, o.J F0 s w ∧ Bxs w o.p bl bg bs fa fk fn ∧ ¬ F0 bl ∧ ¬ F0 bg ∧ ¬ F0 bs ∧ ∀ k, F k ↔ (F0 k ∨ k = bl ∨ k = bg ∨ k = bs)
  lt := by
    rintro F t w ⟨F0, h0, hB, _, _, _, hF⟩ k hk
    rcases (hF k).1 hk with h | rfl | rfl | rfl
    · exact o.lt h0 k h
    · exact lt_of_some hB.l
    · exact lt_of_some hB.g
    · exact lt_of_some hB.s
  keep := by
    rintro F t w w' ⟨F0, h0, hB, h1, h2, h3, hF⟩ hs hk
    exact ⟨F0, o.keep h0 hs (fun k h => hk k ((hF k).2 (Or.inl h))), ⟨(hk bl ((hF bl).2 (by simp))).trans hB.l, (hk bg ((hF bg).2 (by simp))).trans hB.g, (hk bs ((hF bs).2 (by simp))).trans hB.s⟩, h1, h2, h3, hF⟩

theorem looks_comes {σ : Type} (o : SdOb σ) (bl bg bs : Nat) (D : Int → Prop) (fa fk fn : Fv) (is : σ → Int → Bool) (kp : σ → Int → Int × σ) (he : Ent fa.f) (hek : Ent fk.f) (ha : Alives o.toOb D fa.f fa.b fa.c is) (hk : Keeps o.toOb D fk.f fk.b fk.c kp) :
    Looks (boxed o bl bg bs fa fk fn) (fun e => D e.1 ∧ D e.2) (fun s => ∀ x, (o.wt (kp s x).2).length ≤ 90000) 111 #[] #[.pointer (some ⟨bg, 0, none⟩), .pointer (some ⟨bl, 0, none⟩), .pointer (some ⟨bs, 0, none⟩)] (cm o is kp) := by
  intro F s w e hD hG hJ
  obtain ⟨F0, h0, hB, h1, h2, h3, hF⟩ := hJ
  refine (comes_any o D fa fk fn is kp he hek ha hk F0 s w bl bg bs e hD (hG e.2) h0 hB h3).mono ?_
  rintro r w' ⟨F1, rfl, hJ1, hfr, hF1⟩
  have q : ∀ k, k < w.heap.size → ¬ F0 k → ¬ F1 k := fun k hk hn h => (hF1 k h).elim hn (fun h => by omega)
  have lb := lt_of_some hB.l
  have lg := lt_of_some hB.g
  have ls := lt_of_some hB.s
  refine ⟨fun k => F1 k ∨ k = bl ∨ k = bg ∨ k = bs, rfl, ⟨F1, hJ1, ⟨(hfr.block _ lb h1).trans hB.l, (hfr.block _ lg h2).trans hB.g, (hfr.block _ ls h3).trans hB.s⟩, q _ lb h1, q _ lg h2, q _ ls h3, fun k => Iff.rfl⟩, hfr.mono (fun k h => (hF k).2 (Or.inl h)), fun k h => ?_⟩
  rcases h with h | h
  · exact (hF1 k h).imp (fun h => (hF k).2 (Or.inl h)) id
  · exact Or.inl ((hF k).2 (Or.inr h))

/-- Again and again, till nothing more comes. -/
def trn {σ : Type} (lk : σ → En → Bool × σ) : Nat → σ → List En → σ × List En
  | 0, s, d => (s, d)
  | n + 1, s, d => if (pts lk s d).1.length = 0 then ((pts lk s d).2.2, (pts lk s d).2.1) else trn lk n (pts lk s d).2.2 (pts lk s d).2.1
theorem trn_stop {σ : Type} (lk : σ → En → Bool × σ) (n : Nat) (s : σ) (d : List En) (h : (pts lk s d).1.length = 0) : trn lk (n + 1) s d = ((pts lk s d).2.2, (pts lk s d).2.1) := by rw [trn, if_pos h]
theorem trn_go {σ : Type} (lk : σ → En → Bool × σ) (n : Nat) (s : σ) (d : List En) (h : ¬ (pts lk s d).1.length = 0) : trn lk (n + 1) s d = trn lk n (pts lk s d).2.2 (pts lk s d).2.1 := by rw [trn, if_neg h]
theorem pts_mem {τ : Type} (lk : τ → En → Bool × τ) (t : τ) (l : List En) (e : En) : (e ∈ (pts lk t l).1 ∨ e ∈ (pts lk t l).2.1) → e ∈ l := by
  have key : ∀ (l : List En) (s : List En × List En × τ), (e ∈ (l.foldl (pstep lk) s).1 ∨ e ∈ (l.foldl (pstep lk) s).2.1) → e ∈ s.1 ∨ e ∈ s.2.1 ∨ e ∈ l := by
    intro l
    induction l with
    | nil => intro s h; rcases h with h | h <;> simp at h <;> simp [h]
    | cons x r ih =>
      intro s h
      rw [List.foldl_cons] at h
      have := ih _ h
      unfold pstep at this
      split at this <;> simp only [List.mem_append, List.mem_cons] at this ⊢ <;> grind
  intro h
  have := key l ([], [], t) h
  simpa using this

/-- What Settle lays for comes. -/
abbrev comesV (bg bl bs : Nat) : Value := .func (.func 111) #[] #[.pointer (some ⟨bg, 0, none⟩), .pointer (some ⟨bl, 0, none⟩), .pointer (some ⟨bs, 0, none⟩)]

/-- How many wait then. -/
theorem pts_wait {σ : Type} (o : SdOb σ) (is : σ → Int → Bool) (kp : σ → Int → Int × σ) (hl : ∀ s x, (o.wt (kp s x).2).length = (o.wt s).length) (s : σ) (l : List En) : (o.wt (pts (cm o is kp) s l).2.2).length = (o.wt s).length + (pts (cm o is kp) s l).1.length := by
  have key : ∀ (l : List En) (t : List En × List En × σ), (o.wt (l.foldl (pstep (cm o is kp)) t).2.2).length + t.1.length = (o.wt t.2.2).length + (l.foldl (pstep (cm o is kp)) t).1.length := by
    intro l
    induction l with
    | nil => intro t; simp
    | cons e r ih =>
      intro t
      rw [List.foldl_cons]
      have h := ih (pstep (cm o is kp) t e)
      cases hc : is t.2.2 e.1
      · have e1 : pstep (cm o is kp) t e = (t.1, t.2.1 ++ [e], t.2.2) := by simp [pstep, cm, hc]
        rw [e1] at h ⊢
        exact h
      · have e1 : pstep (cm o is kp) t e = (t.1 ++ [e], t.2.1, o.put (kp t.2.2 e.2).2 (o.wt (kp t.2.2 e.2).2 ++ [(e.1, (kp t.2.2 e.2).1)])) := by simp [pstep, cm, hc]
        rw [e1] at h ⊢
        dsimp only at h
        rw [o.wt_put, List.length_append, List.length_append, hl] at h
        simp at h
        omega
  have := key l ([], [], s)
  simpa [pts] using this

/-- What it comes to. -/
def stS {σ : Type} (o : SdOb σ) (is : σ → Int → Bool) (kp : σ → Int → Int × σ) (s : σ) (r : List En) : σ := (trn (cm o is kp) ((r.filter (fun e => !is s e.2)).length + 1) s (r.filter (fun e => !is s e.2))).1
def stR {σ : Type} (o : SdOb σ) (is : σ → Int → Bool) (kp : σ → Int → Int × σ) (nw : σ → Int → Int) (s : σ) (r : List En) : List En := ((r.filter (fun e => is s e.2)).filter (fun e => is (stS o is kp s r) e.1)).map fun e => (nw (stS o is kp s r) e.1, nw (stS o is kp s r) e.2)
def stQ {σ : Type} (o : SdOb σ) (is : σ → Int → Bool) (kp : σ → Int → Int × σ) (nw : σ → Int → Int) (s : σ) (r : List En) : List En := ((o.wt (stS o is kp s r)).filter (fun e => is (stS o is kp s r) e.1)).map fun e => (nw (stS o is kp s r) e.1, nw (stS o is kp s r) e.2)

/-- All that is told of the looks. -/
structure Lks {σ : Type} (o : SdOb σ) (D : Int → Prop) (fa fk fn : Fv) (is : σ → Int → Bool) (kp : σ → Int → Int × σ) (nw : σ → Int → Int) : Prop where
  ea : Ent fa.f
  ek : Ent fk.f
  en : Ent fn.f
  ha : Alives o.toOb D fa.f fa.b fa.c is
  hk : Keeps o.toOb D fk.f fk.b fk.c kp
  ht : Tells o.toOb D fn.f fn.b fn.c nw
  hl : ∀ s x, (o.wt (kp s x).2).length = (o.wt s).length

end Go.Proofs.Ythlfgddhkffilaa
