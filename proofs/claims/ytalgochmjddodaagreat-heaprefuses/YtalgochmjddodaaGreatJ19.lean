/- Joined: Mj1, Mj2, Mj3, Mj4, Mj5. -/
import Derived.Test.YtalgochmjddodaaGreatJ14
import Derived.Test.YtalgochmjddodaaGreatJ10
import Derived.Test.YtalgochmjddodaaGreatJ11
import Derived.Test.YtalgochmjddodaaGreatJ12
namespace Go.Proofs.YtalgochmjddodaaGreat
open Go.RowKit W Kp Stl
structure Jk where
  a : Wc
  s : Wst
  Y : List Int
  G : List Int
structure Js where
  f : Int -> Int
  td : List Int
  ep : List Int
def Jk.T (k : Jk) : List Int := k.G ++ k.Y
def Jk.ld (k : Jk) (x : Int) : Int := Proofs.YtalgochmjddodaaGreat.ld k.a.N k.s.y k.s.g k.s.ws x
def Jk.jt (k : Jk) (x : Int) : Bool := aB x && k.T.contains (aV x)
def Jk.jl (k : Jk) (s : Js) (x : Int) : Bool := k.jt x && (s.f (aV x) == -1)
def Jk.nw (k : Jk) (s : Js) (x : Int) : Int := if (k.jt x && !(s.f (aV x) == -1)) = true then ew 3 (s.f (aV x)) else x
def Jk.ma (k : Jk) (s : Js) (x : Int) : Js := if k.jl s x = true then { s with f := upf s.f (aV x) (aV x), td := s.td ++ [aV x] } else s
def Jk.mas (k : Jk) (s : Js) (a : Int) : Nat -> Js
 | 0 => s
 | n + 1 => k.ma (k.mas s a n) (k.ld (a + 1 + n))
def Jk.lk (k : Jk) (s : Js) (a : Int) : Js :=
 if pk (k.ld a) = 1 \/ pk (k.ld a) = 2 then k.mas s a (pf (k.ld a)).toNat
 else if pk (k.ld a) = 3 then k.ma s (k.ld (a + 2))
 else if pk (k.ld a) = 4 then { s with ep := s.ep ++ [a] } else s
def Jk.l1 (k : Jk) (s : Js) : Js := k.lk { s with td := s.td.take (s.td.length - 1) } (s.td.getD (s.td.length - 1) 0)
def Jk.lm (k : Jk) : Nat -> Js -> Js
 | 0, s => s
 | n + 1, s => if 0 < s.td.length then k.lm n (k.l1 s) else s
def Jk.kv1 (k : Jk) (t : List Int × Js) (a : Int) : List Int × Js := if k.jl t.2 (k.ld (a + 1)) = true then (t.1 ++ [a], t.2) else (t.1, k.ma t.2 (k.ld (a + 2)))
def Jk.kvf (k : Jk) (s : Js) (l : List Int) : List Int × Js := l.foldl k.kv1 ([], s)
def Jk.kv (k : Jk) (s : Js) : Bool × Js := (decide ((k.kvf s s.ep).1.length < s.ep.length), { (k.kvf s s.ep).2 with ep := (k.kvf s s.ep).1 })
def Jk.al (k : Jk) (s : Js) (x : Int) : Bool := !k.jl s x
def Jk.lost (k : Jk) (s : Js) : Nat := (k.T.filter (fun a => s.f a == -1)).length
structure JI (k : Jk) (s : Js) : Prop where
  nd : k.T.Nodup
  ps : ∀ a ∈ k.T, 0 <= a /\ a <= 2000
  td : ∀ a ∈ s.td, a ∈ k.T
  ep : ∀ a ∈ s.ep, a ∈ k.T
  tl : k.T.length <= 4000
  sum : k.lost s + s.td.length + s.ep.length <= k.T.length
section
variable {k : Jk} {s : Js}
theorem Jk.jl_yes {x : Int} (h : k.jl s x = true) : aB x = true /\ aV x ∈ k.T /\ s.f (aV x) = -1 := by
 unfold Jk.jl Jk.jt at h
 simp only [Bool.and_eq_true] at h
 exact ⟨h.1.1, List.contains_iff_mem.1 h.1.2, by simpa using h.2⟩
theorem Jk.lost_ma (hn : k.T.Nodup) {x : Int} (h : k.jl s x = true) (h0 : ∀ a ∈ k.T, 0 <= a) : k.lost (k.ma s x) + 1 = k.lost s := by
 obtain ⟨_, h2, h3⟩ := Jk.jl_yes h
 have e : (k.ma s x).f = upf s.f (aV x) (aV x) := by unfold Jk.ma; rw [if_pos h]
 have hp := h0 _ h2
 unfold Jk.lost
 rw [e, filter_upf _ _ _ _ (by omega)]
 exact len_less _ _ (hn.filter _) (List.mem_filter.2 ⟨h2, by rw [h3]; rfl⟩)
theorem JI.ma (h : JI k s) (x : Int) : JI k (k.ma s x) /\ k.lost (k.ma s x) + (k.ma s x).td.length = k.lost s + s.td.length /\ (k.ma s x).ep = s.ep := by
 by_cases c : k.jl s x = true
 ·have e1 := Jk.lost_ma h.nd c (fun a ha => (h.ps a ha).1)
  obtain ⟨_, h2, _⟩ := Jk.jl_yes c
  have e2 : (k.ma s x).td = s.td ++ [aV x] := by unfold Jk.ma; rw [if_pos c]
  have e3 : (k.ma s x).ep = s.ep := by unfold Jk.ma; rw [if_pos c]
  have hs := h.sum
  have e4 : (k.ma s x).td.length = s.td.length + 1 := by rw [e2]; simp
  refine ⟨⟨h.nd, h.ps, fun a ha => ?_, by rw [e3]; exact h.ep, h.tl, by rw [e3]; omega⟩, by omega, e3⟩
  rw [e2] at ha
  rcases List.mem_append.1 ha with d | d
  ·exact h.td a d
  ·rw [List.mem_singleton] at d
   rw [d]
   exact h2
 ·have e : k.ma s x = s := by unfold Jk.ma; rw [if_neg c]
  rw [e]
  exact ⟨h, rfl, rfl⟩
theorem JI.mas (h : JI k s) (a : Int) : ∀ n, JI k (k.mas s a n) /\ k.lost (k.mas s a n) + (k.mas s a n).td.length = k.lost s + s.td.length /\ (k.mas s a n).ep = s.ep
 | 0 => ⟨h, rfl, rfl⟩
 | n + 1 => by
  obtain ⟨h1, h2, h3⟩ := JI.mas h a n
  obtain ⟨j1, j2, j3⟩ := h1.ma (k.ld (a + 1 + n))
  exact ⟨j1, j2.trans h2, j3.trans h3⟩
theorem JI.lk (h : JI k s) {a : Int} (ha : a ∈ k.T) (hr : k.lost s + s.td.length + s.ep.length + 1 <= k.T.length) : JI k (k.lk s a) /\ k.lost (k.lk s a) + (k.lk s a).td.length = k.lost s + s.td.length /\ (k.lk s a).ep.length <= s.ep.length + 1 := by
 unfold Jk.lk
 split
 ·obtain ⟨h1, h2, h3⟩ := h.mas a (pf (k.ld a)).toNat
  exact ⟨h1, h2, by rw [h3]; omega⟩
 ·split
  ·obtain ⟨h1, h2, h3⟩ := h.ma (k.ld (a + 2))
   exact ⟨h1, h2, by rw [h3]; omega⟩
  ·split
   ·refine ⟨⟨h.nd, h.ps, h.td, fun b hb => ?_, h.tl, ?_⟩, rfl, by simp⟩
    ·rcases List.mem_append.1 hb with d | d
     ·exact h.ep b d
     ·rw [List.mem_singleton] at d
      rw [d]
      exact ha
    ·show k.lost s + s.td.length + (s.ep ++ [a]).length <= _
     rw [List.length_append]
     simp
     omega
   ·exact ⟨h, rfl, by omega⟩
theorem JI.l1 (h : JI k s) (hl : 0 < s.td.length) : JI k (k.l1 s) /\ k.lost (k.l1 s) + (k.l1 s).td.length + 1 = k.lost s + s.td.length := by
 have hm : s.td.getD (s.td.length - 1) 0 ∈ s.td := by
  rw [List.getD_eq_getElem?_getD, List.getElem?_eq_getElem (by omega)]
  exact List.getElem_mem _
 have hs := h.sum
 have e : (s.td.take (s.td.length - 1)).length = s.td.length - 1 := by rw [List.length_take]; omega
 have h0 : JI k { s with td := s.td.take (s.td.length - 1) } := ⟨h.nd, h.ps, fun a ha => h.td a (List.mem_of_mem_take ha), h.ep, h.tl, by
  show k.lost s + (s.td.take (s.td.length - 1)).length + s.ep.length <= _
  omega⟩
 have e0 : k.lost { s with td := s.td.take (s.td.length - 1) } = k.lost s := rfl
 obtain ⟨h1, h2, _⟩ := h0.lk (h.td _ hm) (by
  show k.lost s + (s.td.take (s.td.length - 1)).length + s.ep.length + 1 <= _
  omega)
 refine ⟨h1, ?_⟩
 unfold Jk.l1
 dsimp only at h2
 rw [e0] at h2
 omega
theorem JI.lm : ∀ (n : Nat) {s : Js}, JI k s -> JI k (k.lm n s) /\ (k.lost s + s.td.length < n -> (k.lm n s).td = []) /\ k.lost (k.lm n s) + (k.lm n s).td.length <= k.lost s + s.td.length
 | 0, s, h => ⟨h, fun e => absurd e (by omega), Nat.le_refl _⟩
 | n + 1, s, h => by
  unfold Jk.lm
  by_cases c : 0 < s.td.length
  ·rw [if_pos c]
   obtain ⟨h1, h2⟩ := h.l1 c
   obtain ⟨j1, j2, j3⟩ := JI.lm n h1
   exact ⟨j1, fun e => j2 (by omega), by omega⟩
  ·rw [if_neg c]
   refine ⟨h, fun _ => ?_, Nat.le_refl _⟩
   cases ht : s.td with
   | nil => rfl
   | cons x l => rw [ht] at c; simp at c
theorem JI.kv1 {t : List Int × Js} (h : JI k t.2) {a : Int} (ha : a ∈ k.T) (ht : ∀ b ∈ t.1, b ∈ k.T) : JI k (k.kv1 t a).2 /\ (k.kv1 t a).1.length <= t.1.length + 1 /\ (∀ b ∈ (k.kv1 t a).1, b ∈ k.T) /\ k.lost (k.kv1 t a).2 + (k.kv1 t a).2.td.length = k.lost t.2 + t.2.td.length /\ (k.kv1 t a).2.ep = t.2.ep := by
 unfold Jk.kv1
 split
 ·refine ⟨h, by simp, fun b hb => ?_, rfl, rfl⟩
  rcases List.mem_append.1 hb with d | d
  ·exact ht b d
  ·rw [List.mem_singleton] at d
   rw [d]
   exact ha
 ·obtain ⟨h1, h2, h3⟩ := h.ma (k.ld (a + 2))
  exact ⟨h1, by simp, ht, h2, h3⟩
theorem JI.kvl : ∀ (l : List Int) {t : List Int × Js}, JI k t.2 -> (∀ a ∈ l, a ∈ k.T) -> (∀ b ∈ t.1, b ∈ k.T) -> JI k (l.foldl k.kv1 t).2 /\ (l.foldl k.kv1 t).1.length <= t.1.length + l.length /\ (∀ b ∈ (l.foldl k.kv1 t).1, b ∈ k.T) /\ k.lost (l.foldl k.kv1 t).2 + (l.foldl k.kv1 t).2.td.length = k.lost t.2 + t.2.td.length /\ (l.foldl k.kv1 t).2.ep = t.2.ep
 | [], t, h, _, ht => ⟨h, by simp, ht, rfl, rfl⟩
 | a :: l, t, h, hl, ht => by
  obtain ⟨h1, h2, h3, h4, h5⟩ := h.kv1 (hl a (by simp)) ht
  obtain ⟨j1, j2, j3, j4, j5⟩ := JI.kvl l h1 (fun b hb => hl b (List.mem_cons_of_mem _ hb)) h3
  rw [List.foldl_cons]
  exact ⟨j1, by simp only [List.length_cons]; omega, j3, j4.trans h4, j5.trans h5⟩
theorem JI.kv (h : JI k s) : JI k (k.kv s).2 /\ k.lost (k.kv s).2 + (k.kv s).2.td.length = k.lost s + s.td.length /\ (k.kv s).2.ep.length <= s.ep.length /\ ((k.kv s).1 = true -> (k.kv s).2.ep.length < s.ep.length) := by
 obtain ⟨h1, h2, h3, h4, h5⟩ := JI.kvl s.ep (t := ([], s)) h h.ep (fun b hb => by cases hb)
 have e0 : k.lost (k.kv s).2 = k.lost (k.kvf s s.ep).2 := rfl
 have e1 : (k.kv s).2.td = (k.kvf s s.ep).2.td := rfl
 have e2 : (k.kv s).2.ep = (k.kvf s s.ep).1 := rfl
 have h2 : (k.kvf s s.ep).1.length <= 0 + s.ep.length := h2
 have h4 : k.lost (k.kvf s s.ep).2 + (k.kvf s s.ep).2.td.length = k.lost s + s.td.length := h4
 have hs := h.sum
 refine ⟨⟨h.nd, h.ps, h1.td, h3, h.tl, ?_⟩, by rw [e0, e1]; exact h4, by rw [e2]; omega, fun e => ?_⟩
 ·rw [e0, e1, e2]
  omega
 ·rw [e2]
  exact of_decide_eq_true e
end
end Go.Proofs.YtalgochmjddodaaGreat

namespace Go.Proofs.YtalgochmjddodaaGreat
open Go.RowKit W Kp Stl
structure Jc where
  pk : Nat
  mq : Nat
  bs : Nat
  yv : Value
  ov : Value
structure Mj (c : Jc) (k : Jk) (FW : Nat -> Prop) (own : Nat -> Nat) (s : Js) (vt ve : Value) (w : World) : Prop where
  wd : (wodO k.a).J FW k.s w
  w1 : ∀ b, FW b ↔ own b = 1
  cb : w.heap[c.pk]? = some (.cells #[.pointer (some ⟨k.a.pw, 0, none⟩), c.yv, c.ov, .map (some c.mq), .pointer (some ⟨c.bs, 0, none⟩), vt, ve] 133 (0, 0))
  k1 : own c.pk = 5
  mp : Mp w c.mq k.T s.f
  m1 : own c.mq = 6
  tr : w.ownsRow 0 3 1 vt s.td.length (s.td.map (Value.int .i64))
  to_ : ∀ b, some b = vt.ownBlock -> own b = 7
  er : w.ownsRow 0 3 1 ve s.ep.length (s.ep.map (Value.int .i64))
  eo : ∀ b, some b = ve.ownBlock -> own b = 8
  yr : w.ownsRow 0 3 1 c.yv k.Y.length (k.Y.map (Value.int .i64))
  yo : ∀ b, some b = c.yv.ownBlock -> own b = 9
  gr : w.ownsRow 0 3 1 c.ov k.G.length (k.G.map (Value.int .i64))
  go : ∀ b, some b = c.ov.ownBlock -> own b = 10
  lt : ∀ b, own b ≠ 0 -> b < w.heap.size
section
variable {c : Jc} {k : Jk} {FW : Nat -> Prop} {own : Nat -> Nat} {s : Js} {vt ve : Value} {w w' : World}
theorem Mj.but (h : Mj c k FW own s vt ve w) (L : Nat -> Prop) (hs : w.heap.size <= w'.heap.size) (hk : ∀ b, b < w.heap.size -> own b ≠ 0 -> ¬ L (own b) -> w'.heap[b]? = w.heap[b]?)
    (hK : L 5 -> w'.heap[c.pk]? = some (.cells #[.pointer (some ⟨k.a.pw, 0, none⟩), c.yv, c.ov, .map (some c.mq), .pointer (some ⟨c.bs, 0, none⟩), vt, ve] 133 (0, 0)))
    (hM : L 6 -> Mp w' c.mq k.T s.f) (hW : L 7 -> w'.ownsRow 0 3 1 vt s.td.length (s.td.map (Value.int .i64))) (hE : L 8 -> w'.ownsRow 0 3 1 ve s.ep.length (s.ep.map (Value.int .i64))) (h1 : ¬ L 1) (h9 : ¬ L 9) (h10 : ¬ L 10) : Mj c k FW own s vt ve w' where
  wd := (wodO k.a).keep h.wd hs (fun b d => hk b ((wodO k.a).lt h.wd b d) (by rw [(h.w1 b).1 d]; decide) (by rw [(h.w1 b).1 d]; exact h1))
  w1 := h.w1
  cb := by
    by_cases l : L 5
    · exact hK l
    · exact (hk _ (lt_of_some h.cb) (by rw [h.k1]; decide) (by rw [h.k1]; exact l)).trans h.cb
  k1 := h.k1
  mp := by
    by_cases l : L 6
    · exact hM l
    · exact h.mp.same (hk _ h.mp.lt (by rw [h.m1]; decide) (by rw [h.m1]; exact l))
  m1 := h.m1
  tr := by
    by_cases l : L 7
    · exact hW l
    · exact row_keep h.tr (fun b e => hk b (row_lt h.tr b e).2 (by rw [h.to_ b e]; decide) (by rw [h.to_ b e]; exact l))
  to_ := h.to_
  er := by
    by_cases l : L 8
    · exact hE l
    · exact row_keep h.er (fun b e => hk b (row_lt h.er b e).2 (by rw [h.eo b e]; decide) (by rw [h.eo b e]; exact l))
  eo := h.eo
  yr := row_keep h.yr (fun b e => hk b (row_lt h.yr b e).2 (by rw [h.yo b e]; decide) (by rw [h.yo b e]; exact h9))
  yo := h.yo
  gr := row_keep h.gr (fun b e => hk b (row_lt h.gr b e).2 (by rw [h.go b e]; decide) (by rw [h.go b e]; exact h10))
  go := h.go
  lt := fun b hb => Nat.lt_of_lt_of_le (h.lt b hb) hs
end
def mjV (c : Jc) (k : Jk) (vt ve : Value) : Ob Js where
  J F s w := ∃ FW own, Mj c k FW own s vt ve w /\ ∀ b, F b ↔ own b ≠ 0
  lt := by
    rintro F s w ⟨FW, own, h, hF⟩ b hb
    exact h.lt b ((hF b).1 hb)
  keep := by
    rintro F s w w' ⟨FW, own, h, hF⟩ hs hk
    exact ⟨FW, own, h.but (fun _ => False) hs (fun b _ h0 _ => hk b ((hF b).2 h0)) False.elim False.elim False.elim False.elim id id id, hF⟩
def mjO (c : Jc) (k : Jk) : Ob Js where
  J F s w := ∃ vt ve, (mjV c k vt ve).J F s w
  lt := by
    rintro F s w ⟨vt, ve, h⟩
    exact (mjV c k vt ve).lt h
  keep := by
    rintro F s w w' ⟨vt, ve, h⟩ hs hk
    exact ⟨vt, ve, (mjV c k vt ve).keep h hs hk⟩
section
variable {c : Jc} {k : Jk} {F : Nat -> Prop} {s : Js} {vt ve : Value} {w : World}
theorem mj_cells (h : (mjV c k vt ve).J F s w) : w.cell? ⟨c.pk, 0, none⟩ = some (.pointer (some ⟨k.a.pw, 0, none⟩)) /\ w.cell? ⟨c.pk, 1, none⟩ = some c.yv /\ w.cell? ⟨c.pk, 2, none⟩ = some c.ov /\ w.cell? ⟨c.pk, 3, none⟩ = some (.map (some c.mq)) /\ w.cell? ⟨c.pk, 4, none⟩ = some (.pointer (some ⟨c.bs, 0, none⟩)) /\ w.cell? ⟨c.pk, 5, none⟩ = some vt /\ w.cell? ⟨c.pk, 6, none⟩ = some ve /\ (∀ i, w.frozen? ⟨c.pk, i, none⟩ = false) /\ c.pk < w.heap.size := by
 obtain ⟨FW, own, h, _⟩ := h
 have h2 := h.cb
 refine ⟨?_, ?_, ?_, ?_, ?_, ?_, ?_, fun i => ?_, lt_of_some h2⟩
 all_goals first | simp [World.cell?, h2] | simp [World.frozen?, h2]
theorem mj_wood (h : (mjV c k vt ve).J F s w) : At w k.a.p k.a.q k.a.N k.a.O k.s.y k.s.g k.s.ws /\ w.cell? ⟨k.a.pw, 0, none⟩ = some (.pointer (some ⟨k.a.p, 0, none⟩)) /\ w.cell? ⟨k.a.pw, 3, none⟩ = some (.slice (some ⟨k.a.nb, 0, none⟩) 12 12) /\ ∀ i, i < 12 -> w.cell? ⟨k.a.nb, i, none⟩ = some (.int .i64 (k.s.rs.getD i 0)) := by
 obtain ⟨FW, own, h, _⟩ := h
 obtain ⟨c0, _, _, c3, _, _, _, rt⟩ := wod_cells h.wd
 exact ⟨(wod_arena h.wd).1, c0, c3, fun i hi => (rt i hi).1⟩
theorem mj_map (h : (mjV c k vt ve).J F s w) : Mp w c.mq k.T s.f /\ ∀ w' f, Mp w' c.mq k.T f -> Fr (fun b => b = c.mq) w w' -> (mjV c k vt ve).J F { s with f := f } w' /\ Tn F w F w' := by
  obtain ⟨FW, own, h, hF⟩ := h
  refine ⟨h.mp, fun w' f hm fr => ⟨⟨FW, own, ?_, hF⟩, ⟨fr.mono (fun b e => (hF b).2 (by rw [e, h.m1]; decide)), fun _ d => Or.inl d⟩⟩⟩
  have g : Mj c k FW own { s with f := f } vt ve w' := by
    have hk : ∀ b, b < w.heap.size -> own b ≠ 6 -> w'.heap[b]? = w.heap[b]? := fun b hb hn => fr.block b hb (fun e => hn (by rw [e]; exact h.m1))
    exact { wd := (wodO k.a).keep h.wd fr.size (fun b d => hk b ((wodO k.a).lt h.wd b d) (by rw [(h.w1 b).1 d]; decide)), w1 := h.w1
            cb := (hk _ (lt_of_some h.cb) (by rw [h.k1]; decide)).trans h.cb, k1 := h.k1, mp := hm, m1 := h.m1
            tr := row_keep h.tr (fun b e => hk b (row_lt h.tr b e).2 (by rw [h.to_ b e]; decide)), to_ := h.to_
            er := row_keep h.er (fun b e => hk b (row_lt h.er b e).2 (by rw [h.eo b e]; decide)), eo := h.eo
            yr := row_keep h.yr (fun b e => hk b (row_lt h.yr b e).2 (by rw [h.yo b e]; decide)), yo := h.yo
            gr := row_keep h.gr (fun b e => hk b (row_lt h.gr b e).2 (by rw [h.go b e]; decide)), go := h.go
            lt := fun b hb => Nat.lt_of_lt_of_le (h.lt b hb) fr.size }
  exact g
end
end Go.Proofs.YtalgochmjddodaaGreat

namespace Go.Proofs.YtalgochmjddodaaGreat
open Go.RowKit W Kp Stl
section
variable {c : Jc} {k : Jk} {F : Nat -> Prop} {s : Js} {vt ve : Value} {w : World}
theorem mj_todo0 {v0 : Value} (h : (mjV c k v0 ve).J F s w) {v1 : Value} {l : List Int} {w1 : World} (f1 : Fr (fun b => some b = v0.ownBlock) w w1) (ho : w1.ownsRow 0 3 1 v1 l.length (l.map (Value.int .i64))) (hn : ∀ b, some b = v1.ownBlock -> some b = v0.ownBlock \/ ¬ F b) :
    (mjV c k v1 ve).J (fun b => F b \/ some b = v1.ownBlock) { s with td := l } (w1.setCell ⟨c.pk, 5, none⟩ v1) /\ Fr F w (w1.setCell ⟨c.pk, 5, none⟩ v1) := by
  obtain ⟨FW, own, h, hF⟩ := h
  have sz : (w1.setCell ⟨c.pk, 5, none⟩ v1).heap.size = w1.heap.size := by simp [World.setCell]
  have hb1 : ∀ b, b < w.heap.size -> own b ≠ 7 -> w1.heap[b]? = w.heap[b]? := fun b hb hn => f1.block b hb (fun e => hn (h.to_ b e))
  have hb : ∀ b, b < w.heap.size -> own b ≠ 7 -> own b ≠ 5 -> (w1.setCell ⟨c.pk, 5, none⟩ v1).heap[b]? = w.heap[b]? := fun b hb h7 h5 => (Below.heap_setCell _ _ _ _ (fun e => h5 (by have e : b = c.pk := e; rw [e]; exact h.k1))).trans (hb1 b hb h7)
  have hnw : ∀ b, some b = v1.ownBlock -> own b = 7 \/ own b = 0 := fun b e => (hn b e).elim (fun e => Or.inl (h.to_ b e)) (fun hl => Or.inr (Classical.byContradiction (fun c => hl ((hF b).2 c))))
  have e1 : ∀ b j, own b = j -> j ≠ 7 -> j ≠ 0 -> (if some b = v1.ownBlock then 7 else own b) = j := fun b j e h7 h0 => by
    rw [if_neg (fun c => by rcases hnw b c with c | c <;> omega)]
    exact e
  have lt1 := fun b e => (row_lt ho b e).2
  refine ⟨⟨FW, fun b => if some b = v1.ownBlock then 7 else own b, ?_, fun b => ?_⟩, ?_⟩
  · exact { wd := (wodO k.a).keep h.wd (by rw [sz]; exact f1.size) (fun b d => hb b ((wodO k.a).lt h.wd b d) (by rw [(h.w1 b).1 d]; decide) (by rw [(h.w1 b).1 d]; decide))
            w1 := fun b => ⟨fun d => e1 _ _ ((h.w1 b).1 d) (by decide) (by decide), fun d => by
              by_cases e : some b = v1.ownBlock
              · rw [if_pos e] at d; omega
              · rw [if_neg e] at d; exact (h.w1 b).2 d⟩
            k1 := e1 _ _ h.k1 (by decide) (by decide), m1 := e1 _ _ h.m1 (by decide) (by decide)
            cb := by
              have hq := (hb1 _ (lt_of_some h.cb) (by rw [h.k1]; decide)).trans h.cb
              simp only [World.setCell, Array.getElem?_modify, if_true, hq, Option.map_some]
              simp
            mp := h.mp.same (hb _ h.mp.lt (by rw [h.m1]; decide) (by rw [h.m1]; decide))
            tr := row_keep ho (fun b e => Below.heap_setCell _ _ _ _ (fun e' => by
              have e' : b = c.pk := e'
              have := hnw b e
              rw [e', h.k1] at this
              omega))
            to_ := fun b e => by rw [if_pos e]
            er := row_keep h.er (fun b e => hb b (row_lt h.er b e).2 (by rw [h.eo b e]; decide) (by rw [h.eo b e]; decide))
            eo := fun b e => e1 _ _ (h.eo b e) (by decide) (by decide)
            yr := row_keep h.yr (fun b e => hb b (row_lt h.yr b e).2 (by rw [h.yo b e]; decide) (by rw [h.yo b e]; decide))
            yo := fun b e => e1 _ _ (h.yo b e) (by decide) (by decide)
            gr := row_keep h.gr (fun b e => hb b (row_lt h.gr b e).2 (by rw [h.go b e]; decide) (by rw [h.go b e]; decide))
            go := fun b e => e1 _ _ (h.go b e) (by decide) (by decide)
            lt := fun b hb => by
              rw [sz]
              by_cases e : some b = v1.ownBlock
              · exact lt1 b e
              · rw [if_neg e] at hb
                exact Nat.lt_of_lt_of_le (h.lt b hb) f1.size }
  · by_cases e : some b = v1.ownBlock
    · simp [e]
    · simp [e, hF b]
  · refine (f1.mono (fun b e => (hF b).2 (by rw [h.to_ b e]; decide))).trans ((Fr.refl (fun b => b = c.pk) w1).set _ 5 _ rfl) (fun b e => Or.inl ((hF b).2 (by rw [e, h.k1]; decide)))
theorem mj_todo {v0 : Value} (h : (mjV c k v0 ve).J F s w) {v1 : Value} {l : List Int} {w1 : World} (f1 : Fr (fun b => some b = v0.ownBlock) w w1) (ho : w1.ownsRow 0 3 1 v1 l.length (l.map (Value.int .i64))) (hn : ∀ b, some b = v1.ownBlock -> some b = v0.ownBlock \/ w.heap.size <= b) :
  ∃ F', (mjV c k v1 ve).J F' { s with td := l } (w1.setCell ⟨c.pk, 5, none⟩ v1) /\ Tn F w F' (w1.setCell ⟨c.pk, 5, none⟩ v1) := by
 obtain ⟨h1, h2⟩ := mj_todo0 h f1 ho (fun b e => (hn b e).imp id (fun d hb => by have := (mjV c k v0 ve).lt h b hb; omega))
 obtain ⟨FW, own, hm, hF⟩ := h
 exact ⟨_, h1, h2, fun b hb => hb.elim Or.inl (fun e => (hn b e).imp (fun e => (hF b).2 (by rw [hm.to_ b e]; decide)) id)⟩
theorem mj_ephems0 {v0 : Value} (h : (mjV c k vt v0).J F s w) {v1 : Value} {l : List Int} {w1 : World} (f1 : Fr (fun b => some b = v0.ownBlock) w w1) (ho : w1.ownsRow 0 3 1 v1 l.length (l.map (Value.int .i64))) (hn : ∀ b, some b = v1.ownBlock -> some b = v0.ownBlock \/ ¬ F b) :
    (mjV c k vt v1).J (fun b => F b \/ some b = v1.ownBlock) { s with ep := l } (w1.setCell ⟨c.pk, 6, none⟩ v1) /\ Fr F w (w1.setCell ⟨c.pk, 6, none⟩ v1) := by
  obtain ⟨FW, own, h, hF⟩ := h
  have sz : (w1.setCell ⟨c.pk, 6, none⟩ v1).heap.size = w1.heap.size := by simp [World.setCell]
  have hb1 : ∀ b, b < w.heap.size -> own b ≠ 8 -> w1.heap[b]? = w.heap[b]? := fun b hb hn => f1.block b hb (fun e => hn (h.eo b e))
  have hb : ∀ b, b < w.heap.size -> own b ≠ 8 -> own b ≠ 5 -> (w1.setCell ⟨c.pk, 6, none⟩ v1).heap[b]? = w.heap[b]? := fun b hb h7 h5 => (Below.heap_setCell _ _ _ _ (fun e => h5 (by have e : b = c.pk := e; rw [e]; exact h.k1))).trans (hb1 b hb h7)
  have hnw : ∀ b, some b = v1.ownBlock -> own b = 8 \/ own b = 0 := fun b e => (hn b e).elim (fun e => Or.inl (h.eo b e)) (fun hl => Or.inr (Classical.byContradiction (fun c => hl ((hF b).2 c))))
  have e1 : ∀ b j, own b = j -> j ≠ 8 -> j ≠ 0 -> (if some b = v1.ownBlock then 8 else own b) = j := fun b j e h7 h0 => by
    rw [if_neg (fun c => by rcases hnw b c with c | c <;> omega)]
    exact e
  have lt1 := fun b e => (row_lt ho b e).2
  refine ⟨⟨FW, fun b => if some b = v1.ownBlock then 8 else own b, ?_, fun b => ?_⟩, ?_⟩
  · exact { wd := (wodO k.a).keep h.wd (by rw [sz]; exact f1.size) (fun b d => hb b ((wodO k.a).lt h.wd b d) (by rw [(h.w1 b).1 d]; decide) (by rw [(h.w1 b).1 d]; decide))
            w1 := fun b => ⟨fun d => e1 _ _ ((h.w1 b).1 d) (by decide) (by decide), fun d => by
              by_cases e : some b = v1.ownBlock
              · rw [if_pos e] at d; omega
              · rw [if_neg e] at d; exact (h.w1 b).2 d⟩
            k1 := e1 _ _ h.k1 (by decide) (by decide), m1 := e1 _ _ h.m1 (by decide) (by decide)
            cb := by
              have hq := (hb1 _ (lt_of_some h.cb) (by rw [h.k1]; decide)).trans h.cb
              simp only [World.setCell, Array.getElem?_modify, if_true, hq, Option.map_some]
              simp
            mp := h.mp.same (hb _ h.mp.lt (by rw [h.m1]; decide) (by rw [h.m1]; decide))
            er := row_keep ho (fun b e => Below.heap_setCell _ _ _ _ (fun e' => by
              have e' : b = c.pk := e'
              have := hnw b e
              rw [e', h.k1] at this
              omega))
            eo := fun b e => by rw [if_pos e]
            tr := row_keep h.tr (fun b e => hb b (row_lt h.tr b e).2 (by rw [h.to_ b e]; decide) (by rw [h.to_ b e]; decide))
            to_ := fun b e => e1 _ _ (h.to_ b e) (by decide) (by decide)
            yr := row_keep h.yr (fun b e => hb b (row_lt h.yr b e).2 (by rw [h.yo b e]; decide) (by rw [h.yo b e]; decide))
            yo := fun b e => e1 _ _ (h.yo b e) (by decide) (by decide)
            gr := row_keep h.gr (fun b e => hb b (row_lt h.gr b e).2 (by rw [h.go b e]; decide) (by rw [h.go b e]; decide))
            go := fun b e => e1 _ _ (h.go b e) (by decide) (by decide)
            lt := fun b hb => by
              rw [sz]
              by_cases e : some b = v1.ownBlock
              · exact lt1 b e
              · rw [if_neg e] at hb
                exact Nat.lt_of_lt_of_le (h.lt b hb) f1.size }
  · by_cases e : some b = v1.ownBlock
    · simp [e]
    · simp [e, hF b]
  · refine (f1.mono (fun b e => (hF b).2 (by rw [h.eo b e]; decide))).trans ((Fr.refl (fun b => b = c.pk) w1).set _ 6 _ rfl) (fun b e => Or.inl ((hF b).2 (by rw [e, h.k1]; decide)))
theorem mj_ephems {v0 : Value} (h : (mjV c k vt v0).J F s w) {v1 : Value} {l : List Int} {w1 : World} (f1 : Fr (fun b => some b = v0.ownBlock) w w1) (ho : w1.ownsRow 0 3 1 v1 l.length (l.map (Value.int .i64))) (hn : ∀ b, some b = v1.ownBlock -> some b = v0.ownBlock \/ w.heap.size <= b) :
  ∃ F', (mjV c k vt v1).J F' { s with ep := l } (w1.setCell ⟨c.pk, 6, none⟩ v1) /\ Tn F w F' (w1.setCell ⟨c.pk, 6, none⟩ v1) := by
 obtain ⟨h1, h2⟩ := mj_ephems0 h f1 ho (fun b e => (hn b e).imp id (fun d hb => by have := (mjV c k vt v0).lt h b hb; omega))
 obtain ⟨FW, own, hm, hF⟩ := h
 exact ⟨_, h1, h2, fun b hb => hb.elim Or.inl (fun e => (hn b e).imp (fun e => (hF b).2 (by rw [hm.eo b e]; decide)) id)⟩
theorem mj_rows (h : (mjV c k vt ve).J F s w) : w.ownsRow 0 3 1 vt s.td.length (s.td.map (Value.int .i64)) /\ w.ownsRow 0 3 1 ve s.ep.length (s.ep.map (Value.int .i64)) /\ some c.pk ≠ vt.ownBlock /\ some c.pk ≠ ve.ownBlock /\ c.pk ≠ c.mq := by
 obtain ⟨FW, own, h, _⟩ := h
 refine ⟨h.tr, h.er, fun e => ?_, fun e => ?_, fun e => ?_⟩
 ·have h1 := h.to_ _ e
  rw [h.k1] at h1
  omega
 ·have h1 := h.eo _ e
  rw [h.k1] at h1
  omega
 ·have h1 := h.k1
  rw [e, h.m1] at h1
  omega
end
end Go.Proofs.YtalgochmjddodaaGreat

namespace Go.Proofs.YtalgochmjddodaaGreat
set_option maxRecDepth 100000
set_option maxHeartbeats 1000000
open Go.RowKit W Kp Stl
section
variable {c : Jc} {k : Jk} {vt ve : Value} {F : Nat -> Prop} {s : Js} {w : World}
theorem standsJ_any (h : (mjV c k vt ve).J F s w) (x : Int) :
  Calls Tryz.prog 217 #[.pointer (some ⟨c.pk, 0, none⟩), .int .i64 x] w fun e w' => ∃ v, e = .returned (.tuple #[.int .i64 v, .bool (k.jt x)]) /\ (k.jt x = true -> v = s.f (aV x)) /\ Below w.heap.size w w' := by
 have HJ : Hid ((mjV c k vt ve).J F s w) := h
 have P := at_any x w
 clear h
 cases ha : aB x
 ·rw [ha] at P
  have e1 : k.jt x = false := by unfold Jk.jt; rw [ha]; rfl
  rw [e1]
  go_enter Tryz.func217, Tryz.ntmps217
  go_wp2_with fail
  refine P.mono ?_
  clear P
  rintro e w1 ⟨rfl, hb1⟩
  go_wp2_with fail
  go_ret2
  exact ⟨0, rfl, fun h => by simp at h, hb1⟩
 ·have e1 : k.jt x = k.T.contains (aV x) := by unfold Jk.jt; rw [ha]; rfl
  have hbd := aV_bd ha
  rw [e1]
  rw [ha] at P
  clear ha e1
  generalize aV x = a at P hbd ⊢
  have hky := keyI hbd.1 hbd.2
  obtain ⟨bt, hbt⟩ : ∃ bt, bt = k.T.contains a := ⟨_, rfl⟩
  rw [<- hbt]
  go_enter Tryz.func217, Tryz.ntmps217
  go_wp2_with fail
  refine P.mono ?_
  clear P
  rintro e w1 ⟨rfl, hb1⟩
  have hJ1 := (mjV c k vt ve).below HJ.out hb1
  obtain ⟨_, _, _, c1, _⟩ := mj_cells hJ1
  obtain ⟨⟨D, o1, o2, o3⟩, _⟩ := mj_map hJ1
  have E2 : Hid (Maps.has D (.int .i64 a) = bt) := (o2 a).trans hbt.symm
  have E3 : Hid (bt = true -> D.atKey (.int .i64 a) (.lit (.int .i64 0)) = .lit (.int .i64 (s.f a))) := fun e => o3 a (by rw [hbt] at e; simpa using e)
  clear o2 o3 hbt hJ1 HJ
  go_wp2_with (at_lookup; refine wpList_lookup_own_ok_int _ rfl _ _ 104 rfl 3 3 .i64 lawI Tryz.underlying104 Tryz.underlying3 (zeroI _) c.mq k.T.length D rfl o1 _ _ rfl hky ?_; intro z hat hwc; rw [E2.out]; have E4 : Hid (bt = true -> z = s.f a) := (fun e => by have := hat.symm.trans (E3.out e); simpa using this); clear hat hwc)
  go_ret2
  exact ⟨z, rfl, E4.out, hb1⟩
theorem isLostJ_any (h : (mjV c k vt ve).J F s w) (x : Int) :
  Calls Tryz.prog 156 #[.pointer (some ⟨c.pk, 0, none⟩), .int .i64 x] w fun e w' => e = .returned (.bool (k.jl s x)) /\ Below w.heap.size w w' := by
 have P := standsJ_any h x
 clear h
 cases hy : k.jt x
 ·have e1 : k.jl s x = false := by unfold Jk.jl; rw [hy]; rfl
  rw [e1]
  rw [hy] at P
  go_enter Tryz.func156, Tryz.ntmps156
  go_wp2_with fail
  refine P.mono ?_
  clear P
  rintro e w1 ⟨v, rfl, _, hb1⟩
  go_wp2_with fail
  go_ret
  exact ⟨rfl, hb1⟩
 ·have e1 : k.jl s x = (s.f (aV x) == -1) := by unfold Jk.jl; rw [hy]; rfl
  rw [e1]
  rw [hy] at P
  generalize s.f (aV x) = a at P ⊢
  go_enter Tryz.func156, Tryz.ntmps156
  go_wp2_with fail
  refine P.mono ?_
  clear P
  rintro e w1 ⟨v, rfl, hv, hb1⟩
  have hv := hv trivial
  subst hv
  go_wp2_with fail
  go_ret
  exact ⟨rfl, hb1⟩
theorem nowJ_any (h : (mjV c k vt ve).J F s w) (x : Int) :
  Calls Tryz.prog 158 #[.pointer (some ⟨c.pk, 0, none⟩), .int .i64 x] w fun e w' => e = .returned (.int .i64 (k.nw s x)) /\ Below w.heap.size w w' := by
 have P := standsJ_any h x
 clear h
 cases hy : k.jt x
 ·have e1 : k.nw s x = x := by unfold Jk.nw; rw [hy]; simp
  rw [e1]
  rw [hy] at P
  go_enter Tryz.func158, Tryz.ntmps158
  go_wp2_with fail
  refine P.mono ?_
  clear P
  rintro e w1 ⟨v, rfl, _, hb1⟩
  go_wp2_with fail
  go_ret
  exact ⟨rfl, hb1⟩
 ·rw [hy] at P
  by_cases hf : s.f (aV x) = -1
  ·have e1 : k.nw s x = x := by unfold Jk.nw; rw [hy, hf]; simp
   rw [e1]
   rw [hf] at P
   go_enter Tryz.func158, Tryz.ntmps158
   go_wp2_with fail
   refine P.mono ?_
   clear P
   rintro e w1 ⟨v, rfl, hv, hb1⟩
   have hv := hv trivial
   subst hv
   go_wp2_with fail
   go_ret
   exact ⟨rfl, hb1⟩
  ·have e1 : k.nw s x = ew 3 (s.f (aV x)) := by unfold Jk.nw; rw [hy, if_pos (by simp [hf])]
   rw [e1]
   generalize s.f (aV x) = a at P hf ⊢
   have hf2 : ¬ (-1 = a) := fun e => hf e.symm
   go_enter Tryz.func158, Tryz.ntmps158
   go_wp2_with fail
   refine P.mono ?_
   clear P
   rintro e w1 ⟨v, rfl, hv, hb1⟩
   have hv := hv trivial
   subst hv
   go_wp2_with fail
   refine (ref_any v w1).mono ?_
   rintro e w2 ⟨rfl, hb2⟩
   go_wp2_with fail
   go_ret
   exact ⟨rfl, hb1.trans (hb2.mono hb1.size)⟩
end
end Go.Proofs.YtalgochmjddodaaGreat

namespace Go.Proofs.YtalgochmjddodaaGreat
set_option maxRecDepth 100000
set_option maxHeartbeats 2000000
open Go.RowKit W Kp Stl
def mjE (c : Jc) (k : Jk) (ve : Value) : Ob Js where
  J F s w := ∃ vt, (mjV c k vt ve).J F s w
  lt := by
    rintro F s w ⟨vt, h⟩
    exact (mjV c k vt ve).lt h
  keep := by
    rintro F s w w' ⟨vt, h⟩ hs hk
    exact ⟨vt, (mjV c k vt ve).keep h hs hk⟩
section
variable {c : Jc} {k : Jk} {ve : Value} {F : Nat -> Prop} {s : Js} {w : World}
theorem markE_any (h : (mjE c k ve).J F s w) (hI : JI k s) (x : Int) :
  Calls Tryz.prog 152 #[.pointer (some ⟨c.pk, 0, none⟩), .int .i64 x] w fun e w' => ∃ F', e = .returned (.tuple #[]) /\ (mjE c k ve).J F' (k.ma s x) w' /\ Tn F w F' w' := by
 obtain ⟨vt, h⟩ := h
 have P := isLostJ_any h x
 have HJ : Hid ((mjV c k vt ve).J F s w) := h
 clear h
 cases hl : k.jl s x
 ·have e1 : k.ma s x = s := by unfold Jk.ma; rw [hl]; rfl
  rw [e1]
  rw [hl] at P
  go_enter Tryz.func152, Tryz.ntmps152
  go_wp2_with fail
  refine P.mono ?_
  clear P
  rintro e w1 ⟨rfl, hb1⟩
  have HF : Hid ((mjE c k ve).J F s w1 /\ Tn F w F w1) := ⟨⟨vt, (mjV c k vt ve).below HJ.out hb1⟩, Tn.of hb1⟩
  clear hb1 HJ
  go_wp2_with fail
  go_end0
  exact ⟨F, rfl, HF.out.1, HF.out.2⟩
 ·obtain ⟨i0, hi, hz0, hz1, hz2⟩ := info_parts infoInt
  obtain ⟨l1, l2, l3⟩ := Jk.jl_yes hl
  have E : Hid (k.ma s x = { s with f := upf s.f (aV x) (aV x), td := s.td ++ [aV x] }) := by
   show _ = _
   unfold Jk.ma
   rw [if_pos hl]
  have PA := at_any x
  rw [l1] at PA
  have hps := hI.ps _ l2
  have htl := hI.tl
  have hsm := hI.sum
  rw [hl] at P
  generalize k.ma s x = s2 at E ⊢
  generalize aV x = a at E PA l2 l3 hps ⊢
  have hky := keyI hps.1 (by omega)
  have hvl := elI a (WalkArith.wf_i64 ⟨by omega, by omega⟩)
  clear hl l1 l3
  go_enter Tryz.func152, Tryz.ntmps152
  go_wp2_with fail
  refine P.mono ?_
  clear P
  rintro e w1 ⟨rfl, hb1⟩
  go_wp2_with fail
  refine (PA w1).mono ?_
  clear PA
  rintro e w2 ⟨rfl, hb2⟩
  have hb := hb1.trans (hb2.mono hb1.size)
  have J2 := (mjV c k vt ve).below HJ.out hb
  obtain ⟨_, _, _, c3, _, c5, _, cz, lk⟩ := mj_cells J2
  obtain ⟨⟨D, o1, o2, o3⟩, hM⟩ := mj_map J2
  obtain ⟨w3, hrun, hown3, hgrow3⟩ := o1.update (t := 104) (e := 3) lawI Tryz.underlying104 (by unfold maxLen; omega) hky hvl
  obtain ⟨J3, T3⟩ := hM w3 _ (Mp.put o1 o2 o3 l2 hown3) ((Fr.refl _ w2).grown hgrow3 (fun b e => Or.inl (by cases e; rfl)))
  obtain ⟨_, _, _, _, _, d5, _, dz, lk3⟩ := mj_cells J3
  obtain ⟨tr3, _, rne, _⟩ := mj_rows J3
  dsimp only at tr3
  obtain ⟨ad, cap, evt⟩ := row_slice tr3
  subst evt
  have z5 := dz 5
  have HJ3 : Hid ((mjV c k (.slice ad s.td.length cap) ve).J F { s with f := upf s.f a a } w3 /\ Tn F w F w3) := ⟨J3, (Tn.of hb).trans T3⟩
  have tl2 : s.td.length <= 4000 := by omega
  clear hb1 hb2 hb J2 hM o1 o2 o3 hown3 hgrow3 J3 T3 HJ cz dz hsm
  go_wp2_with (at_builtin; refine wpList_append_own_at _ rfl _ _ 105 rfl 0 3 i0 (.int .i64 0) 1 8 Tryz.underlying105 hi hz0 hz1 hz2 rfl (by decide) (.slice ad s.td.length cap) s.td.length (s.td.map (Value.int .i64)) rfl (row_alloc tr3 _) ⟨w3.heap.size, 0, none⟩ 1 1 [.int .i64 a] rfl rfl ?_ ?_ ?_ ?_ ?_ ?_; (intro j u hj; match j, hj with | 0, hj => (simp at hj; subst hj; simp [Addr.add])); (intro u hu; simp at hu; subst hu; rfl); (unfold maxLen; omega); (first | omega | simp); (first | omega | (simp; done) | (simp; omega)); intro v' w4 hown4 hgrow4 _ hloc4; obtain ⟨b4, cap4, ev4⟩ := row_shape hown4 (Nat.succ_pos _); subst ev4; have kb := (hgrow4.block c.pk (by simp; omega) rne).trans (Below.heap_alloc _ _ _ lk3); have g4 := (World.cell?_of_block (a := ⟨c.pk, 5, none⟩) kb).trans d5; have f4 := (World.frozen?_of_block (a := ⟨c.pk, 5, none⟩) kb).trans z5)
  go_end0
  obtain ⟨F', hJ', hT'⟩ := mj_todo HJ3.out.1 (((Fr.refl _ w3).alloc _).grown hgrow4 (fun b e => Or.inl e.symm)) (v1 := .slice (some ⟨b4, 0, none⟩) (s.td.length + 1) cap4) (l := s.td ++ [a]) (by simpa using hown4) (fun b e => by
   have hbl : some b4 = (Value.slice ad s.td.length cap).ownBlock \/ b4 = w3.heap.size + 1 := hloc4.imp id (fun e => by simpa [Value.ownBlock] using e)
   simp [Value.ownBlock] at e
   subst e
   exact hbl.imp id (fun e => by omega))
  exact ⟨F', rfl, ⟨_, by rw [E.out]; exact hJ'⟩, HJ3.out.2.trans hT'⟩
theorem markJ_any (h : (mjO c k).J F s w) (hI : JI k s) (x : Int) :
  Calls Tryz.prog 152 #[.pointer (some ⟨c.pk, 0, none⟩), .int .i64 x] w fun e w' => ∃ F', e = .returned (.tuple #[]) /\ (mjO c k).J F' (k.ma s x) w' /\ Tn F w F' w' := by
 obtain ⟨vt, ve, h⟩ := h
 refine (markE_any (ve := ve) ⟨vt, h⟩ hI x).mono ?_
 rintro e w' ⟨F', rfl, ⟨vt', j⟩, t⟩
 exact ⟨F', rfl, ⟨vt', ve, j⟩, t⟩
end
end Go.Proofs.YtalgochmjddodaaGreat
