/- Joined: Mk4, Mk5, Mn30, Mn31, Mn32. -/
import Derived.Test.YtalgochmjddodaaGreatJ25
import Derived.Test.YtalgochmjddodaaGreatJ32
import Derived.Test.YtalgochmjddodaaGreatJ19
namespace Go.Proofs.YtalgochmjddodaaGreat
open Go.RowKit W Kp Stl
theorem spl_get (ws : List Int) (t f n i : Nat) (h1 : t + n <= ws.length) (h2 : f + n <= ws.length) :
  (splice ws t ((ws.drop f).take n)).getD i 0 = if t <= i /\ i < t + n then ws.getD (f + i - t) 0 else ws.getD i 0 := by
 have hl : ((ws.drop f).take n).length = n := by simp; omega
 unfold splice
 rw [hl]
 simp only [List.getD_eq_getElem?_getD]
 by_cases c : i < t
 ·rw [List.getElem?_append_left (by simp; omega), if_neg (by omega), List.getElem?_take_of_lt c]
 ·have e1 : (ws.take t).length = t := by simp; omega
  rw [List.getElem?_append_right (by omega), e1]
  by_cases c2 : i < t + n
  ·rw [if_pos (by omega), List.getElem?_append_left (by omega), List.getElem?_take_of_lt (by omega), List.getElem?_drop, show f + (i - t) = f + i - t by omega]
  ·rw [if_neg (by omega), List.getElem?_append_right (by omega), hl, List.getElem?_drop, show t + n + (i - t - n) = i by omega]
theorem jmov_ld (k : Jk) (hl : k.s.ws.length = k.a.N + k.a.O) (hy : k.s.y <= k.a.N) (hg : k.s.g <= k.a.O) (t f n : Nat) (t0 : k.a.N <= t) (t1 : t + n <= k.a.N + k.s.g) (f0 : k.a.N <= f) (f1 : f + n <= k.a.N + k.s.g) (x : Int) :
  (k.mov t f n).ld x = if (t : Int) <= x /\ x < (t : Int) + n then k.ld (f + (x - t)) else k.ld x := by
 have e : (k.mov t f n).ld x = ld k.a.N k.s.y k.s.g (splice k.s.ws t ((k.s.ws.drop f).take n)) x := rfl
 rw [e]
 unfold Jk.ld
 by_cases c : (t : Int) <= x /\ x < (t : Int) + n
 ·rw [if_pos c, ld_in (iB_o (by omega) (by omega)), ld_in (iB_o (by omega) (by omega)), spl_get _ _ _ _ _ (by omega) (by omega), if_pos (by omega)]
  congr 1
  omega
 ·rw [if_neg c]
  cases hb : iB k.a.N k.s.y k.s.g x
  ·unfold ld
   rw [hb]
   rfl
  ·have hb2 := (iB_bool _ _ _ _).1 hb
   rw [ld_in hb, ld_in hb, spl_get _ _ _ _ _ (by omega) (by omega), if_neg (by omega)]
structure Ksm (k k' : Jk) : Prop where
  a : k'.a = k.a
  y : k'.s.y = k.s.y
  rs : k'.s.rs = k.s.rs
  len : k'.s.ws.length = k.s.ws.length
theorem Ksm.refl (k : Jk) : Ksm k k := ⟨rfl, rfl, rfl, rfl⟩
theorem Ksm.trans {k k' k'' : Jk} (h : Ksm k k') (j : Ksm k' k'') : Ksm k k'' := ⟨j.a.trans h.a, j.y.trans h.y, j.rs.trans h.rs, j.len.trans h.len⟩
structure SlI (k : Jk) (al : Int -> Bool) (f : Int -> Int) (m : Int) (D l : List Int) (t : Jk × Int) : Prop where
  sm : Ksm k t.1
  g : t.1.s.g = k.s.g
  u0 : 0 <= t.2
  pos : Pos (fun a => pf (k.ld a)) al f (k.a.N + t.2) l m
  tl : ∃ b : Int, Tile k.ld (k.a.N + k.s.g) b l /\ k.a.N + t.2 <= b /\ ∀ x : Int, b <= x -> x < k.a.N + k.s.g -> t.1.ld x = k.ld x
  yg : ∀ x : Int, 0 <= x -> x < k.s.y -> t.1.ld x = k.ld x
  rel : ∀ c ∈ D, al c = true -> f c + pf (k.ld c) < k.a.N + t.2 /\ ∀ i : Int, 0 <= i -> i <= pf (k.ld c) -> t.1.ld (f c + i) = k.ld (c + i)
section
variable {k : Jk} {al : Int -> Bool} {s : Js} {m : Int}
theorem SlI.step (hl : k.s.ws.length = k.a.N + k.a.O) (hy : k.s.y <= k.a.N) (hg : k.s.g <= k.a.O) {D l : List Int} {a : Int} {t : Jk × Int} (h : SlI k al s.f m D (a :: l) t) (hs : al a = !(s.f a == -1)) : SlI k al s.f m (D ++ [a]) l (ejS (fun _ a => s.f a) (Jk.slS s) t a) := by
 obtain ⟨b, ⟨e, hp0, hle, ht⟩, hb, hsame⟩ := h.tl
 have hpf := pf_bd (k.ld b)
 have u0 := h.u0
 cases c : al a
 ·rw [c] at hs
  have c2 : s.f a = -1 := by simpa using hs
  have e1 : ejS (fun _ a => s.f a) (Jk.slS s) t a = t := by unfold ejS; rw [if_pos c2]
  rw [e1]
  refine ⟨h.sm, h.g, h.u0, (h.pos.2 c).2, ⟨b + (1 + pf (k.ld b)), ht, by omega, fun x h1 h2 => hsame x (by omega) h2⟩, h.yg, fun d hd hal => ?_⟩
  rcases List.mem_append.1 hd with hd | hd
  ·exact h.rel d hd hal
  ·rw [List.mem_singleton.1 hd, c] at hal
   cases hal
 ·rw [c] at hs
  have c2 : s.f a ≠ -1 := by simpa using hs.symm
  obtain ⟨p1, p2⟩ := h.pos.1 c
  have e1 : ejS (fun _ a => s.f a) (Jk.slS s) t a = Jk.slS s t a := by unfold ejS; rw [if_neg c2]
  rw [e1]
  have ea : t.1.ld a = k.ld a := hsame a (by omega) (by rw [e]; omega)
  have eK : Jk.slS s t a = (t.1.mov (s.f a).toNat a.toNat (1 + (pf (k.ld a)).toNat), t.2 + (1 + pf (k.ld a))) := by unfold Jk.slS; rw [ea]
  have hz : pf (k.ld a) = pf (k.ld b) := by rw [e]
  have hN := h.sm.a
  have hyy := h.sm.y
  have hgg := h.g
  have hll := h.sm.len
  have M := jmov_ld t.1 (by rw [hll, hN]; exact hl) (by rw [hyy, hN]; exact hy) (by rw [hgg, hN]; exact hg) (s.f a).toNat a.toNat (1 + (pf (k.ld a)).toNat) (by rw [hN]; omega) (by rw [hN, hgg]; omega) (by rw [hN]; omega) (by rw [hN, hgg]; omega)
  have hk2 : Ksm t.1 (t.1.mov (s.f a).toNat a.toNat (1 + (pf (k.ld a)).toNat)) /\ (t.1.mov (s.f a).toNat a.toNat (1 + (pf (k.ld a)).toNat)).s.g = t.1.s.g := by
   refine ⟨⟨rfl, rfl, rfl, ?_⟩, rfl⟩
   show (splice t.1.s.ws _ _).length = _
   refine splice_len _ _ _ ?_
   rw [hll, hl, List.length_take, List.length_drop, hll, hl]
   omega
  rw [eK]
  generalize t.1.mov (s.f a).toNat a.toNat (1 + (pf (k.ld a)).toNat) = k2 at M hk2 ⊢
  have M2 : ∀ x, k2.ld x = if s.f a <= x /\ x < s.f a + (1 + pf (k.ld a)) then t.1.ld (a + (x - s.f a)) else t.1.ld x := fun x => by
   rw [M x]
   have h1 : ((s.f a).toNat : Int) = s.f a := by omega
   have h2 : (a.toNat : Int) = a := by omega
   have h3 : ((1 + (pf (k.ld a)).toNat : Nat) : Int) = 1 + pf (k.ld a) := by omega
   rw [h1, h2, h3]
  have p2 : Pos (fun a => pf (k.ld a)) al s.f (k.a.N + t.2 + (1 + pf (k.ld a))) l m := p2
  refine ⟨h.sm.trans hk2.1, hk2.2.trans h.g, by dsimp only; omega, by dsimp only; rw [<- Int.add_assoc]; exact p2, ⟨b + (1 + pf (k.ld b)), ht, by dsimp only; omega, fun x h1 h2 => ?_⟩, fun x h1 h2 => ?_, fun d hd hal => ?_⟩
  ·dsimp only
   rw [M2, if_neg (by omega)]
   exact hsame x (by omega) h2
  ·dsimp only
   rw [M2, if_neg (by omega)]
   exact h.yg x h1 h2
  ·dsimp only
   rcases List.mem_append.1 hd with hd | hd
   ·obtain ⟨r1, r2⟩ := h.rel d hd hal
    refine ⟨by omega, fun i i0 i1 => ?_⟩
    rw [M2, if_neg (by omega)]
    exact r2 i i0 i1
   ·rw [List.mem_singleton.1 hd]
    refine ⟨by omega, fun i i0 i1 => ?_⟩
    rw [M2, if_pos (by omega), show a + (s.f a + i - s.f a) = a + i from by omega]
    exact hsame (a + i) (by omega) (by omega)
theorem SlI.slg (hl : k.s.ws.length = k.a.N + k.a.O) (hy : k.s.y <= k.a.N) (hg : k.s.g <= k.a.O) (hN : k.a.N <= 256) (hO : k.a.O <= 1024) (hs : ∀ a ∈ k.G, al a = !(s.f a == -1)) (hm : m <= k.a.N + k.a.O) : SlG k s (fun j t => SlI k al s.f m (k.G.take j) (k.G.drop j) t) := by
 have hz : ∀ a, 0 <= (fun a => pf (k.ld a)) a := fun a => (pf_bd _).1
 refine ⟨fun j t hj h hf => ?_, fun j t hj h => ?_, fun t h => ?_⟩
 ·have e : k.G.drop j = k.G.getD j 0 :: k.G.drop (j + 1) := by
   rw [List.drop_eq_getElem_cons hj, List.getD_eq_getElem?_getD, List.getElem?_eq_getElem hj]
   rfl
  have hmem : k.G.getD j 0 ∈ k.G := by
   rw [List.getD_eq_getElem?_getD, List.getElem?_eq_getElem hj]
   exact List.getElem_mem hj
  generalize k.G.getD j 0 = a at e hf hmem ⊢
  have h : SlI k al s.f m (k.G.take j) (k.G.drop j) t := h
  rw [e] at h
  have ha : al a = true := by rw [hs a hmem, beq_false_of_ne hf]; rfl
  obtain ⟨b, ⟨eb, hp0, hle, ht⟩, hb, hsame⟩ := h.tl
  have hpf := pf_bd (k.ld b)
  have u0 := h.u0
  obtain ⟨p1, p2⟩ := h.pos.1 ha
  have p3 := p2.le hz
  have p3 : k.a.N + t.2 + (1 + pf (k.ld a)) <= m := p3
  have ea : t.1.ld a = k.ld a := hsame a (by omega) (by rw [eb]; omega)
  rw [ea, p1]
  rw [eb] at p3 ⊢
  omega
 ·have e : k.G.drop j = k.G.getD j 0 :: k.G.drop (j + 1) := by
   rw [List.drop_eq_getElem_cons hj, List.getD_eq_getElem?_getD, List.getElem?_eq_getElem hj]
   rfl
  have e2 : k.G.take (j + 1) = k.G.take j ++ [k.G.getD j 0] := take_snoc k.G j hj 0
  have hmem : k.G.getD j 0 ∈ k.G := by
   rw [List.getD_eq_getElem?_getD, List.getElem?_eq_getElem hj]
   exact List.getElem_mem hj
  have h : SlI k al s.f m (k.G.take j) (k.G.drop j) t := h
  rw [e] at h
  have h2 := h.step hl hy hg (hs _ hmem)
  rw [<- e2] at h2
  exact h2
 ·have h : SlI k al s.f m (k.G.take k.G.length) (k.G.drop k.G.length) t := h
  have u0 := h.u0
  have h2 := h.pos.le hz
  omega
theorem SlI.all (hl : k.s.ws.length = k.a.N + k.a.O) (hy : k.s.y <= k.a.N) (hg : k.s.g <= k.a.O) (hs : ∀ a ∈ k.G, al a = !(s.f a == -1)) : ∀ (l D : List Int) (t : Jk × Int), (∀ a ∈ l, a ∈ k.G) -> SlI k al s.f m D l t -> SlI k al s.f m (D ++ l) [] (ejL (fun _ a => s.f a) (Jk.slS s) t l)
 | [], D, t, _, h => by rw [List.append_nil]; exact h
 | a :: l, D, t, hG, h => by
  have h1 := h.step hl hy hg (hs a (hG a (by simp)))
  have h2 := SlI.all hl hy hg hs l (D ++ [a]) _ (fun b hb => hG b (List.mem_cons_of_mem _ hb)) h1
  rw [List.append_assoc] at h2
  exact h2
structure CpI (k : Jk) (al : Int -> Bool) (f : Int -> Int) (m : Int) (D l : List Int) (t : Jk) : Prop where
  sm : Ksm k t
  g : t.s.g <= k.a.O
  pos : Pos (fun a => pf (k.ld a)) al f (k.a.N + t.s.g) l m
  yg : ∀ x : Int, 0 <= x -> x < k.s.y -> t.ld x = k.ld x
  rel : ∀ c ∈ D, al c = true -> (k.a.N : Int) <= f c /\ f c + pf (k.ld c) < k.a.N + t.s.g /\ ∀ i : Int, 0 <= i -> i <= pf (k.ld c) -> t.ld (f c + i) = k.ld (c + i)
theorem CpI.step (hl : k.s.ws.length = k.a.N + k.a.O) (hy : k.s.y <= k.a.N) (hm : m <= k.a.N + k.a.O) {D l : List Int} {a : Int} {t : Jk} (h : CpI k al s.f m D (a :: l) t) (hs : al a = !(s.f a == -1)) (h0 : 0 <= a) (h1 : a + (1 + pf (k.ld a)) <= k.s.y) (h2 : pc (k.ld a) = 0) : CpI k al s.f m (D ++ [a]) l (ejS (fun (_ : Jk) a => s.f a) (fun k a => k.cop a) t a) := by
 have hz : ∀ a, 0 <= (fun a => pf (k.ld a)) a := fun a => (pf_bd _).1
 have hpf := pf_bd (k.ld a)
 cases c : al a
 ·rw [c] at hs
  have c2 : s.f a = -1 := by simpa using hs
  have e1 : ejS (fun (_ : Jk) a => s.f a) (fun k a => k.cop a) t a = t := by unfold ejS; rw [if_pos c2]
  rw [e1]
  refine ⟨h.sm, h.g, (h.pos.2 c).2, h.yg, fun d hd hal => ?_⟩
  rcases List.mem_append.1 hd with hd | hd
  ·exact h.rel d hd hal
  ·rw [List.mem_singleton.1 hd, c] at hal
   cases hal
 ·rw [c] at hs
  have c2 : s.f a ≠ -1 := by simpa using hs.symm
  obtain ⟨p1, p2⟩ := h.pos.1 c
  have p2 : Pos (fun a => pf (k.ld a)) al s.f (k.a.N + t.s.g + (1 + pf (k.ld a))) l m := p2
  have p3 := p2.le hz
  have e1 : ejS (fun (_ : Jk) a => s.f a) (fun k a => k.cop a) t a = t.cop a := by unfold ejS; rw [if_neg c2]
  rw [e1]
  have ea : t.ld a = k.ld a := h.yg a h0 (by omega)
  have hN := h.sm.a
  have hyy := h.sm.y
  have hll := h.sm.len
  have hgg := h.g
  have el : ld t.a.N t.s.y t.s.g t.s.ws a = k.ld a := ea
  have hend : endA t.a.N t.s.y t.s.g a = t.s.y := by
   unfold endA
   have e0 : hB (0 : Int) t.s.y a = true := by unfold hB; exact decide_eq_true ⟨h0, by omega⟩
   first | rw [if_pos e0] | (simp [e0])
  have hc : cpB t.a.N t.a.O t.s.y t.s.g t.s.ws a = true := by
   unfold cpB
   rw [el, hend]
   exact decide_eq_true ⟨h2, by omega, by rw [hN]; omega⟩
  have M := Ck.ld_cp (k := ⟨t.a.N, t.a.O, t.s.y, []⟩) (s := ⟨t.s.g, t.s.ws, fun _ => -1, 0, [], [], []⟩) (by show t.s.ws.length = t.a.N + t.a.O; rw [hll, hN]; exact hl) (by show t.s.y <= t.a.N; rw [hyy, hN]; exact hy) (by show t.s.g <= t.a.O; rw [hN]; exact hgg) (a := a) h0 (by show a + 1 + pf (ld t.a.N t.s.y t.s.g t.s.ws a) <= t.s.y; rw [el]; omega) hc
  have M2 : ∀ x, (t.cop a).ld x = if (k.a.N : Int) + t.s.g <= x /\ x < (k.a.N : Int) + t.s.g + (1 + pf (k.ld a)) then t.ld (a + (x - (k.a.N + t.s.g))) else t.ld x := fun x => by
   have := M x
   rw [<- hN, <- el]
   exact this
  have eg : (t.cop a).s.g = t.s.g + (1 + (pf (k.ld a)).toNat) := by
   show cpG _ _ _ _ _ _ = _
   unfold cpG
   rw [if_pos hc, el]
  have elen : (t.cop a).s.ws.length = t.s.ws.length := by
   show (cpW _ _ _ _ _ _).length = _
   unfold cpW
   rw [if_pos hc, el]
   refine splice_len _ _ _ ?_
   rw [hll, hl, hN, List.length_take, List.length_drop, hll, hl]
   omega
  have esm : Ksm t (t.cop a) := ⟨rfl, rfl, rfl, elen⟩
  generalize t.cop a = t2 at M2 eg esm ⊢
  have eg2 : (t2.s.g : Int) = t.s.g + (1 + pf (k.ld a)) := by omega
  refine ⟨h.sm.trans esm, by omega, by rw [eg2, <- Int.add_assoc]; exact p2, fun x x0 x1 => ?_, fun d hd hal => ?_⟩
  ·rw [M2, if_neg (by omega)]
   exact h.yg x x0 x1
  ·rcases List.mem_append.1 hd with hd | hd
   ·obtain ⟨r0, r1, r2⟩ := h.rel d hd hal
    refine ⟨r0, by omega, fun i i0 i1 => ?_⟩
    rw [M2, if_neg (by omega)]
    exact r2 i i0 i1
   ·rw [List.mem_singleton.1 hd]
    refine ⟨by omega, by omega, fun i i0 i1 => ?_⟩
    rw [M2, if_pos (by omega), show a + (s.f a + i - (k.a.N + t.s.g)) = a + i from by omega]
    exact h.yg (a + i) (by omega) (by omega)
theorem CpI.all (hl : k.s.ws.length = k.a.N + k.a.O) (hy : k.s.y <= k.a.N) (hm : m <= k.a.N + k.a.O) : ∀ (l D : List Int) (t : Jk), (∀ a ∈ l, al a = !(s.f a == -1) /\ 0 <= a /\ a + (1 + pf (k.ld a)) <= k.s.y /\ pc (k.ld a) = 0) -> CpI k al s.f m D l t -> CpI k al s.f m (D ++ l) [] (t.cpL s l)
 | [], D, t, _, h => by rw [List.append_nil]; exact h
 | a :: l, D, t, hG, h => by
  obtain ⟨g1, g2, g3, g4⟩ := hG a (by simp)
  have h1 := h.step hl hy hm g1 g2 g3 g4
  have h2 := CpI.all hl hy hm l (D ++ [a]) _ (fun b hb => hG b (List.mem_cons_of_mem _ hb)) h1
  rw [List.append_assoc] at h2
  exact h2
end
end Go.Proofs.YtalgochmjddodaaGreat

namespace Go.Proofs.YtalgochmjddodaaGreat
open Go.RowKit W Kp Stl
structure Kst (k k' : Jk) : Prop where
  a : k'.a = k.a
  y : k'.s.y = k.s.y
  g : k'.s.g = k.s.g
  rs : k'.s.rs = k.s.rs
  Y : k'.Y = k.Y
  G : k'.G = k.G
  len : k'.s.ws.length = k.s.ws.length
theorem Kst.refl (k : Jk) : Kst k k := ⟨rfl, rfl, rfl, rfl, rfl, rfl, rfl⟩
theorem Kst.trans {k k' k'' : Jk} (h : Kst k k') (j : Kst k' k'') : Kst k k'' := ⟨j.a.trans h.a, j.y.trans h.y, j.g.trans h.g, j.rs.trans h.rs, j.Y.trans h.Y, j.G.trans h.G, j.len.trans h.len⟩
structure Kbd (k : Jk) : Prop where
  l : k.s.ws.length = k.a.N + k.a.O
  y : k.s.y <= k.a.N
  g : k.s.g <= k.a.O
theorem Kst.bd {k k' : Jk} (h : Kst k k') (b : Kbd k) : Kbd k' := ⟨by rw [h.len, h.a]; exact b.l, by rw [h.y, h.a]; exact b.y, by rw [h.g, h.a]; exact b.g⟩
theorem Kst.T {k k' : Jk} (h : Kst k k') : k'.T = k.T := by unfold Jk.T; rw [h.Y, h.G]
section
variable {k : Jk} {s : Js}
theorem jsto_st (k : Jk) (p x : Int) : Kst k (k.sto p x) := ⟨rfl, rfl, rfl, rfl, rfl, rfl, by
 show (if _ then _ else _ : List Int).length = _
 split
 ·exact List.length_set
 ·rfl⟩
theorem jsto_ld (b : Kbd k) {p : Int} (hp : iB k.a.N k.s.y k.s.g p = true) (x q : Int) : (k.sto p x).ld q = if q = p then x else k.ld q := by
 have hb := iB_bd hp b.y b.g
 have e : (k.sto p x).ld q = ld k.a.N k.s.y k.s.g (k.s.ws.set p.toNat x) q := by
  unfold Jk.sto
  rw [if_pos hp]
  rfl
 rw [e]
 unfold Jk.ld
 by_cases c : q = p
 ·rw [if_pos c, c, ld_in hp, List.getD_eq_getElem?_getD, List.getElem?_set_self (by rw [b.l]; omega)]
  rfl
 ·rw [if_neg c]
  cases hq : iB k.a.N k.s.y k.s.g q
  ·unfold ld
   rw [hq]
   rfl
  ·have hq2 := iB_bd hq b.y b.g
   rw [ld_in hq, ld_in hq, List.getD_eq_getElem?_getD, List.getElem?_set_ne (by omega), List.getD_eq_getElem?_getD]
def Jk.bkf (k : Jk) (s : Js) (a i : Int) : Int := if ((pk (k.ld a) = 3 \/ pk (k.ld a) = 4) /\ k.jl s (k.ld (a + 1)) = true) /\ (i = 0 \/ (pk (k.ld a) = 4 /\ i = 1)) then 3 else k.ld (a + 1 + i)
structure Whl (k : Jk) (a : Int) : Prop where
  c : pc (k.ld a) = 0
  i : ∀ i, 0 <= i -> i <= pf (k.ld a) -> iB k.a.N k.s.y k.s.g (a + i) = true
theorem Kst.whl {k k' : Jk} (h : Kst k k') {a : Int} (e : k'.ld a = k.ld a) (w : Whl k a) : Whl k' a := ⟨by rw [e]; exact w.c, fun i h1 h2 => by
 rw [h.a, h.y, h.g]
 rw [e] at h2
 exact w.i i h1 h2⟩
theorem brk_ld (b : Kbd k) {a : Int} (w : Whl k a) : Kst k (k.brk s a) /\ (∀ q, (q <= a \/ a + pf (k.ld a) < q) -> (k.brk s a).ld q = k.ld q) /\ ∀ i, 0 <= i -> i < pf (k.ld a) -> (k.brk s a).ld (a + 1 + i) = k.bkf s a i := by
 unfold Jk.brk
 by_cases c : (pk (k.ld a) = 3 \/ pk (k.ld a) = 4) /\ k.jl s (k.ld (a + 1)) = true
 ·rw [if_pos c]
  have f2 := pf_two w.c (by omega)
  have i1 := w.i 1 (by omega) (by omega)
  have i2 := w.i 2 (by omega) (by omega)
  have e1 := jsto_ld b i1 3
  have b1 := (jsto_st k (a + 1) 3).bd b
  by_cases d : pk (k.ld a) = 4
  ·rw [if_pos d]
   have e2 := jsto_ld b1 (p := a + 2) i2 3
   refine ⟨(jsto_st k (a + 1) 3).trans (jsto_st _ _ _), fun q hq => ?_, fun i i0 i3 => ?_⟩
   ·rw [e2, if_neg (by omega), e1, if_neg (by omega)]
   ·unfold Jk.bkf
    rw [e2, e1]
    by_cases z : i = 0
    ·rw [if_neg (by omega), if_pos (by omega), if_pos ⟨c, Or.inl z⟩]
    ·by_cases o : i = 1
     ·rw [if_pos (by omega), if_pos ⟨c, Or.inr ⟨d, o⟩⟩]
     ·rw [if_neg (by omega), if_neg (by omega), if_neg (fun h => by omega)]
  ·rw [if_neg d]
   refine ⟨jsto_st k (a + 1) 3, fun q hq => ?_, fun i i0 i3 => ?_⟩
   ·rw [e1, if_neg (by omega)]
   ·unfold Jk.bkf
    rw [e1]
    by_cases z : i = 0
    ·rw [if_pos (by omega), if_pos ⟨c, Or.inl z⟩]
    ·rw [if_neg (by omega), if_neg (fun h => by omega)]
 ·rw [if_neg c]
  refine ⟨Kst.refl k, fun q hq => rfl, fun i i0 i1 => ?_⟩
  unfold Jk.bkf
  rw [if_neg (fun h => c h.1)]
theorem tlf_ld (b : Kbd k) {a : Int} (w : Whl k a) : ∀ n : Nat, (n : Int) <= pf (k.ld a) -> Kst k (k.tlf s a n) /\ (∀ q, (q <= a \/ a + n < q) -> (k.tlf s a n).ld q = k.ld q) /\ ∀ i : Int, 0 <= i -> i < n -> (k.tlf s a n).ld (a + 1 + i) = k.nw s (k.ld (a + 1 + i))
 | 0, _ => ⟨Kst.refl k, fun _ _ => rfl, fun i i0 i1 => by omega⟩
 | n + 1, hn => by
  obtain ⟨h1, h2, h3⟩ := tlf_ld b w n (by omega)
  have b1 := h1.bd b
  have hi : iB (k.tlf s a n).a.N (k.tlf s a n).s.y (k.tlf s a n).s.g (a + 1 + n) = true := by
   rw [h1.a, h1.y, h1.g, show a + 1 + (n : Int) = a + (1 + n) from by omega]
   exact w.i _ (by omega) (by omega)
  have e := jsto_ld b1 hi (k.nw s ((k.tlf s a n).ld (a + 1 + n)))
  have eS : k.tlf s a (n + 1) = (k.tlf s a n).sto (a + 1 + n) (k.nw s ((k.tlf s a n).ld (a + 1 + n))) := rfl
  rw [eS]
  refine ⟨h1.trans (jsto_st _ _ _), fun q hq => ?_, fun i i0 i1 => ?_⟩
  ·rw [e, if_neg (by omega)]
   exact h2 q (by omega)
  ·rw [e]
   by_cases z : i = n
   ·rw [if_pos (by omega), h2 _ (by omega), z]
   ·rw [if_neg (by omega)]
    exact h3 i i0 (by omega)
theorem tl1_ld (b : Kbd k) {a : Int} (w : Whl k a) : Kst k (k.tl1 s a) /\ (∀ q, (q <= a \/ a + pf (k.ld a) < q) -> (k.tl1 s a).ld q = k.ld q) /\ ∀ i, 0 <= i -> i < pf (k.ld a) -> (k.tl1 s a).ld (a + 1 + i) = k.nw s (k.bkf s a i) := by
 obtain ⟨h1, h2, h3⟩ := brk_ld (s := s) b w
 have hp := pf_bd (k.ld a)
 have ea := h2 a (Or.inl (Int.le_refl _))
 obtain ⟨j1, j2, j3⟩ := tlf_ld (s := s) (h1.bd b) (h1.whl ea w) (pf (k.ld a)).toNat (by rw [ea]; omega)
 unfold Jk.tl1
 refine ⟨h1.trans j1, fun q hq => ?_, fun i i0 i1 => ?_⟩
 ·rw [j2 q (by omega)]
  exact h2 q hq
 ·rw [j3 i i0 (by omega), h3 i i0 i1]
  exact Jk.nw_of s _ h1.Y h1.G
structure TlI (k0 : Jk) (s : Js) (D : List Int) (t : Jk) : Prop where
  st : Kst k0 t
  hd : ∀ c ∈ k0.T, t.ld c = k0.ld c
  dn : ∀ c ∈ D, s.f c ≠ -1 -> ∀ i, 0 <= i -> i < pf (k0.ld c) -> t.ld (c + 1 + i) = k0.nw s (k0.bkf s c i)
  td : ∀ c ∈ k0.T, c ∉ D -> ∀ i, 0 <= i -> i < pf (k0.ld c) -> t.ld (c + 1 + i) = k0.ld (c + 1 + i)
theorem TlI.step {k0 : Jk} (b : Kbd k0) (w : ∀ c ∈ k0.T, Whl k0 c) (ap : ∀ c ∈ k0.T, ∀ d ∈ k0.T, c < d -> c + (1 + pf (k0.ld c)) <= d) {D : List Int} {t : Jk} (h : TlI k0 s D t) {a : Int} (ha : a ∈ k0.T) (hD : a ∉ D) (hDT : ∀ c ∈ D, c ∈ k0.T) : TlI k0 s (D ++ [a]) (ejS (fun (_ : Jk) a => s.f a) (fun k a => k.tl1 s a) t a) := by
 by_cases c : s.f a = -1
 ·have e1 : ejS (fun (_ : Jk) a => s.f a) (fun k a => k.tl1 s a) t a = t := by unfold ejS; rw [if_pos c]
  rw [e1]
  refine ⟨h.st, h.hd, fun d hd hf => ?_, fun d hd hn => h.td d hd (fun m => hn (List.mem_append_left _ m))⟩
  rcases List.mem_append.1 hd with hd | hd
  ·exact h.dn d hd hf
  ·rw [List.mem_singleton.1 hd] at hf
   exact absurd c hf
 ·have e1 : ejS (fun (_ : Jk) a => s.f a) (fun k a => k.tl1 s a) t a = t.tl1 s a := by unfold ejS; rw [if_neg c]
  rw [e1]
  have ea := h.hd a ha
  obtain ⟨h1, h2, h3⟩ := tl1_ld (s := s) (h.st.bd b) (h.st.whl ea (w a ha))
  rw [ea] at h2 h3
  have hpa := pf_bd (k0.ld a)
  have out : ∀ d ∈ k0.T, d ≠ a -> ∀ i, 0 <= i -> i <= pf (k0.ld d) -> (t.tl1 s a).ld (d + i) = t.ld (d + i) := fun d hd hne i i0 i1 => h2 _ (by
   rcases Int.lt_or_gt_of_ne hne with q | q
   ·have := ap d hd a ha q
    omega
   ·have := ap a ha d hd q
    omega)
  have ebk : ∀ i, 0 <= i -> i < pf (k0.ld a) -> t.bkf s a i = k0.bkf s a i := fun i i0 i1 => by
   unfold Jk.bkf Jk.jl Jk.jt
   rw [ea, h.st.T]
   have q0 := h.td a ha hD 0 (by omega) (by omega)
   rw [Int.add_zero] at q0
   rw [q0, h.td a ha hD i i0 i1]
  refine ⟨h.st.trans h1, fun d hd => ?_, fun d hd hf i i0 i1 => ?_, fun d hd hn i i0 i1 => ?_⟩
  ·by_cases e : d = a
   ·rw [e, h2 a (Or.inl (Int.le_refl _))]
    exact ea
   ·have := out d hd e 0 (by omega) (pf_bd _).1
    rw [Int.add_zero] at this
    rw [this]
    exact h.hd d hd
  ·rcases List.mem_append.1 hd with hd | hd
   ·have hne : d ≠ a := fun e => hD (e ▸ hd)
    have := out d (hDT d hd) hne (1 + i) (by omega) (by omega)
    rw [<- Int.add_assoc] at this
    rw [this]
    exact h.dn d hd hf i i0 i1
   ·have e := List.mem_singleton.1 hd
    rw [e] at i1 ⊢
    rw [h3 i i0 i1, ebk i i0 i1]
    exact Jk.nw_of s _ h.st.Y h.st.G
  ·have hne : d ≠ a := fun e => hn (by rw [e]; simp)
   have := out d hd hne (1 + i) (by omega) (by omega)
   rw [<- Int.add_assoc] at this
   rw [this]
   exact h.td d hd (fun m => hn (List.mem_append_left _ m)) i i0 i1
theorem TlI.all {k0 : Jk} (b : Kbd k0) (w : ∀ c ∈ k0.T, Whl k0 c) (ap : ∀ c ∈ k0.T, ∀ d ∈ k0.T, c < d -> c + (1 + pf (k0.ld c)) <= d) : ∀ (l D : List Int) (t : Jk), (D ++ l).Nodup -> (∀ c ∈ D ++ l, c ∈ k0.T) -> TlI k0 s D t -> TlI k0 s (D ++ l) (t.tlL s l)
 | [], D, t, _, _, h => by rw [List.append_nil]; exact h
 | a :: l, D, t, hn, hT, h => by
  have e : D ++ a :: l = (D ++ [a]) ++ l := by simp
  have hD : a ∉ D := fun m => (List.nodup_append.1 hn).2.2 a m a (by simp) rfl
  have h1 := h.step b w ap (hT a (by simp)) hD (fun c hc => hT c (List.mem_append_left _ hc))
  rw [e] at hn hT ⊢
  exact TlI.all b w ap l (D ++ [a]) _ hn hT h1
theorem tlr_rs (k : Jk) (s : Js) : ∀ n, n <= k.s.rs.length -> (k.tlr s n).a = k.a /\ (k.tlr s n).Y = k.Y /\ (k.tlr s n).G = k.G /\ (k.tlr s n).s.y = k.s.y /\ (k.tlr s n).s.g = k.s.g /\ (k.tlr s n).s.ws = k.s.ws /\ (k.tlr s n).s.rs.length = k.s.rs.length /\ ∀ i, i < k.s.rs.length -> (k.tlr s n).s.rs.getD i 0 = if i < n then k.nw s (k.s.rs.getD i 0) else k.s.rs.getD i 0
 | 0, _ => ⟨rfl, rfl, rfl, rfl, rfl, rfl, rfl, fun i _ => by rw [if_neg (by omega)]; rfl⟩
 | n + 1, hn => by
  obtain ⟨h1, h2, h3, h4, h5, h6, h7, h8⟩ := tlr_rs k s n (by omega)
  refine ⟨h1, h2, h3, h4, h5, h6, ?_, fun i hi => ?_⟩
  ·show (List.set _ _ _).length = _
   rw [List.length_set]
   exact h7
  ·show (List.set _ n _).getD i 0 = _
   by_cases e : i = n
   ·rw [e, if_pos (by omega), List.getD_eq_getElem?_getD, List.getElem?_set_self (by rw [h7]; omega), h8 n (by omega), if_neg (by omega)]
    rfl
   ·rw [List.getD_eq_getElem?_getD, List.getElem?_set_ne (by omega), <- List.getD_eq_getElem?_getD, h8 i hi]
    by_cases d : i < n
    ·rw [if_pos d, if_pos (by omega)]
    ·rw [if_neg d, if_neg (by omega)]
theorem tlA_ld (b : Kbd k) (hr : k.s.rs.length = 12) (hn : k.T.Nodup) (w : ∀ c ∈ k.T, Whl k c) (ap : ∀ c ∈ k.T, ∀ d ∈ k.T, c < d -> c + (1 + pf (k.ld c)) <= d) :
  (k.tlA s).a = k.a /\ (k.tlA s).Y = k.Y /\ (k.tlA s).G = k.G /\ (k.tlA s).s.y = k.s.y /\ (k.tlA s).s.g = k.s.g /\ Kbd (k.tlA s) /\ (k.tlA s).s.rs.length = 12 /\ (∀ i, i < 12 -> (k.tlA s).s.rs.getD i 0 = k.nw s (k.s.rs.getD i 0)) /\
  (∀ c ∈ k.T, (k.tlA s).ld c = k.ld c) /\ ∀ c ∈ k.T, s.f c ≠ -1 -> ∀ i, 0 <= i -> i < pf (k.ld c) -> (k.tlA s).ld (c + 1 + i) = k.nw s (k.bkf s c i) := by
 obtain ⟨h1, h2, h3, h4, h5, h6, h7, h8⟩ := tlr_rs k s 12 (by omega)
 obtain ⟨k0, hk0⟩ : ∃ k0, k.tlr s 12 = k0 := ⟨_, rfl⟩
 rw [hk0] at h1 h2 h3 h4 h5 h6 h7 h8
 have eld : ∀ x, k0.ld x = k.ld x := fun x => by unfold Jk.ld; rw [h1, h4, h5, h6]
 have eT : k0.T = k.T := by unfold Jk.T; rw [h2, h3]
 have b0 : Kbd k0 := ⟨by rw [h6, h1]; exact b.l, by rw [h4, h1]; exact b.y, by rw [h5, h1]; exact b.g⟩
 have w0 : ∀ c ∈ k0.T, Whl k0 c := fun c hc => by
  rw [eT] at hc
  exact ⟨by rw [eld]; exact (w c hc).c, fun i i0 i1 => by rw [eld] at i1; rw [h1, h4, h5]; exact (w c hc).i i i0 i1⟩
 have key := TlI.all (s := s) b0 w0 (fun c hc d hd q => by rw [eT] at hc hd; rw [eld]; exact ap c hc d hd q) k0.T [] k0 (by rw [List.nil_append, eT]; exact hn) (fun c hc => hc) ⟨Kst.refl _, fun _ _ => rfl, (fun c hc => by cases hc), fun _ _ _ _ _ _ => rfl⟩
 rw [List.nil_append] at key
 have eA : k.tlA s = k0.tlL s k0.T := by unfold Jk.tlA; rw [hk0, eT]
 rw [eA]
 generalize k0.tlL s k0.T = t at key
 refine ⟨key.st.a.trans h1, key.st.Y.trans h2, key.st.G.trans h3, key.st.y.trans h4, key.st.g.trans h5, key.st.bd b0, by rw [key.st.rs, h7]; exact hr, fun i hi => by rw [key.st.rs, h8 i (by omega), if_pos hi], fun c hc => ?_, fun c hc hf i i0 i1 => ?_⟩
 ·rw [key.hd c (by rw [eT]; exact hc), eld]
 ·rw [key.dn c (by rw [eT]; exact hc) hf i i0 (by rw [eld]; exact i1)]
  have e2 : k0.bkf s c i = k.bkf s c i := by
   unfold Jk.bkf Jk.jl Jk.jt
   rw [eT, eld, eld, eld]
  rw [e2]
  exact Jk.nw_of s _ h2 h3
end
end Go.Proofs.YtalgochmjddodaaGreat

namespace Go.Proofs.YtalgochmjddodaaGreat
open Go.RowKit W Kp Stl
section
variable {k : Ck} {z : C0} {s t : Cs} {H K D : List Int}
theorem kr_wk (k : Ck) (s : Cs) : ∀ n, (k.kr s n).wk = s.wk /\ (k.kr s n).ep = s.ep /\ (k.kr s n).nx = s.nx
 | 0 => ⟨rfl, rfl, rfl⟩
 | n + 1 => by
  obtain ⟨h1, h2, h3⟩ := kr_wk k s n
  obtain ⟨_, j1, j2, j3⟩ := br_rs k (k.kr s n) ((k.kr s n).rs.getD n 0)
  exact ⟨j1.trans h1, j2.trans h2, j3.trans h3⟩
theorem WE.kr (w : WE k z s H) (h : MI k z s H) (n : Nat) (ht : MI k z (k.kr s n) K) (p : Pg k s (k.kr s n)) (hK : ∃ H2, K = H ++ H2) : WE k z (k.kr s n) K :=
 w.go h ht p hK (kr_wk k s n).1 (kr_wk k s n).2.1
theorem LI.lmw (c : Int) (M : List Int) (hz : Tile (k.l0 z) ((k.N : Int) + z.g) k.N z.G) : ∀ (l : List Int) {s : Cs} {H D : List Int}, LI k z s H D -> WE k z s H -> (∀ a ∈ l, a ∈ z.G \/ (k.N : Int) + z.g <= a) -> ∃ H' D', LI k z (l.foldl (k.lm1 ((k.N : Int) + z.g) c M) s) H' D' /\ WE k z (l.foldl (k.lm1 ((k.N : Int) + z.g) c M) s) H' /\ Pg k s (l.foldl (k.lm1 ((k.N : Int) + z.g) c M) s) /\ (∃ H2, H' = H ++ H2) /\ (∀ a ∈ D, a ∈ D') /\ ∀ a ∈ l, a ∈ z.G -> (cB k.N c a && M.contains (cN k.N a)) = true -> a ∈ D'
 | [], s, H, D, h, w, _ => ⟨H, D, h, w, Pg.refl _ _, ⟨[], by simp⟩, fun _ d => d, fun a ha => by cases ha⟩
 | b :: l, s, H, D, h, w, hl => by
  rw [List.foldl_cons]
  have hpf := pf_bd (k.ld s b)
  by_cases hbG : b ∈ z.G /\ (cB k.N c b && M.contains (cN k.N b)) = true
  ·have e0 := h.mi.hd b b (Or.inl ⟨rfl, hbG.1⟩)
   have hb := (hz.mem b hbG.1).2.1
   have e1 : k.lm1 ((k.N : Int) + z.g) c M s b = k.lk s b := by
    unfold Ck.lm1
    rw [if_pos (by rw [e0]; omega), if_pos hbG.2]
   rw [e1]
   obtain ⟨H1, m1, m2, ⟨H2, m3⟩⟩ := h.lk hbG.1
   have w1 := w.lk h.mi (List.mem_append_left H hbG.1) m1.mi m2 ⟨H2, m3⟩
   obtain ⟨H3, D3, j1, jw, j2, ⟨H4, j3⟩, j4, j5⟩ := LI.lmw c M hz l m1 w1 (fun a ha => hl a (List.mem_cons_of_mem _ ha))
   refine ⟨H3, D3, j1, jw, m2.trans j2, ⟨H2 ++ H4, by rw [j3, m3, List.append_assoc]⟩, fun a d => j4 a (List.mem_cons_of_mem _ d), fun a ha hg hm => ?_⟩
   rcases List.mem_cons.1 ha with d | d
   ·exact j4 a (by rw [d]; simp)
   ·exact j5 a d hg hm
  ·have e1 : k.lm1 ((k.N : Int) + z.g) c M s b = s := by
    unfold Ck.lm1
    by_cases hG : b ∈ z.G
    ·split
     ·rw [if_neg (fun e => hbG ⟨hG, e⟩)]
     ·rfl
    ·have := (hl b (by simp)).resolve_left hG
     rw [if_neg (by omega)]
   rw [e1]
   obtain ⟨H3, D3, j1, jw, j2, j3, j4, j5⟩ := LI.lmw c M hz l h w (fun a ha => hl a (List.mem_cons_of_mem _ ha))
   refine ⟨H3, D3, j1, jw, j2, j3, j4, fun a ha hg hm => ?_⟩
   rcases List.mem_cons.1 ha with d | d
   ·exact absurd ⟨by rw [<- d]; exact hg, by rw [<- d]; exact hm⟩ hbG
   ·exact j5 a d hg hm
end
end Go.Proofs.YtalgochmjddodaaGreat

namespace Go.Proofs.YtalgochmjddodaaGreat
open Go.RowKit W Kp Stl
def Rest (k : Ck) (z : C0) (D : List Int) (H : List Int) (s : Cs) : Prop := ∃ K, LI k z s K D /\ WE k z s K /\ CB k s /\ hB k.N s.g s.nx = false /\ ∃ H2, K = H ++ H2
section
variable {k : Ck} {z : C0} {D H : List Int}
theorem spr_cb : ∀ (n : Nat) (t : Cs × List En), CI k t.1 -> CB k t.1 -> CI k (k.spr n t).1 /\ CB k (k.spr n t).1
 | 0, t, h, hb => ⟨h, hb⟩
 | n + 1, t, h, hb => by
  obtain ⟨c1, c2, c3⟩ := CI.lb h hb (k.O + 1)
  obtain ⟨d1, d2, d3, d4⟩ := CI.kv c1 c2
  obtain ⟨f1, f2, _⟩ := CI.wa (s := ((k.kv (k.lb (k.O + 1) t.1)).2, t.2)) d1 d2
  unfold Ck.spr
  split
  ·exact spr_cb n ((k.kv (k.lb (k.O + 1) t.1)).2, t.2) d1 d2
  ·split
   ·exact spr_cb n _ f1 f2
   ·exact ⟨f1, f2⟩
theorem Rest.sp {t : Cs × List En} {H0 : List Int} (h : LI k z t.1 H0 D) (w : WE k z t.1 H0) (hb : CB k t.1) (e : ∃ H2, H0 = H ++ H2) : Rest k z D H (k.sp t).1 := by
 obtain ⟨K, m1, m2, _, ⟨B, m4⟩⟩ := Ru.sp (k := k) (z := z) (D := D) t H0 h w
 obtain ⟨A, e⟩ := e
 exact ⟨K, m1, m2, (spr_cb _ t h.mi.ci hb).2, spr_end _ t H0 h w hb (by omega), ⟨A ++ B, by rw [m4, e, List.append_assoc]⟩⟩
theorem Rest.ke {t : Cs × List En} (h : Rest k z D H t.1) (x : Int) : Rest k z D H (k.ke t x).2.1 := by
 obtain ⟨K, m1, m2, m3, _, ⟨A, m5⟩⟩ := h
 obtain ⟨K2, j1, j2, _, ⟨B, j4⟩⟩ := Ru.br (k := k) (z := z) (D := D) (s := t.1) x K m1 m2
 obtain ⟨_, e1, e2, e3⟩ := br_rs k t.1 x
 have hb : CB k (k.br t.1 x).2 := ⟨by rw [e1, e3]; exact m3.wk, by rw [e2, e3]; exact m3.ep⟩
 exact Rest.sp (t := ((k.br t.1 x).2, t.2)) j1 j2 hb ⟨A ++ B, by rw [j4, m5, List.append_assoc]⟩
theorem Rest.one {t : Cs × List En} (h : Rest k z D H t.1) (e : En) : Rest k z D H (cm (noSd Cs) (fun s x => k.al s.1 x) k.ke t e).2.1 := by
 unfold cm
 split
 ·exact h.ke e.2
 ·exact h
theorem Rest.part (l : List En) {t : Cs × List En} (h : Rest k z D H t.1) : Rest k z D H (pts (cm (noSd Cs) (fun s x => k.al s.1 x) k.ke) t l).2.2.1 := by
 have key : ∀ (l : List En) (p : List En × List En × (Cs × List En)), Rest k z D H p.2.2.1 -> Rest k z D H (l.foldl (pstep (cm (noSd Cs) (fun s x => k.al s.1 x) k.ke)) p).2.2.1 := by
  intro l
  induction l with
  | nil => exact fun p h => h
  | cons e l ih =>
   intro p hp
   rw [List.foldl_cons]
   refine ih _ ?_
   have h1 := hp.one e
   unfold pstep
   split
   ·exact h1
   ·exact h1
 exact key l ([], [], t) h
theorem Rest.turn : ∀ (n : Nat) {t : Cs × List En} (d : List En), Rest k z D H t.1 -> Rest k z D H (trn (cm (noSd Cs) (fun s x => k.al s.1 x) k.ke) n t d).1.1
 | 0, t, d, h => h
 | n + 1, t, d, h => by
  unfold trn
  split
  ·exact h.part d
  ·exact Rest.turn n _ (h.part d)
theorem Rest.sS {t : Cs × List En} (h : Rest k z D H t.1) (r : List En) : Rest k z D H (k.sS t r).1 := Rest.turn _ _ h
end
end Go.Proofs.YtalgochmjddodaaGreat

namespace Go.Proofs.YtalgochmjddodaaGreat
open Go.RowKit W Kp Stl
section
variable {k : Ck} {z : C0} {s : Cs} {H D : List Int}
theorem LI.fy (h : LI k z s H D)
  (hz : ∀ v, (v ∈ k.T \/ v ∈ z.G) -> ∀ i, 0 <= i -> i < pf (k.l0 z v) -> aB (k.l0 z (v + 1 + i)) = true -> aV (k.l0 z (v + 1 + i)) ∈ k.T \/ aV (k.l0 z (v + 1 + i)) ∈ z.G)
  {b : Int} (hb : b ∈ z.G ++ H) {i : Int} (i0 : 0 <= i) (i1 : i < pf (k.ld s b)) (ha : aB (k.ld s (b + 1 + i)) = true) (hy : k.yg (k.ld s (b + 1 + i)) = false) : aV (k.ld s (b + 1 + i)) ∈ z.G ++ H := by
 obtain ⟨a, o⟩ := h.mi.from hb
 have e0 := h.mi.hd a b o
 rw [e0] at i1
 have hm := h.mi.fd a b o i i0 i1
 have haT : a ∈ k.T \/ a ∈ z.G := by
  rcases o with ⟨e, d⟩ | ⟨d, _⟩
  ·exact Or.inr (by rw [e]; exact d)
  ·exact Or.inl d
 rcases hm with e | ⟨g1, g2, g3⟩
 ·rw [e] at ha hy ⊢
  rcases hz a haT i i0 i1 ha with d | d
  ·unfold Ck.yg at hy
   rw [ha] at hy
   simp at hy
   exact absurd d hy
  ·exact List.mem_append_left _ d
 ·have hT : aV (k.l0 z (a + 1 + i)) ∈ k.T := by
   unfold Ck.yg at g1
   rw [Bool.and_eq_true] at g1
   simpa using g1.2
  have hH := h.mi.fh _ hT g2
  have hbd := h.mi.bdH hH
  have hN := h.mi.ci.hN'
  have hO := h.mi.ci.hO
  have hg := h.mi.ci.hg
  obtain ⟨n, hn⟩ : ∃ n : Nat, s.f (aV (k.l0 z (a + 1 + i))) = n := ⟨(s.f (aV (k.l0 z (a + 1 + i)))).toNat, by omega⟩
  rw [g3, hn, (ew_at n (by omega)).2, <- hn]
  exact List.mem_append_right _ hH
theorem MI.noY (h : MI k z s H) {x : Int} (hx : aV x ∈ z.G ++ H) : k.yg x = false := by
 have h1 := h.ci.notT (h.bd hx).1
 unfold Ck.yg
 have e : k.T.contains (aV x) = false := by
  cases hc : k.T.contains (aV x)
  ·rfl
  ·exact absurd (by simpa using hc) h1
 rw [e, Bool.and_false]
/-! ### roots stand -/
theorem lb_rs (k : Ck) : ∀ (n : Nat) (s : Cs), (k.lb n s).rs = s.rs
 | 0, s => rfl
 | n + 1, s => by
  unfold Ck.lb
  split
  ·exact (lb_rs k n _).trans (lk_nx k s s.nx).2
  ·rfl
theorem kvl_rs (k : Ck) : ∀ (l : List Int) (t : List Int × Cs), (l.foldl k.kv1 t).2.rs = t.2.rs
 | [], t => rfl
 | a :: l, t => by
  rw [List.foldl_cons]
  refine (kvl_rs k l _).trans ?_
  unfold Ck.kv1
  split
  ·rfl
  ·exact (kf_wk ..).2.2.2.trans (kf_wk ..).2.2.2
theorem kv_rs (k : Ck) (s : Cs) : (k.kv s).2.rs = s.rs := kvl_rs k s.ep ([], s)
theorem wkl_rs (k : Ck) : ∀ (l : List Nat) (t : (Cs × List En) × Bool), (l.foldl (wkP k.al k.br) t).1.1.rs = t.1.1.rs
 | [], t => rfl
 | a :: l, t => by
  rw [List.foldl_cons]
  refine (wkl_rs k l _).trans ?_
  unfold wkP
  split
  ·rfl
  ·exact (br_rs ..).1
theorem spr_rs (k : Ck) : ∀ (n : Nat) (t : Cs × List En), (k.spr n t).1.rs = t.1.rs
 | 0, t => rfl
 | n + 1, t => by
  have e1 : (k.kv (k.lb (k.O + 1) t.1)).2.rs = t.1.rs := (kv_rs ..).trans (lb_rs ..)
  have e2 : (k.wa ((k.kv (k.lb (k.O + 1) t.1)).2, t.2)).1.1.rs = t.1.rs := (wkl_rs k _ (((k.kv (k.lb (k.O + 1) t.1)).2, t.2), false)).trans e1
  unfold Ck.spr
  split
  ·exact (spr_rs k n _).trans e1
  ·split
   ·exact (spr_rs k n _).trans e2
   ·exact e2
theorem ke_rs (k : Ck) (t : Cs × List En) (x : Int) : (k.ke t x).2.1.rs = t.1.rs := (spr_rs ..).trans (br_rs ..).1
theorem one_rs (k : Ck) (t : Cs × List En) (e : En) : (cm (noSd Cs) (fun s x => k.al s.1 x) k.ke t e).2.1.rs = t.1.rs := by
 unfold cm
 split
 ·exact ke_rs k t e.2
 ·rfl
theorem part_rs (k : Ck) (l : List En) (t : Cs × List En) : (pts (cm (noSd Cs) (fun s x => k.al s.1 x) k.ke) t l).2.2.1.rs = t.1.rs := by
 have key : ∀ (l : List En) (p : List En × List En × (Cs × List En)), (l.foldl (pstep (cm (noSd Cs) (fun s x => k.al s.1 x) k.ke)) p).2.2.1.rs = p.2.2.1.rs := by
  intro l
  induction l with
  | nil => exact fun p => rfl
  | cons e l ih =>
   intro p
   rw [List.foldl_cons]
   refine (ih _).trans ?_
   have h1 := one_rs k p.2.2 e
   unfold pstep
   split
   ·exact h1
   ·exact h1
 exact key l ([], [], t)
theorem turn_rs (k : Ck) : ∀ (n : Nat) (t : Cs × List En) (d : List En), (trn (cm (noSd Cs) (fun s x => k.al s.1 x) k.ke) n t d).1.1.rs = t.1.rs
 | 0, t, d => rfl
 | n + 1, t, d => by
  unfold trn
  split
  ·exact part_rs k d t
  ·exact (turn_rs k n _ _).trans (part_rs k d t)
theorem sS_rs (k : Ck) (t : Cs × List En) (r : List En) : (k.sS t r).1.rs = t.1.rs := turn_rs k _ _ _
theorem lm_len (k : Ck) (e c : Int) (M : List Int) : ∀ (l : List Int) (s : Cs), (l.foldl (k.lm1 e c M) s).wk.length <= s.wk.length + l.length /\ (l.foldl (k.lm1 e c M) s).ep.length <= s.ep.length + l.length /\ (l.foldl (k.lm1 e c M) s).nx = s.nx /\ (l.foldl (k.lm1 e c M) s).rs = s.rs
 | [], s => ⟨Nat.le_refl _, Nat.le_refl _, rfl, rfl⟩
 | b :: l, s => by
  rw [List.foldl_cons]
  obtain ⟨h1, h2, h3, h4⟩ := lm_len k e c M l (k.lm1 e c M s b)
  have key : (k.lm1 e c M s b).wk.length <= s.wk.length + 1 /\ (k.lm1 e c M s b).ep.length <= s.ep.length + 1 /\ (k.lm1 e c M s b).nx = s.nx /\ (k.lm1 e c M s b).rs = s.rs := by
   unfold Ck.lm1
   split
   ·split
    ·obtain ⟨w1, w2⟩ := lk_we k s b
     obtain ⟨n1, n2⟩ := lk_nx k s b
     refine ⟨?_, ?_, n1, n2⟩
     ·rcases w1 with d | ⟨_, d⟩
      ·rw [d]; omega
      ·rw [d, List.length_append]; simp
     ·rcases w2 with d | ⟨_, d⟩
      ·rw [d]; omega
      ·rw [d, List.length_append]; simp
    ·exact ⟨Nat.le_succ _, Nat.le_succ _, rfl, rfl⟩
   ·exact ⟨Nat.le_succ _, Nat.le_succ _, rfl, rfl⟩
  obtain ⟨k1, k2, k3, k4⟩ := key
  simp only [List.length_cons]
  exact ⟨by omega, by omega, h3.trans k3, h4.trans k4⟩
end
/-! ### how it begins -/
theorem Tw_eq {N O y g : Nat} {ws Y G : List Int} (h : Full2 N y g ws Y G) (hN : N <= 256) (hy : y <= N) (hO : O <= 1024) (hg : g <= O) : Tw N y g ws = Y := by
 unfold Tw
 rw [(h.lists hN hy hO hg).1]
 exact List.filter_eq_self.2 (fun x hx => decide_eq_true (by have := (h.ty.mem x hx).2.1; omega))
def Wst.z0 (s : Wst) (G : List Int) : C0 := ⟨s.g, s.ws, G⟩
theorem LI.start {a : Wc} {s : Wst} {Y G : List Int} (h : Full2 a.N s.y s.g s.ws Y G) (hN : 16 <= a.N) (hN' : a.N <= 256) (hO : a.O <= 1024) (hy : s.y <= a.N) (hg : s.g <= a.O) (hl : s.ws.length = a.N + a.O) (hr : s.y <= a.O - s.g) : LI (s.k0 a) (s.z0 G) (s.s0 a) [] [] := by
 have hT : (s.k0 a).T = Y := Tw_eq h hN' hy hO hg
 refine ⟨⟨CI.start hN hN' hO hy hg hl hr, Nat.le_refl _, ?_, fun b hb => (h.io b hb).2, fun _ _ _ => rfl, fun a _ e => absurd rfl e, fun a _ b _ e => absurd rfl e, fun b hb => (by cases hb), fun b hb => (by cases hb), fun a b o => ?_, fun a b o i i0 i1 => ?_⟩, Or.inr rfl, fun b hb => (by cases hb), fun b hb => (by cases hb), fun b hb => (by cases hb)⟩
 ·rw [hT, List.append_nil]
  exact h
 ·rcases o with ⟨e, _⟩ | ⟨_, e, e2⟩
  ·rw [e]
   rfl
  ·exact absurd e.symm e2
 ·rcases o with ⟨e, _⟩ | ⟨_, e, e2⟩
  ·rw [e]
   exact Or.inl rfl
  ·exact absurd e.symm e2
theorem WE.start (a : Wc) (s : Wst) (G : List Int) : WE (s.k0 a) (s.z0 G) (s.s0 a) [] := ⟨fun b hb => (by cases hb), fun b hb => (by cases hb)⟩
end Go.Proofs.YtalgochmjddodaaGreat
