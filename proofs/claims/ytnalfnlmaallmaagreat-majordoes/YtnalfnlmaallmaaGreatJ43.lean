/- Joined: Mk5, Mn30, Mn31, Mn32, Ws19, Vb1, Ms2. -/
import Derived.Test.YtnalfnlmaallmaaGreatJ42
import Derived.Test.YtnalfnlmaallmaaGreatJ31
import Derived.Test.YtnalfnlmaallmaaGreatJ40
import Derived.Test.YtnalfnlmaallmaaGreatJ00
import Derived.Test.YtnalfnlmaallmaaGreatJ36
namespace Go.Proofs.YtnalfnlmaallmaaGreat
open Go.RowKit W Kp Stl
structure Kst (k k' : Jk) : Prop where
  a : k'.a = k.a
  y : k'.s.y = k.s.y
  g : k'.s.g = k.s.g
  rs : k'.s.rs = k.s.rs
  Y : k'.Y = k.Y
  G : k'.G = k.G
  len : k'.s.ws.length = k.s.ws.length
theorem Kst.refl (k : Jk) : Kst k k := ⟨rfl, rfl, rfl, rfl, rfl, rfl, rfl⟩
theorem Kst.trans {k k' k'' : Jk} (h : Kst k k') (j : Kst k' k'') : Kst k k'' := ⟨j.a.trans h.a, j.y.trans h.y, j.g.trans h.g, j.rs.trans h.rs, j.Y.trans h.Y, j.G.trans h.G, j.len.trans h.len⟩
structure Kbd (k : Jk) : Prop where
  l : k.s.ws.length = k.a.N + k.a.O
  y : k.s.y <= k.a.N
  g : k.s.g <= k.a.O
theorem Kst.bd {k k' : Jk} (h : Kst k k') (b : Kbd k) : Kbd k' := ⟨by rw [h.len, h.a]; exact b.l, by rw [h.y, h.a]; exact b.y, by rw [h.g, h.a]; exact b.g⟩
theorem Kst.T {k k' : Jk} (h : Kst k k') : k'.T = k.T := by unfold Jk.T; rw [h.Y, h.G]
section
variable {k : Jk} {s : Js}
theorem jsto_st (k : Jk) (p x : Int) : Kst k (k.sto p x) := ⟨rfl, rfl, rfl, rfl, rfl, rfl, by
 show (if _ then _ else _ : List Int).length = _
 split
 ·exact List.length_set
 ·rfl⟩
theorem jsto_ld (b : Kbd k) {p : Int} (hp : iB k.a.N k.s.y k.s.g p = true) (x q : Int) : (k.sto p x).ld q = if q = p then x else k.ld q := by
 have hb := iB_bd hp b.y b.g
 have e : (k.sto p x).ld q = ld k.a.N k.s.y k.s.g (k.s.ws.set p.toNat x) q := by
  unfold Jk.sto
  rw [if_pos hp]
  rfl
 rw [e]
 unfold Jk.ld
 by_cases c : q = p
 ·rw [if_pos c, c, ld_in hp, List.getD_eq_getElem?_getD, List.getElem?_set_self (by rw [b.l]; omega)]
  rfl
 ·rw [if_neg c]
  cases hq : iB k.a.N k.s.y k.s.g q
  ·unfold ld
   rw [hq]
   rfl
  ·have hq2 := iB_bd hq b.y b.g
   rw [ld_in hq, ld_in hq, List.getD_eq_getElem?_getD, List.getElem?_set_ne (by omega), List.getD_eq_getElem?_getD]
def Jk.bkf (k : Jk) (s : Js) (a i : Int) : Int := if ((pk (k.ld a) = 3 \/ pk (k.ld a) = 4) /\ k.jl s (k.ld (a + 1)) = true) /\ (i = 0 \/ (pk (k.ld a) = 4 /\ i = 1)) then 3 else k.ld (a + 1 + i)
structure Whl (k : Jk) (a : Int) : Prop where
  c : pc (k.ld a) = 0
  i : ∀ i, 0 <= i -> i <= pf (k.ld a) -> iB k.a.N k.s.y k.s.g (a + i) = true
theorem Kst.whl {k k' : Jk} (h : Kst k k') {a : Int} (e : k'.ld a = k.ld a) (w : Whl k a) : Whl k' a := ⟨by rw [e]; exact w.c, fun i h1 h2 => by
 rw [h.a, h.y, h.g]
 rw [e] at h2
 exact w.i i h1 h2⟩
theorem brk_ld (b : Kbd k) {a : Int} (w : Whl k a) : Kst k (k.brk s a) /\ (∀ q, (q <= a \/ a + pf (k.ld a) < q) -> (k.brk s a).ld q = k.ld q) /\ ∀ i, 0 <= i -> i < pf (k.ld a) -> (k.brk s a).ld (a + 1 + i) = k.bkf s a i := by
 unfold Jk.brk
 by_cases c : (pk (k.ld a) = 3 \/ pk (k.ld a) = 4) /\ k.jl s (k.ld (a + 1)) = true
 ·rw [if_pos c]
  have f2 := pf_two w.c (by omega)
  have i1 := w.i 1 (by omega) (by omega)
  have i2 := w.i 2 (by omega) (by omega)
  have e1 := jsto_ld b i1 3
  have b1 := (jsto_st k (a + 1) 3).bd b
  by_cases d : pk (k.ld a) = 4
  ·rw [if_pos d]
   have e2 := jsto_ld b1 (p := a + 2) i2 3
   refine ⟨(jsto_st k (a + 1) 3).trans (jsto_st _ _ _), fun q hq => ?_, fun i i0 i3 => ?_⟩
   ·rw [e2, if_neg (by omega), e1, if_neg (by omega)]
   ·unfold Jk.bkf
    rw [e2, e1]
    by_cases z : i = 0
    ·rw [if_neg (by omega), if_pos (by omega), if_pos ⟨c, Or.inl z⟩]
    ·by_cases o : i = 1
     ·rw [if_pos (by omega), if_pos ⟨c, Or.inr ⟨d, o⟩⟩]
     ·rw [if_neg (by omega), if_neg (by omega), if_neg (fun h => by omega)]
  ·rw [if_neg d]
   refine ⟨jsto_st k (a + 1) 3, fun q hq => ?_, fun i i0 i3 => ?_⟩
   ·rw [e1, if_neg (by omega)]
   ·unfold Jk.bkf
    rw [e1]
    by_cases z : i = 0
    ·rw [if_pos (by omega), if_pos ⟨c, Or.inl z⟩]
    ·rw [if_neg (by omega), if_neg (fun h => by omega)]
 ·rw [if_neg c]
  refine ⟨Kst.refl k, fun q hq => rfl, fun i i0 i1 => ?_⟩
  unfold Jk.bkf
  rw [if_neg (fun h => c h.1)]
theorem tlf_ld (b : Kbd k) {a : Int} (w : Whl k a) : ∀ n : Nat, (n : Int) <= pf (k.ld a) -> Kst k (k.tlf s a n) /\ (∀ q, (q <= a \/ a + n < q) -> (k.tlf s a n).ld q = k.ld q) /\ ∀ i : Int, 0 <= i -> i < n -> (k.tlf s a n).ld (a + 1 + i) = k.nw s (k.ld (a + 1 + i))
 | 0, _ => ⟨Kst.refl k, fun _ _ => rfl, fun i i0 i1 => by omega⟩
 | n + 1, hn => by
  obtain ⟨h1, h2, h3⟩ := tlf_ld b w n (by omega)
  have b1 := h1.bd b
  have hi : iB (k.tlf s a n).a.N (k.tlf s a n).s.y (k.tlf s a n).s.g (a + 1 + n) = true := by
   rw [h1.a, h1.y, h1.g, show a + 1 + (n : Int) = a + (1 + n) from by omega]
   exact w.i _ (by omega) (by omega)
  have e := jsto_ld b1 hi (k.nw s ((k.tlf s a n).ld (a + 1 + n)))
  have eS : k.tlf s a (n + 1) = (k.tlf s a n).sto (a + 1 + n) (k.nw s ((k.tlf s a n).ld (a + 1 + n))) := rfl
  rw [eS]
  refine ⟨h1.trans (jsto_st _ _ _), fun q hq => ?_, fun i i0 i1 => ?_⟩
  ·rw [e, if_neg (by omega)]
   exact h2 q (by omega)
  ·rw [e]
   by_cases z : i = n
   ·rw [if_pos (by omega), h2 _ (by omega), z]
   ·rw [if_neg (by omega)]
    exact h3 i i0 (by omega)
theorem tl1_ld (b : Kbd k) {a : Int} (w : Whl k a) : Kst k (k.tl1 s a) /\ (∀ q, (q <= a \/ a + pf (k.ld a) < q) -> (k.tl1 s a).ld q = k.ld q) /\ ∀ i, 0 <= i -> i < pf (k.ld a) -> (k.tl1 s a).ld (a + 1 + i) = k.nw s (k.bkf s a i) := by
 obtain ⟨h1, h2, h3⟩ := brk_ld (s := s) b w
 have hp := pf_bd (k.ld a)
 have ea := h2 a (Or.inl (Int.le_refl _))
 obtain ⟨j1, j2, j3⟩ := tlf_ld (s := s) (h1.bd b) (h1.whl ea w) (pf (k.ld a)).toNat (by rw [ea]; omega)
 unfold Jk.tl1
 refine ⟨h1.trans j1, fun q hq => ?_, fun i i0 i1 => ?_⟩
 ·rw [j2 q (by omega)]
  exact h2 q hq
 ·rw [j3 i i0 (by omega), h3 i i0 i1]
  exact Jk.nw_of s _ h1.Y h1.G
structure TlI (k0 : Jk) (s : Js) (D : List Int) (t : Jk) : Prop where
  st : Kst k0 t
  hd : ∀ c ∈ k0.T, t.ld c = k0.ld c
  dn : ∀ c ∈ D, s.f c ≠ -1 -> ∀ i, 0 <= i -> i < pf (k0.ld c) -> t.ld (c + 1 + i) = k0.nw s (k0.bkf s c i)
  td : ∀ c ∈ k0.T, c ∉ D -> ∀ i, 0 <= i -> i < pf (k0.ld c) -> t.ld (c + 1 + i) = k0.ld (c + 1 + i)
theorem TlI.step {k0 : Jk} (b : Kbd k0) (w : ∀ c ∈ k0.T, Whl k0 c) (ap : ∀ c ∈ k0.T, ∀ d ∈ k0.T, c < d -> c + (1 + pf (k0.ld c)) <= d) {D : List Int} {t : Jk} (h : TlI k0 s D t) {a : Int} (ha : a ∈ k0.T) (hD : a ∉ D) (hDT : ∀ c ∈ D, c ∈ k0.T) : TlI k0 s (D ++ [a]) (ejS (fun (_ : Jk) a => s.f a) (fun k a => k.tl1 s a) t a) := by
 by_cases c : s.f a = -1
 ·have e1 : ejS (fun (_ : Jk) a => s.f a) (fun k a => k.tl1 s a) t a = t := by unfold ejS; rw [if_pos c]
  rw [e1]
  refine ⟨h.st, h.hd, fun d hd hf => ?_, fun d hd hn => h.td d hd (fun m => hn (List.mem_append_left _ m))⟩
  rcases List.mem_append.1 hd with hd | hd
  ·exact h.dn d hd hf
  ·rw [List.mem_singleton.1 hd] at hf
   exact absurd c hf
 ·have e1 : ejS (fun (_ : Jk) a => s.f a) (fun k a => k.tl1 s a) t a = t.tl1 s a := by unfold ejS; rw [if_neg c]
  rw [e1]
  have ea := h.hd a ha
  obtain ⟨h1, h2, h3⟩ := tl1_ld (s := s) (h.st.bd b) (h.st.whl ea (w a ha))
  rw [ea] at h2 h3
  have hpa := pf_bd (k0.ld a)
  have out : ∀ d ∈ k0.T, d ≠ a -> ∀ i, 0 <= i -> i <= pf (k0.ld d) -> (t.tl1 s a).ld (d + i) = t.ld (d + i) := fun d hd hne i i0 i1 => h2 _ (by
   rcases Int.lt_or_gt_of_ne hne with q | q
   ·have := ap d hd a ha q
    omega
   ·have := ap a ha d hd q
    omega)
  have ebk : ∀ i, 0 <= i -> i < pf (k0.ld a) -> t.bkf s a i = k0.bkf s a i := fun i i0 i1 => by
   unfold Jk.bkf Jk.jl Jk.jt
   rw [ea, h.st.T]
   have q0 := h.td a ha hD 0 (by omega) (by omega)
   rw [Int.add_zero] at q0
   rw [q0, h.td a ha hD i i0 i1]
  refine ⟨h.st.trans h1, fun d hd => ?_, fun d hd hf i i0 i1 => ?_, fun d hd hn i i0 i1 => ?_⟩
  ·by_cases e : d = a
   ·rw [e, h2 a (Or.inl (Int.le_refl _))]
    exact ea
   ·have := out d hd e 0 (by omega) (pf_bd _).1
    rw [Int.add_zero] at this
    rw [this]
    exact h.hd d hd
  ·rcases List.mem_append.1 hd with hd | hd
   ·have hne : d ≠ a := fun e => hD (e ▸ hd)
    have := out d (hDT d hd) hne (1 + i) (by omega) (by omega)
    rw [<- Int.add_assoc] at this
    rw [this]
    exact h.dn d hd hf i i0 i1
   ·have e := List.mem_singleton.1 hd
    rw [e] at i1 ⊢
    rw [h3 i i0 i1, ebk i i0 i1]
    exact Jk.nw_of s _ h.st.Y h.st.G
  ·have hne : d ≠ a := fun e => hn (by rw [e]; simp)
   have := out d hd hne (1 + i) (by omega) (by omega)
   rw [<- Int.add_assoc] at this
   rw [this]
   exact h.td d hd (fun m => hn (List.mem_append_left _ m)) i i0 i1
theorem TlI.all {k0 : Jk} (b : Kbd k0) (w : ∀ c ∈ k0.T, Whl k0 c) (ap : ∀ c ∈ k0.T, ∀ d ∈ k0.T, c < d -> c + (1 + pf (k0.ld c)) <= d) : ∀ (l D : List Int) (t : Jk), (D ++ l).Nodup -> (∀ c ∈ D ++ l, c ∈ k0.T) -> TlI k0 s D t -> TlI k0 s (D ++ l) (t.tlL s l)
 | [], D, t, _, _, h => by rw [List.append_nil]; exact h
 | a :: l, D, t, hn, hT, h => by
  have e : D ++ a :: l = (D ++ [a]) ++ l := by simp
  have hD : a ∉ D := fun m => (List.nodup_append.1 hn).2.2 a m a (by simp) rfl
  have h1 := h.step b w ap (hT a (by simp)) hD (fun c hc => hT c (List.mem_append_left _ hc))
  rw [e] at hn hT ⊢
  exact TlI.all b w ap l (D ++ [a]) _ hn hT h1
theorem tlr_rs (k : Jk) (s : Js) : ∀ n, n <= k.s.rs.length -> (k.tlr s n).a = k.a /\ (k.tlr s n).Y = k.Y /\ (k.tlr s n).G = k.G /\ (k.tlr s n).s.y = k.s.y /\ (k.tlr s n).s.g = k.s.g /\ (k.tlr s n).s.ws = k.s.ws /\ (k.tlr s n).s.rs.length = k.s.rs.length /\ ∀ i, i < k.s.rs.length -> (k.tlr s n).s.rs.getD i 0 = if i < n then k.nw s (k.s.rs.getD i 0) else k.s.rs.getD i 0
 | 0, _ => ⟨rfl, rfl, rfl, rfl, rfl, rfl, rfl, fun i _ => by rw [if_neg (by omega)]; rfl⟩
 | n + 1, hn => by
  obtain ⟨h1, h2, h3, h4, h5, h6, h7, h8⟩ := tlr_rs k s n (by omega)
  refine ⟨h1, h2, h3, h4, h5, h6, ?_, fun i hi => ?_⟩
  ·show (List.set _ _ _).length = _
   rw [List.length_set]
   exact h7
  ·show (List.set _ n _).getD i 0 = _
   by_cases e : i = n
   ·rw [e, if_pos (by omega), List.getD_eq_getElem?_getD, List.getElem?_set_self (by rw [h7]; omega), h8 n (by omega), if_neg (by omega)]
    rfl
   ·rw [List.getD_eq_getElem?_getD, List.getElem?_set_ne (by omega), <- List.getD_eq_getElem?_getD, h8 i hi]
    by_cases d : i < n
    ·rw [if_pos d, if_pos (by omega)]
    ·rw [if_neg d, if_neg (by omega)]
theorem tlA_ld (b : Kbd k) (hr : k.s.rs.length = 12) (hn : k.T.Nodup) (w : ∀ c ∈ k.T, Whl k c) (ap : ∀ c ∈ k.T, ∀ d ∈ k.T, c < d -> c + (1 + pf (k.ld c)) <= d) :
  (k.tlA s).a = k.a /\ (k.tlA s).Y = k.Y /\ (k.tlA s).G = k.G /\ (k.tlA s).s.y = k.s.y /\ (k.tlA s).s.g = k.s.g /\ Kbd (k.tlA s) /\ (k.tlA s).s.rs.length = 12 /\ (∀ i, i < 12 -> (k.tlA s).s.rs.getD i 0 = k.nw s (k.s.rs.getD i 0)) /\
  (∀ c ∈ k.T, (k.tlA s).ld c = k.ld c) /\ ∀ c ∈ k.T, s.f c ≠ -1 -> ∀ i, 0 <= i -> i < pf (k.ld c) -> (k.tlA s).ld (c + 1 + i) = k.nw s (k.bkf s c i) := by
 obtain ⟨h1, h2, h3, h4, h5, h6, h7, h8⟩ := tlr_rs k s 12 (by omega)
 obtain ⟨k0, hk0⟩ : ∃ k0, k.tlr s 12 = k0 := ⟨_, rfl⟩
 rw [hk0] at h1 h2 h3 h4 h5 h6 h7 h8
 have eld : ∀ x, k0.ld x = k.ld x := fun x => by unfold Jk.ld; rw [h1, h4, h5, h6]
 have eT : k0.T = k.T := by unfold Jk.T; rw [h2, h3]
 have b0 : Kbd k0 := ⟨by rw [h6, h1]; exact b.l, by rw [h4, h1]; exact b.y, by rw [h5, h1]; exact b.g⟩
 have w0 : ∀ c ∈ k0.T, Whl k0 c := fun c hc => by
  rw [eT] at hc
  exact ⟨by rw [eld]; exact (w c hc).c, fun i i0 i1 => by rw [eld] at i1; rw [h1, h4, h5]; exact (w c hc).i i i0 i1⟩
 have key := TlI.all (s := s) b0 w0 (fun c hc d hd q => by rw [eT] at hc hd; rw [eld]; exact ap c hc d hd q) k0.T [] k0 (by rw [List.nil_append, eT]; exact hn) (fun c hc => hc) ⟨Kst.refl _, fun _ _ => rfl, (fun c hc => by cases hc), fun _ _ _ _ _ _ => rfl⟩
 rw [List.nil_append] at key
 have eA : k.tlA s = k0.tlL s k0.T := by unfold Jk.tlA; rw [hk0, eT]
 rw [eA]
 generalize k0.tlL s k0.T = t at key
 refine ⟨key.st.a.trans h1, key.st.Y.trans h2, key.st.G.trans h3, key.st.y.trans h4, key.st.g.trans h5, key.st.bd b0, by rw [key.st.rs, h7]; exact hr, fun i hi => by rw [key.st.rs, h8 i (by omega), if_pos hi], fun c hc => ?_, fun c hc hf i i0 i1 => ?_⟩
 ·rw [key.hd c (by rw [eT]; exact hc), eld]
 ·rw [key.dn c (by rw [eT]; exact hc) hf i i0 (by rw [eld]; exact i1)]
  have e2 : k0.bkf s c i = k.bkf s c i := by
   unfold Jk.bkf Jk.jl Jk.jt
   rw [eT, eld, eld, eld]
  rw [e2]
  exact Jk.nw_of s _ h2 h3
end
end Go.Proofs.YtnalfnlmaallmaaGreat

namespace Go.Proofs.YtnalfnlmaallmaaGreat
open Go.RowKit W Kp Stl
section
variable {k : Ck} {z : C0} {s t : Cs} {H K D : List Int}
theorem kr_wk (k : Ck) (s : Cs) : ∀ n, (k.kr s n).wk = s.wk /\ (k.kr s n).ep = s.ep /\ (k.kr s n).nx = s.nx
 | 0 => ⟨rfl, rfl, rfl⟩
 | n + 1 => by
  obtain ⟨h1, h2, h3⟩ := kr_wk k s n
  obtain ⟨_, j1, j2, j3⟩ := br_rs k (k.kr s n) ((k.kr s n).rs.getD n 0)
  exact ⟨j1.trans h1, j2.trans h2, j3.trans h3⟩
theorem WE.kr (w : WE k z s H) (h : MI k z s H) (n : Nat) (ht : MI k z (k.kr s n) K) (p : Pg k s (k.kr s n)) (hK : ∃ H2, K = H ++ H2) : WE k z (k.kr s n) K :=
 w.go h ht p hK (kr_wk k s n).1 (kr_wk k s n).2.1
theorem LI.lmw (c : Int) (M : List Int) (hz : Tile (k.l0 z) ((k.N : Int) + z.g) k.N z.G) : ∀ (l : List Int) {s : Cs} {H D : List Int}, LI k z s H D -> WE k z s H -> (∀ a ∈ l, a ∈ z.G \/ (k.N : Int) + z.g <= a) -> ∃ H' D', LI k z (l.foldl (k.lm1 ((k.N : Int) + z.g) c M) s) H' D' /\ WE k z (l.foldl (k.lm1 ((k.N : Int) + z.g) c M) s) H' /\ Pg k s (l.foldl (k.lm1 ((k.N : Int) + z.g) c M) s) /\ (∃ H2, H' = H ++ H2) /\ (∀ a ∈ D, a ∈ D') /\ ∀ a ∈ l, a ∈ z.G -> (cB k.N c a && M.contains (cN k.N a)) = true -> a ∈ D'
 | [], s, H, D, h, w, _ => ⟨H, D, h, w, Pg.refl _ _, ⟨[], by simp⟩, fun _ d => d, fun a ha => by cases ha⟩
 | b :: l, s, H, D, h, w, hl => by
  rw [List.foldl_cons]
  have hpf := pf_bd (k.ld s b)
  by_cases hbG : b ∈ z.G /\ (cB k.N c b && M.contains (cN k.N b)) = true
  ·have e0 := h.mi.hd b b (Or.inl ⟨rfl, hbG.1⟩)
   have hb := (hz.mem b hbG.1).2.1
   have e1 : k.lm1 ((k.N : Int) + z.g) c M s b = k.lk s b := by
    unfold Ck.lm1
    rw [if_pos (by rw [e0]; omega), if_pos hbG.2]
   rw [e1]
   obtain ⟨H1, m1, m2, ⟨H2, m3⟩⟩ := h.lk hbG.1
   have w1 := w.lk h.mi (List.mem_append_left H hbG.1) m1.mi m2 ⟨H2, m3⟩
   obtain ⟨H3, D3, j1, jw, j2, ⟨H4, j3⟩, j4, j5⟩ := LI.lmw c M hz l m1 w1 (fun a ha => hl a (List.mem_cons_of_mem _ ha))
   refine ⟨H3, D3, j1, jw, m2.trans j2, ⟨H2 ++ H4, by rw [j3, m3, List.append_assoc]⟩, fun a d => j4 a (List.mem_cons_of_mem _ d), fun a ha hg hm => ?_⟩
   rcases List.mem_cons.1 ha with d | d
   ·exact j4 a (by rw [d]; simp)
   ·exact j5 a d hg hm
  ·have e1 : k.lm1 ((k.N : Int) + z.g) c M s b = s := by
    unfold Ck.lm1
    by_cases hG : b ∈ z.G
    ·split
     ·rw [if_neg (fun e => hbG ⟨hG, e⟩)]
     ·rfl
    ·have := (hl b (by simp)).resolve_left hG
     rw [if_neg (by omega)]
   rw [e1]
   obtain ⟨H3, D3, j1, jw, j2, j3, j4, j5⟩ := LI.lmw c M hz l h w (fun a ha => hl a (List.mem_cons_of_mem _ ha))
   refine ⟨H3, D3, j1, jw, j2, j3, j4, fun a ha hg hm => ?_⟩
   rcases List.mem_cons.1 ha with d | d
   ·exact absurd ⟨by rw [<- d]; exact hg, by rw [<- d]; exact hm⟩ hbG
   ·exact j5 a d hg hm
end
end Go.Proofs.YtnalfnlmaallmaaGreat

namespace Go.Proofs.YtnalfnlmaallmaaGreat
open Go.RowKit W Kp Stl
def Rest (k : Ck) (z : C0) (D : List Int) (H : List Int) (s : Cs) : Prop := ∃ K, LI k z s K D /\ WE k z s K /\ CB k s /\ hB k.N s.g s.nx = false /\ ∃ H2, K = H ++ H2
section
variable {k : Ck} {z : C0} {D H : List Int}
theorem spr_cb : ∀ (n : Nat) (t : Cs × List En), CI k t.1 -> CB k t.1 -> CI k (k.spr n t).1 /\ CB k (k.spr n t).1
 | 0, t, h, hb => ⟨h, hb⟩
 | n + 1, t, h, hb => by
  obtain ⟨c1, c2, c3⟩ := CI.lb h hb (k.O + 1)
  obtain ⟨d1, d2, d3, d4⟩ := CI.kv c1 c2
  obtain ⟨f1, f2, _⟩ := CI.wa (s := ((k.kv (k.lb (k.O + 1) t.1)).2, t.2)) d1 d2
  unfold Ck.spr
  split
  ·exact spr_cb n ((k.kv (k.lb (k.O + 1) t.1)).2, t.2) d1 d2
  ·split
   ·exact spr_cb n _ f1 f2
   ·exact ⟨f1, f2⟩
theorem Rest.sp {t : Cs × List En} {H0 : List Int} (h : LI k z t.1 H0 D) (w : WE k z t.1 H0) (hb : CB k t.1) (e : ∃ H2, H0 = H ++ H2) : Rest k z D H (k.sp t).1 := by
 obtain ⟨K, m1, m2, _, ⟨B, m4⟩⟩ := Ru.sp (k := k) (z := z) (D := D) t H0 h w
 obtain ⟨A, e⟩ := e
 exact ⟨K, m1, m2, (spr_cb _ t h.mi.ci hb).2, spr_end _ t H0 h w hb (by omega), ⟨A ++ B, by rw [m4, e, List.append_assoc]⟩⟩
theorem Rest.ke {t : Cs × List En} (h : Rest k z D H t.1) (x : Int) : Rest k z D H (k.ke t x).2.1 := by
 obtain ⟨K, m1, m2, m3, _, ⟨A, m5⟩⟩ := h
 obtain ⟨K2, j1, j2, _, ⟨B, j4⟩⟩ := Ru.br (k := k) (z := z) (D := D) (s := t.1) x K m1 m2
 obtain ⟨_, e1, e2, e3⟩ := br_rs k t.1 x
 have hb : CB k (k.br t.1 x).2 := ⟨by rw [e1, e3]; exact m3.wk, by rw [e2, e3]; exact m3.ep⟩
 exact Rest.sp (t := ((k.br t.1 x).2, t.2)) j1 j2 hb ⟨A ++ B, by rw [j4, m5, List.append_assoc]⟩
theorem Rest.one {t : Cs × List En} (h : Rest k z D H t.1) (e : En) : Rest k z D H (cm (noSd Cs) (fun s x => k.al s.1 x) k.ke t e).2.1 := by
 unfold cm
 split
 ·exact h.ke e.2
 ·exact h
theorem Rest.part (l : List En) {t : Cs × List En} (h : Rest k z D H t.1) : Rest k z D H (pts (cm (noSd Cs) (fun s x => k.al s.1 x) k.ke) t l).2.2.1 := by
 have key : ∀ (l : List En) (p : List En × List En × (Cs × List En)), Rest k z D H p.2.2.1 -> Rest k z D H (l.foldl (pstep (cm (noSd Cs) (fun s x => k.al s.1 x) k.ke)) p).2.2.1 := by
  intro l
  induction l with
  | nil => exact fun p h => h
  | cons e l ih =>
   intro p hp
   rw [List.foldl_cons]
   refine ih _ ?_
   have h1 := hp.one e
   unfold pstep
   split
   ·exact h1
   ·exact h1
 exact key l ([], [], t) h
theorem Rest.turn : ∀ (n : Nat) {t : Cs × List En} (d : List En), Rest k z D H t.1 -> Rest k z D H (trn (cm (noSd Cs) (fun s x => k.al s.1 x) k.ke) n t d).1.1
 | 0, t, d, h => h
 | n + 1, t, d, h => by
  unfold trn
  split
  ·exact h.part d
  ·exact Rest.turn n _ (h.part d)
theorem Rest.sS {t : Cs × List En} (h : Rest k z D H t.1) (r : List En) : Rest k z D H (k.sS t r).1 := Rest.turn _ _ h
end
end Go.Proofs.YtnalfnlmaallmaaGreat

namespace Go.Proofs.YtnalfnlmaallmaaGreat
open Go.RowKit W Kp Stl
section
variable {k : Ck} {z : C0} {s : Cs} {H D : List Int}
theorem LI.fy (h : LI k z s H D)
  (hz : ∀ v, (v ∈ k.T \/ v ∈ z.G) -> ∀ i, 0 <= i -> i < pf (k.l0 z v) -> aB (k.l0 z (v + 1 + i)) = true -> aV (k.l0 z (v + 1 + i)) ∈ k.T \/ aV (k.l0 z (v + 1 + i)) ∈ z.G)
  {b : Int} (hb : b ∈ z.G ++ H) {i : Int} (i0 : 0 <= i) (i1 : i < pf (k.ld s b)) (ha : aB (k.ld s (b + 1 + i)) = true) (hy : k.yg (k.ld s (b + 1 + i)) = false) : aV (k.ld s (b + 1 + i)) ∈ z.G ++ H := by
 obtain ⟨a, o⟩ := h.mi.from hb
 have e0 := h.mi.hd a b o
 rw [e0] at i1
 have hm := h.mi.fd a b o i i0 i1
 have haT : a ∈ k.T \/ a ∈ z.G := by
  rcases o with ⟨e, d⟩ | ⟨d, _⟩
  ·exact Or.inr (by rw [e]; exact d)
  ·exact Or.inl d
 rcases hm with e | ⟨g1, g2, g3⟩
 ·rw [e] at ha hy ⊢
  rcases hz a haT i i0 i1 ha with d | d
  ·unfold Ck.yg at hy
   rw [ha] at hy
   simp at hy
   exact absurd d hy
  ·exact List.mem_append_left _ d
 ·have hT : aV (k.l0 z (a + 1 + i)) ∈ k.T := by
   unfold Ck.yg at g1
   rw [Bool.and_eq_true] at g1
   simpa using g1.2
  have hH := h.mi.fh _ hT g2
  have hbd := h.mi.bdH hH
  have hN := h.mi.ci.hN'
  have hO := h.mi.ci.hO
  have hg := h.mi.ci.hg
  obtain ⟨n, hn⟩ : ∃ n : Nat, s.f (aV (k.l0 z (a + 1 + i))) = n := ⟨(s.f (aV (k.l0 z (a + 1 + i)))).toNat, by omega⟩
  rw [g3, hn, (ew_at n (by omega)).2, <- hn]
  exact List.mem_append_right _ hH
theorem MI.noY (h : MI k z s H) {x : Int} (hx : aV x ∈ z.G ++ H) : k.yg x = false := by
 have h1 := h.ci.notT (h.bd hx).1
 unfold Ck.yg
 have e : k.T.contains (aV x) = false := by
  cases hc : k.T.contains (aV x)
  ·rfl
  ·exact absurd (by simpa using hc) h1
 rw [e, Bool.and_false]
/-! ### roots stand -/
theorem lb_rs (k : Ck) : ∀ (n : Nat) (s : Cs), (k.lb n s).rs = s.rs
 | 0, s => rfl
 | n + 1, s => by
  unfold Ck.lb
  split
  ·exact (lb_rs k n _).trans (lk_nx k s s.nx).2
  ·rfl
theorem kvl_rs (k : Ck) : ∀ (l : List Int) (t : List Int × Cs), (l.foldl k.kv1 t).2.rs = t.2.rs
 | [], t => rfl
 | a :: l, t => by
  rw [List.foldl_cons]
  refine (kvl_rs k l _).trans ?_
  unfold Ck.kv1
  split
  ·rfl
  ·exact (kf_wk ..).2.2.2.trans (kf_wk ..).2.2.2
theorem kv_rs (k : Ck) (s : Cs) : (k.kv s).2.rs = s.rs := kvl_rs k s.ep ([], s)
theorem wkl_rs (k : Ck) : ∀ (l : List Nat) (t : (Cs × List En) × Bool), (l.foldl (wkP k.al k.br) t).1.1.rs = t.1.1.rs
 | [], t => rfl
 | a :: l, t => by
  rw [List.foldl_cons]
  refine (wkl_rs k l _).trans ?_
  unfold wkP
  split
  ·rfl
  ·exact (br_rs ..).1
theorem spr_rs (k : Ck) : ∀ (n : Nat) (t : Cs × List En), (k.spr n t).1.rs = t.1.rs
 | 0, t => rfl
 | n + 1, t => by
  have e1 : (k.kv (k.lb (k.O + 1) t.1)).2.rs = t.1.rs := (kv_rs ..).trans (lb_rs ..)
  have e2 : (k.wa ((k.kv (k.lb (k.O + 1) t.1)).2, t.2)).1.1.rs = t.1.rs := (wkl_rs k _ (((k.kv (k.lb (k.O + 1) t.1)).2, t.2), false)).trans e1
  unfold Ck.spr
  split
  ·exact (spr_rs k n _).trans e1
  ·split
   ·exact (spr_rs k n _).trans e2
   ·exact e2
theorem ke_rs (k : Ck) (t : Cs × List En) (x : Int) : (k.ke t x).2.1.rs = t.1.rs := (spr_rs ..).trans (br_rs ..).1
theorem one_rs (k : Ck) (t : Cs × List En) (e : En) : (cm (noSd Cs) (fun s x => k.al s.1 x) k.ke t e).2.1.rs = t.1.rs := by
 unfold cm
 split
 ·exact ke_rs k t e.2
 ·rfl
theorem part_rs (k : Ck) (l : List En) (t : Cs × List En) : (pts (cm (noSd Cs) (fun s x => k.al s.1 x) k.ke) t l).2.2.1.rs = t.1.rs := by
 have key : ∀ (l : List En) (p : List En × List En × (Cs × List En)), (l.foldl (pstep (cm (noSd Cs) (fun s x => k.al s.1 x) k.ke)) p).2.2.1.rs = p.2.2.1.rs := by
  intro l
  induction l with
  | nil => exact fun p => rfl
  | cons e l ih =>
   intro p
   rw [List.foldl_cons]
   refine (ih _).trans ?_
   have h1 := one_rs k p.2.2 e
   unfold pstep
   split
   ·exact h1
   ·exact h1
 exact key l ([], [], t)
theorem turn_rs (k : Ck) : ∀ (n : Nat) (t : Cs × List En) (d : List En), (trn (cm (noSd Cs) (fun s x => k.al s.1 x) k.ke) n t d).1.1.rs = t.1.rs
 | 0, t, d => rfl
 | n + 1, t, d => by
  unfold trn
  split
  ·exact part_rs k d t
  ·exact (turn_rs k n _ _).trans (part_rs k d t)
theorem sS_rs (k : Ck) (t : Cs × List En) (r : List En) : (k.sS t r).1.rs = t.1.rs := turn_rs k _ _ _
theorem lm_len (k : Ck) (e c : Int) (M : List Int) : ∀ (l : List Int) (s : Cs), (l.foldl (k.lm1 e c M) s).wk.length <= s.wk.length + l.length /\ (l.foldl (k.lm1 e c M) s).ep.length <= s.ep.length + l.length /\ (l.foldl (k.lm1 e c M) s).nx = s.nx /\ (l.foldl (k.lm1 e c M) s).rs = s.rs
 | [], s => ⟨Nat.le_refl _, Nat.le_refl _, rfl, rfl⟩
 | b :: l, s => by
  rw [List.foldl_cons]
  obtain ⟨h1, h2, h3, h4⟩ := lm_len k e c M l (k.lm1 e c M s b)
  have key : (k.lm1 e c M s b).wk.length <= s.wk.length + 1 /\ (k.lm1 e c M s b).ep.length <= s.ep.length + 1 /\ (k.lm1 e c M s b).nx = s.nx /\ (k.lm1 e c M s b).rs = s.rs := by
   unfold Ck.lm1
   split
   ·split
    ·obtain ⟨w1, w2⟩ := lk_we k s b
     obtain ⟨n1, n2⟩ := lk_nx k s b
     refine ⟨?_, ?_, n1, n2⟩
     ·rcases w1 with d | ⟨_, d⟩
      ·rw [d]; omega
      ·rw [d, List.length_append]; simp
     ·rcases w2 with d | ⟨_, d⟩
      ·rw [d]; omega
      ·rw [d, List.length_append]; simp
    ·exact ⟨Nat.le_succ _, Nat.le_succ _, rfl, rfl⟩
   ·exact ⟨Nat.le_succ _, Nat.le_succ _, rfl, rfl⟩
  obtain ⟨k1, k2, k3, k4⟩ := key
  simp only [List.length_cons]
  exact ⟨by omega, by omega, h3.trans k3, h4.trans k4⟩
end
/-! ### how it begins -/
theorem Tw_eq {N O y g : Nat} {ws Y G : List Int} (h : Full2 N y g ws Y G) (hN : N <= 256) (hy : y <= N) (hO : O <= 1024) (hg : g <= O) : Tw N y g ws = Y := by
 unfold Tw
 rw [(h.lists hN hy hO hg).1]
 exact List.filter_eq_self.2 (fun x hx => decide_eq_true (by have := (h.ty.mem x hx).2.1; omega))
def Wst.z0 (s : Wst) (G : List Int) : C0 := ⟨s.g, s.ws, G⟩
theorem LI.start {a : Wc} {s : Wst} {Y G : List Int} (h : Full2 a.N s.y s.g s.ws Y G) (hN : 16 <= a.N) (hN' : a.N <= 256) (hO : a.O <= 1024) (hy : s.y <= a.N) (hg : s.g <= a.O) (hl : s.ws.length = a.N + a.O) (hr : s.y <= a.O - s.g) : LI (s.k0 a) (s.z0 G) (s.s0 a) [] [] := by
 have hT : (s.k0 a).T = Y := Tw_eq h hN' hy hO hg
 refine ⟨⟨CI.start hN hN' hO hy hg hl hr, Nat.le_refl _, ?_, fun b hb => (h.io b hb).2, fun _ _ _ => rfl, fun a _ e => absurd rfl e, fun a _ b _ e => absurd rfl e, fun b hb => (by cases hb), fun b hb => (by cases hb), fun a b o => ?_, fun a b o i i0 i1 => ?_⟩, Or.inr rfl, fun b hb => (by cases hb), fun b hb => (by cases hb), fun b hb => (by cases hb)⟩
 ·rw [hT, List.append_nil]
  exact h
 ·rcases o with ⟨e, _⟩ | ⟨_, e, e2⟩
  ·rw [e]
   rfl
  ·exact absurd e.symm e2
 ·rcases o with ⟨e, _⟩ | ⟨_, e, e2⟩
  ·rw [e]
   exact Or.inl rfl
  ·exact absurd e.symm e2
theorem WE.start (a : Wc) (s : Wst) (G : List Int) : WE (s.k0 a) (s.z0 G) (s.s0 a) [] := ⟨fun b hb => (by cases hb), fun b hb => (by cases hb)⟩
end Go.Proofs.YtnalfnlmaallmaaGreat

namespace Go.Proofs.YtnalfnlmaallmaaGreat
open Go.RowKit W Kp Stl
structure CutR (a : Wc) (S : Ww) (G K D : List Int) : Prop where
  li : LI (S.s.k0 a) (S.s.z0 G) (S.s4 a) K D
  we : WE (S.s.k0 a) (S.s.z0 G) (S.s4 a) K
  he : hB a.N (S.s4 a).g (S.s4 a).nx = false
  hz : ∀ v, (v ∈ (S.s.k0 a).T \/ v ∈ G) -> ∀ i, 0 <= i -> i < pf ((S.s.k0 a).l0 (S.s.z0 G) v) -> aB ((S.s.k0 a).l0 (S.s.z0 G) (v + 1 + i)) = true -> aV ((S.s.k0 a).l0 (S.s.z0 G) (v + 1 + i)) ∈ (S.s.k0 a).T \/ aV ((S.s.k0 a).l0 (S.s.z0 G) (v + 1 + i)) ∈ G
  hc : ∀ v ∈ G, v ∉ D -> ∀ i, 0 <= i -> i < pf ((S.s.k0 a).l0 (S.s.z0 G) v) -> (S.s.k0 a).yg ((S.s.k0 a).l0 (S.s.z0 G) (v + 1 + i)) = false
  rl : (S.s4 a).rs.length = 12
  ry : ∀ i, i < 12 -> (S.s.k0 a).yg ((S.s4 a).rs.getD i 0) = false
  rm : ∀ i, i < 12 -> (S.s.k0 a).ml (S.s4 a) (S.s.rs.getD i 0) ((S.s4 a).rs.getD i 0)
section
variable {a : Wc} {S : Ww} {Y G : List Int}
theorem cut_rest (h : KInv a S.s Y G) (hb : Wbd a S.s) (hr : S.s.y <= a.O - S.s.g) : ∃ K D, CutR a S G K D := by
 have hT : (S.s.k0 a).T = Y := Tw_eq h.inv.full hb.n1 hb.y1 hb.o1 hb.g1
 have L0 := LI.start h.inv.full hb.n0 hb.n1 hb.o1 hb.y1 hb.g1 hb.l1 hr
 have W0 := WE.start a S.s G
 obtain ⟨H1, L1, p1, ⟨H1', e1⟩, l1, y1, _, m1⟩ := L0.kr 12 (by show 12 <= S.s.rs.length; rw [hb.r1]; exact Nat.le_refl _)
 have W1 := W0.kr L0.mi 12 L1.mi p1 ⟨_, e1⟩
 have eth : thO a.N S.s.y (S.s.s1 a).g (S.s.s1 a).ws = G ++ H1 := (L1.mi.full.lists (O := a.O) hb.n1 hb.y1 hb.o1 L1.mi.ci.hg).2
 have enx : (S.s.s1 a).nx = ((S.s.k0 a).N : Int) + (S.s.z0 G).g := (kr_wk (S.s.k0 a) (S.s.s0 a) 12).2.2
 have hzt : Tile ((S.s.k0 a).l0 (S.s.z0 G)) (((S.s.k0 a).N : Int) + (S.s.z0 G).g) (S.s.k0 a).N (S.s.z0 G).G := h.inv.full.to
 obtain ⟨H2, D2, L2, W2, p2, ⟨H2', e2⟩, _, hD⟩ := LI.lmw (nC a.O) S.s.M hzt (G ++ H1) L1 W1 (fun x hx => (List.mem_append.1 hx).imp id (fun d => L1.mi.hlo x d))
 have es2 : (G ++ H1).foldl ((S.s.k0 a).lm1 (((S.s.k0 a).N : Int) + (S.s.z0 G).g) (nC a.O) S.s.M) ((S.s.k0 a).kr (S.s.s0 a) 12) = S.s.s2 a := by
  unfold Wst.s2 Ck.lm
  rw [eth, enx]
  rfl
 have hlen := lm_len (S.s.k0 a) (((S.s.k0 a).N : Int) + (S.s.z0 G).g) (nC a.O) S.s.M (G ++ H1) ((S.s.k0 a).kr (S.s.s0 a) 12)
 rw [es2] at L2 W2 p2 hlen
 have hle : (G ++ H1).length <= 2000 := by
  rw [<- eth]
  exact ths_le _ _
 obtain ⟨q1, q2, q3⟩ := kr_wk (S.s.k0 a) (S.s.s0 a) 12
 have cb : CB (S.s.k0 a) (S.s.s2 a) := by
  obtain ⟨u1, u2, u3, _⟩ := hlen
  rw [q1] at u1
  rw [q2] at u2
  rw [q3] at u3
  have u1 : (S.s.s2 a).wk.length <= 0 + (G ++ H1).length := u1
  have u2 : (S.s.s2 a).ep.length <= 0 + (G ++ H1).length := u2
  have u3 : (S.s.s2 a).nx = (a.N : Int) + S.s.g := u3
  have o1 := hb.o1
  refine ⟨?_, ?_⟩
  ·rw [u3]
   show (S.s.s2 a).wk.length + ((a.N : Int) + a.O + 13 - ((a.N : Int) + S.s.g)).toNat <= 4000
   omega
  ·rw [u3]
   show (S.s.s2 a).ep.length + ((a.N : Int) + a.O + 13 - ((a.N : Int) + S.s.g)).toNat <= 4000
   omega
 have R3 : Rest (S.s.k0 a) (S.s.z0 G) D2 H2 (S.t3 a).1 := by
  have key : ∀ s2 : Cs, LI (S.s.k0 a) (S.s.z0 G) s2 H2 D2 -> WE (S.s.k0 a) (S.s.z0 G) s2 H2 -> CB (S.s.k0 a) s2 -> Rest (S.s.k0 a) (S.s.z0 G) D2 H2 ((S.s.k0 a).sp (s2, S.q)).1 := fun s2 l w b => Rest.sp (t := (s2, S.q)) l w b ⟨[], (List.append_nil _).symm⟩
  unfold Ww.t3
  exact key _ L2 W2 cb
 have R4 : Rest (S.s.k0 a) (S.s.z0 G) D2 H2 (S.s4 a) := by
  unfold Ww.s4
  exact R3.sS S.r
 obtain ⟨K, L4, W4, _, he, ⟨B, e4⟩⟩ := R4
 have ers : (S.s4 a).rs = (S.s.s1 a).rs := by
  unfold Ww.s4
  rw [sS_rs]
  unfold Ww.t3 Ck.sp
  rw [spr_rs]
  exact hlen.2.2.2
 -- what was told of roots is so behind
 have pg : Pg (S.s.k0 a) (S.s.s1 a) (S.s4 a) := by
  have key : ∀ s2 : Cs, LI (S.s.k0 a) (S.s.z0 G) s2 H2 D2 -> WE (S.s.k0 a) (S.s.z0 G) s2 H2 -> Pg (S.s.k0 a) s2 ((S.s.k0 a).sS ((S.s.k0 a).sp (s2, S.q)) S.r).1 := fun s2 l w => by
   obtain ⟨K1, i1, i2, i3, _⟩ := Ru.sp (k := S.s.k0 a) (z := S.s.z0 G) (D := D2) (s2, S.q) H2 l w
   obtain ⟨K2, _, _, j3, _⟩ := Ru.sS (k := S.s.k0 a) (z := S.s.z0 G) (D := D2) ((S.s.k0 a).sp (s2, S.q)) S.r K1 i1 i2
   exact i3.trans j3
  unfold Ww.s4 Ww.t3
  exact p2.trans (key _ L2 W2)
 refine ⟨K, D2, L4, W4, he, fun v hv i i0 i1 ha => ?_, fun v hv hvD i i0 i1 => ?_, ?_, fun i hi => ?_, fun i hi => ?_⟩
 ·rw [hT] at hv ⊢
  exact h.inv.fd v hv i i0 i1 ha
 ·cases hc : (S.s.k0 a).yg ((S.s.k0 a).l0 (S.s.z0 G) (v + 1 + i))
  ·rfl
  ·exfalso
   unfold Ck.yg at hc
   rw [Bool.and_eq_true, hT] at hc
   have hm := h.cd v hv i i0 i1 hc.1 (List.contains_iff_mem.1 hc.2)
   exact hvD (hD v (List.mem_append_left _ hv) hv hm)
 ·rw [ers]
  exact l1.trans hb.r1
 ·rw [ers]
  exact y1 i hi
 ·rw [ers]
  exact pg.ml (m1 i hi)
theorem CutR.root {K D : List Int} (c : CutR a S G K D) (h : KInv a S.s Y G) (hb : Wbd a S.s) : ∀ x ∈ (S.s4 a).rs, Gd (S.s.k0 a) (G ++ K) x := fun x hx ha => by
 have hT : (S.s.k0 a).T = Y := Tw_eq h.inv.full hb.n1 hb.y1 hb.o1 hb.g1
 obtain ⟨i, hi, e⟩ := List.mem_iff_getElem.1 hx
 have hi12 : i < 12 := by rw [<- c.rl]; exact hi
 have e2 : (S.s4 a).rs.getD i 0 = x := by
  rw [List.getD_eq_getElem?_getD, List.getElem?_eq_getElem hi, e]
  rfl
 have hy := c.ry i hi12
 have hm := c.rm i hi12
 rw [e2] at hy hm
 refine ⟨hy, ?_⟩
 rcases hm with d | ⟨g1, g2, g3⟩
 ·have hmem : S.s.rs.getD i 0 ∈ S.s.rs := by
   have hl : i < S.s.rs.length := by rw [hb.r1]; exact hi12
   rw [List.getD_eq_getElem?_getD, List.getElem?_eq_getElem hl]
   exact List.getElem_mem hl
  rw [<- d] at hmem
  rcases h.inv.rt x hmem ha with g | g
  ·unfold Ck.yg at hy
   rw [ha, hT] at hy
   simp at hy
   exact absurd g hy
  ·exact List.mem_append_left _ g
 ·have hT2 : aV (S.s.rs.getD i 0) ∈ (S.s.k0 a).T := by
   unfold Ck.yg at g1
   rw [Bool.and_eq_true] at g1
   simpa using g1.2
  have hH := c.li.mi.fh _ hT2 g2
  have hbd := c.li.mi.bdH hH
  have hN := hb.n1
  have hO := hb.o1
  have hg := c.li.mi.ci.hg
  have eN : (S.s.k0 a).N = a.N := rfl
  have eO : (S.s.k0 a).O = a.O := rfl
  obtain ⟨n, hn⟩ : ∃ n : Nat, (S.s4 a).f (aV (S.s.rs.getD i 0)) = n := ⟨((S.s4 a).f (aV (S.s.rs.getD i 0))).toNat, by omega⟩
  rw [g3, hn, (ew_at n (by omega)).2, <- hn]
  exact List.mem_append_right _ hH
theorem CutR.done {K D : List Int} (c : CutR a S G K D) (h : KInv a S.s Y G) (hb : Wbd a S.s) : WInv a.N 0 (S.s6 a).g (S.s6 a).ws [] (G ++ K) (S.s6 a).rs := by
 have ci := c.li.mi.ci
 have F4 : Fin1 (S.s.k0 a) (G ++ K) (fun b i => (i = 0 /\ b ∈ (S.s4 a).wk) \/ ((i = 0 \/ i = 1) /\ b ∈ (S.s4 a).ep)) (S.s4 a) := by
  refine ⟨c.li.mi.full, ci.len, ci.hy, ci.hg, fun b hb i i0 i1 => ?_, fun b hb i i0 i1 hy ha => ⟨hy, c.li.fy c.hz hb i0 i1 ha hy⟩⟩
  cases ha : aB ((S.s.k0 a).ld (S.s4 a) (b + 1 + i))
  ·exact Or.inl (fun e => by rw [ha] at e; cases e)
  ·rcases c.li.fields c.he c.hz c.hc hb i0 i1 ha with d | ⟨d1, d2, d3⟩ | ⟨d1, d2⟩
   ·exact Or.inl (fun _ => ⟨c.li.mi.noY d, d⟩)
   ·exact Or.inr (Or.inl ⟨d2, d3⟩)
   ·have f2 := pf_two (c.li.mi.bd hb).2.2 (Or.inr (Or.inr d1))
    exact Or.inr (Or.inr ⟨by omega, d2⟩)
 obtain ⟨F5, k5, g5, r5, e5⟩ := Fin1.mw hb.n1 hb.o1 (S.s4 a).wk F4 (fun x hx => c.we.wk x hx) (fun x hx hf => List.mem_append_right _ (c.li.mi.fh x hx hf))
 have F5 : Fin1 (S.s.k0 a) (G ++ K) _ (S.s5 a) := F5
 have e5 : (S.s5 a).ep = (S.s4 a).ep := e5
 have r5 : (S.s5 a).rs = (S.s4 a).rs := r5
 have k5 : ∀ b ∈ G ++ K, (S.s.k0 a).ld (S.s5 a) b = (S.s.k0 a).ld (S.s4 a) b := k5
 obtain ⟨F6, k6, g6, r6⟩ := Fin1.be (S.s5 a).ep F5 (fun x hx => by
  rw [e5] at hx
  obtain ⟨q1, q2⟩ := c.we.ep x hx
  exact ⟨q1, by rw [k5 x q1]; exact q2⟩)
 have r6 : (S.s6 a).rs = (S.s5 a).rs := r6
 have F6 := F6.imp (Q := fun _ _ => False) (fun b i p => by
  obtain ⟨⟨p1, p2⟩, p3⟩ := p
  rw [e5] at p3
  rcases p1 with ⟨d1, d2⟩ | ⟨d1, d2⟩
  ·exact p2 ⟨d2, d1⟩
  ·exact p3 ⟨d2, d1⟩)
 exact F6.done (rs := (S.s6 a).rs) (by rw [r6, r5]; exact c.root h hb)
end
end Go.Proofs.YtnalfnlmaallmaaGreat

namespace Go.Proofs.YtnalfnlmaallmaaGreat
open W
def Wls (WR : Int -> Int -> Prop) : List Int -> List Int -> Prop
 | [], [] => True
 | x :: l, x' :: l' => WR x x' /\ Wls WR l l'
 | _, _ => False
theorem Wls.of {WR : Int -> Int -> Prop} : ∀ {l l' : List Int}, l.length = l'.length -> (∀ i, i < l.length -> WR (l.getD i 0) (l'.getD i 0)) -> Wls WR l l'
 | [], [], _, _ => trivial
 | [], x' :: l', h, _ => by simp at h
 | x :: l, [], h, _ => by simp at h
 | x :: l, x' :: l', h, hi => ⟨by simpa using hi 0 (by simp), Wls.of (by simpa using h) (fun i d => by
  have := hi (i + 1) (by simpa using d)
  simpa using this)⟩
def Wmv (R : Int -> Prop) (f : Int -> Int) (x x' : Int) : Prop := (dk x = 3 /\ dk x' = 3 /\ R (dn x) /\ dn x' = f (dn x)) \/ (dk x ≠ 3 /\ dk x' = dk x /\ dn x' = dn x)
structure Bi (R : Int -> Prop) (f : Int -> Int) (T : List Int) (kd : Int -> Int) (sh : Int -> List Int) (T' : List Int) (kd' : Int -> Int) (sh' : Int -> List Int) : Prop where
  rT : ∀ a, R a -> a ∈ T
  rT' : ∀ a, R a -> f a ∈ T'
  inj : ∀ a b, R a -> R b -> f a = f b -> a = b
  kd : ∀ a, R a -> kd' (f a) = kd a
  sh : ∀ a, R a -> Wls (Wmv R f) (sh a) (sh' (f a))
structure Bs (R : Int -> Prop) (f : Int -> Int) (T T' : List Int) (s s' : Vst) : Prop where
  ok : VOk T s
  ok' : VOk T' s'
  ms : s'.1 = s.1.map f
  nd : s'.2 = s.2
  rs : ∀ a ∈ s.1, R a
section
variable {R : Int -> Prop} {f : Int -> Int} {T T' : List Int} {kd kd' : Int -> Int} {sh sh' : Int -> List Int}
theorem idx_map (inj : ∀ a b, R a -> R b -> f a = f b -> a = b) {d : Int} (hd : R d) : ∀ l : List Int, (∀ a ∈ l, R a) -> (l.map f).idxOf (f d) = l.idxOf d
 | [], _ => rfl
 | x :: l, h => by
  rw [List.map_cons, List.idxOf_cons, List.idxOf_cons, idx_map inj hd l (fun a ha => h a (List.mem_cons_of_mem _ ha))]
  by_cases e : x = d
  ·rw [e, beq_self_eq_true, beq_self_eq_true]
  ·have e2 : f x ≠ f d := fun c => e (inj x d (h x List.mem_cons_self) hd c)
   rw [beq_false_of_ne e, beq_false_of_ne e2]
theorem mem_mapf (inj : ∀ a b, R a -> R b -> f a = f b -> a = b) {d : Int} (hd : R d) {l : List Int} (h : ∀ a ∈ l, R a) : f d ∈ l.map f ↔ d ∈ l := by
 refine ⟨fun c => ?_, fun c => List.mem_map_of_mem c⟩
 obtain ⟨x, h1, h2⟩ := List.mem_map.1 c
 rw [<- inj x d (h x h1) hd h2]
 exact h1
def Bmet (R : Int -> Prop) (f : Int -> Int) (T T' : List Int) (n n' : Nat) (M M' : Vst -> Int -> Vst) : Prop :=
 ∀ s s' a, Bs R f T T' s s' -> R a -> a ∉ s.1 -> T.length <= s.1.length + n -> T'.length <= s'.1.length + n' -> Bs R f T T' (M s a) (M' s' (f a))
theorem vst_bi (B : Bi R f T kd sh T' kd' sh') {n n' : Nat} {M M' : Vst -> Int -> Vst} (hM : Bmet R f T T' n n' M M') {s s' : Vst} (h : Bs R f T T' s s') (hn : T.length <= s.1.length + n) (hn' : T'.length <= s'.1.length + n') {x x' : Int} (hx : Wmv R f x x') :
  (vst M T s x).1 = (vst M' T' s' x').1 /\ Bs R f T T' (vst M T s x).2 (vst M' T' s' x').2 := by
 unfold vst
 rcases hx with ⟨d1, d2, d3, d4⟩ | ⟨d1, d2, d3⟩
 ·rw [if_pos d1, if_pos d2, if_pos (List.contains_iff_mem.2 (B.rT _ d3)), d4, if_pos (List.contains_iff_mem.2 (B.rT' _ d3))]
  have hm := mem_mapf B.inj d3 h.rs
  rw [<- h.ms] at hm
  by_cases c : dn x ∈ s.1
  ·rw [if_pos (List.contains_iff_mem.2 c), if_pos (List.contains_iff_mem.2 (hm.2 c))]
   refine ⟨?_, h⟩
   dsimp only
   rw [h.ms, idx_map B.inj d3 s.1 h.rs]
  ·rw [if_neg (fun e => c (List.contains_iff_mem.1 e)), if_neg (fun e => c (hm.1 (List.contains_iff_mem.1 e)))]
   refine ⟨?_, hM s s' (dn x) h d3 c hn hn'⟩
   dsimp only
   rw [h.ms, List.length_map]
 ·rw [if_neg d1, if_neg (by rw [d2]; exact d1), d2, d3]
  exact ⟨rfl, h⟩
theorem vls_bi (B : Bi R f T kd sh T' kd' sh') {n n' : Nat} {M M' : Vst -> Int -> Vst} (hV : Vmet T kd sh n M) (hV' : Vmet T' kd' sh' n' M') (hM : Bmet R f T T' n n' M M') : ∀ (l l' : List Int) (r r' : List (Int × Int) × Vst), Wls (Wmv R f) l l' -> r.1 = r'.1 -> Bs R f T T' r.2 r'.2 -> T.length <= r.2.1.length + n -> T'.length <= r'.2.1.length + n' ->
  (l.foldl (fun r x => (r.1 ++ [(vst M T r.2 x).1], (vst M T r.2 x).2)) r).1 = (l'.foldl (fun r x => (r.1 ++ [(vst M' T' r.2 x).1], (vst M' T' r.2 x).2)) r').1 /\ Bs R f T T' (l.foldl (fun r x => (r.1 ++ [(vst M T r.2 x).1], (vst M T r.2 x).2)) r).2 (l'.foldl (fun r x => (r.1 ++ [(vst M' T' r.2 x).1], (vst M' T' r.2 x).2)) r').2
 | [], [], r, r', _, e, h, _, _ => ⟨e, h⟩
 | [], x' :: l', r, r', hw, _, _, _, _ => absurd hw (by simp [Wls])
 | x :: l, [], r, r', hw, _, _, _, _ => absurd hw (by simp [Wls])
 | x :: l, x' :: l', r, r', hw, e, h, hn, hn' => by
  obtain ⟨w1, w2⟩ := hw
  obtain ⟨e1, e2⟩ := vst_bi B hM h hn hn' w1
  have g1 := (vst_go hV h.ok hn x).le
  have g2 := (vst_go hV' h.ok' hn' x').le
  rw [List.foldl_cons, List.foldl_cons]
  exact vls_bi B hV hV' hM l l' _ _ w2 (by dsimp only; rw [e, e1]) e2 (by dsimp only; omega) (by dsimp only; omega)
theorem met_bi (B : Bi R f T kd sh T' kd' sh') : ∀ n n' : Nat, Bmet R f T T' n n' (met T kd sh n) (met T' kd' sh' n')
 | 0, _ => fun s s' a h ha hna hn _ => by
  have := h.ok.lt (B.rT a ha) hna
  omega
 | n + 1, 0 => fun s s' a h ha hna _ hn' => by
  have := h.ok'.lt (B.rT' a ha) (fun c => hna ((mem_mapf B.inj ha h.rs).1 (by rw [<- h.ms]; exact c)))
  omega
 | n + 1, n' + 1 => fun s s' a h ha hna hn hn' => by
  have hna' : f a ∉ s'.1 := fun c => hna ((mem_mapf B.inj ha h.rs).1 (by rw [<- h.ms]; exact c))
  have o1 := (met_go (kd := kd) (sh := sh) (n + 1) s a h.ok (B.rT a ha) hna hn).ok
  have o2 := (met_go (kd := kd') (sh := sh') (n' + 1) s' (f a) h.ok' (B.rT' a ha) hna' hn').ok
  have h1 : Bs R f T T' (s.1 ++ [a], s.2 ++ [(kd a, [])]) (s'.1 ++ [f a], s'.2 ++ [(kd' (f a), [])]) := ⟨h.ok.more (B.rT a ha) hna _, h.ok'.more (B.rT' a ha) hna' _, by dsimp only; rw [h.ms]; simp, by dsimp only; rw [h.nd, B.kd a ha], fun c hc => by
   rcases List.mem_append.1 hc with d | d
   ·exact h.rs c d
   ·rw [List.mem_singleton] at d
    rw [d]
    exact ha⟩
  obtain ⟨e1, e2⟩ := vls_bi B (met_go n) (met_go n') (met_bi B n n') (sh a) (sh' (f a)) ([], (s.1 ++ [a], s.2 ++ [(kd a, [])])) ([], (s'.1 ++ [f a], s'.2 ++ [(kd' (f a), [])])) (B.sh a ha) rfl h1 (by simp; omega) (by simp; omega)
  refine ⟨o1, o2, e2.ms, ?_, e2.rs⟩
  have e3 := e2.nd
  show (vls (met T' kd' sh' n') T' (s'.1 ++ [f a], s'.2 ++ [(kd' (f a), [])]) (sh' (f a))).2.2.set s'.1.length (kd' (f a), (vls (met T' kd' sh' n') T' (s'.1 ++ [f a], s'.2 ++ [(kd' (f a), [])]) (sh' (f a))).1) = (vls (met T kd sh n) T (s.1 ++ [a], s.2 ++ [(kd a, [])]) (sh a)).2.2.set s.1.length (kd a, (vls (met T kd sh n) T (s.1 ++ [a], s.2 ++ [(kd a, [])]) (sh a)).1)
  have e1 : (vls (met T kd sh n) T (s.1 ++ [a], s.2 ++ [(kd a, [])]) (sh a)).1 = (vls (met T' kd' sh' n') T' (s'.1 ++ [f a], s'.2 ++ [(kd' (f a), [])]) (sh' (f a))).1 := e1
  have e3 : (vls (met T' kd' sh' n') T' (s'.1 ++ [f a], s'.2 ++ [(kd' (f a), [])]) (sh' (f a))).2.2 = (vls (met T kd sh n) T (s.1 ++ [a], s.2 ++ [(kd a, [])]) (sh a)).2.2 := e3
  rw [e3, <- e1, B.kd a ha, h.ms, List.length_map]
theorem walk_bi (B : Bi R f T kd sh T' kd' sh') {l l' : List Int} (hl : Wls (Wmv R f) l l') {n n' : Nat} (hn : T.length <= n) (hn' : T'.length <= n') : (vls (met T kd sh n) T ([], []) l).1 = (vls (met T' kd' sh' n') T' ([], []) l').1 /\ (vls (met T' kd' sh' n') T' ([], []) l').2.2 = (vls (met T kd sh n) T ([], []) l).2.2 /\ (vls (met T' kd' sh' n') T' ([], []) l').2.1 = (vls (met T kd sh n) T ([], []) l).2.1.map f := by
 obtain ⟨e1, e2⟩ := vls_bi B (met_go n) (met_go n') (met_bi B n n') l l' ([], ([], [])) ([], ([], [])) hl rfl ⟨VOk.start T, VOk.start T', rfl, rfl, fun a ha => by cases ha⟩ (by simpa using hn) (by simpa using hn')
 exact ⟨e1, e2.nd, e2.ms⟩
end
end Go.Proofs.YtnalfnlmaallmaaGreat

namespace Go.Proofs.YtnalfnlmaallmaaGreat
open Go.RowKit W Kp Stl
theorem dk_aB {x : Int} (h : dk x = 3) : aB x = true := by
 unfold aB
 have h0 : dc x = 0 := by
  unfold dk at h
  split at h
  ·assumption
  ·omega
 rw [h, h0]
 rfl
theorem aB_dk {x : Int} (h : aB x = true) : dk x = 3 := by
 unfold aB at h
 rw [Bool.and_eq_true] at h
 simpa using h.2
def K12 (a : Wc) (s : Wst) (Y G : List Int) : Prop := ∀ v, (v ∈ Y \/ v ∈ G) -> pk (ld a.N s.y s.g s.ws v) = 1 \/ pk (ld a.N s.y s.g s.ws v) = 2
section
variable {a : Wc} {S : Ww} {Y G K D : List Int}
end
end Go.Proofs.YtnalfnlmaallmaaGreat
