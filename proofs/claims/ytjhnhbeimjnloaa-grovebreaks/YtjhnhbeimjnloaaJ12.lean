/- Joined: Sda, Gv1, Gv2. -/
import Derived.Test.YtjhnhbeimjnloaaJ11
import Derived.Laws.EntriesVeiled
import Derived.Test.YtjhnhbeimjnloaaJ06
import Derived.Test.YtjhnhbeimjnloaaJ04
import Derived.Test.YtjhnhbeimjnloaaJ05
import Derived.Deep.RegionHeld3
/- Pop of a Side: a contract. -/
namespace Go.Proofs.Ytjhnhbeimjnloaa
open Go.RowKit W Kp Stl

theorem concat' (w : World) (B n1 n2 : Nat) (l1 l2 : List En) (z1 z2 : Addr) (c1 c2 : Nat) (e1 : l1.length = n1) (e2 : l2.length = n2) (x0 : w.cell? ⟨B, 0, none⟩ = some (.slice (some z1) n1 c1)) (x1 : w.cell? ⟨B, 1, none⟩ = some (.slice (some z2) n2 c2)) (h1 : Lp w (some z1) l1) (h2 : Lp w (some z2) l2) (hm : n1 + n2 ≤ 100000) :
    Calls Try.prog 87 #[.slice (some ⟨B, 0, none⟩) 2 2] w fun e w' => ∃ a c m, e = .returned (.slice a m c) ∧ Hid (m = n1 + n2) ∧ Hid (w'.ownsRow w.heap.size 96 2 (.slice a m c) m (ev (l1 ++ l2))) ∧ Below w.heap.size w w' := by
  subst e1
  subst e2
  refine (concat_any w B l1 l2 z1 z2 c1 c2 x0 x1 h1 h2 hm).mono ?_
  rintro e w' ⟨a, c, rfl, h3, h4⟩
  exact ⟨a, c, _, rfl, rfl, h3, h4⟩
theorem Lp.take {w : World} {ad : Option Addr} {q : List En} (h : Lp w ad q) (i : Nat) : Lp w ad (q.take i) := by
  intro hp
  simp only [List.length_take] at hp
  obtain ⟨b, o, e, hb, hc⟩ := h (by omega)
  refine ⟨b, o, e, hb, fun j hj => ?_⟩
  simp only [List.length_take] at hj
  have e2 : (q.take i).getD j (0, 0) = q.getD j (0, 0) := by rw [List.getD_eq_getElem?_getD, List.getD_eq_getElem?_getD, List.getElem?_take_of_lt (by omega)]
  rw [e2]
  exact hc j (by omega)
theorem Lp.drop {w : World} {b o : Nat} {q : List En} (h : Lp w (some ⟨b, o, none⟩) q) (i : Nat) : Lp w (some ⟨b, o + i * 2, none⟩) (q.drop i) := by
  intro hp
  simp only [List.length_drop] at hp
  obtain ⟨b', o', e, hb, hc⟩ := h (by omega)
  cases e
  refine ⟨b, o + i * 2, rfl, hb, fun j hj => ?_⟩
  simp only [List.length_drop] at hj
  have e2 : (q.drop i).getD j (0, 0) = q.getD (i + j) (0, 0) := by simp [List.getElem?_drop]
  have hx := hc (i + j) (by omega)
  rw [e2, show o + i * 2 + j * 2 = o + (i + j) * 2 by omega]
  exact hx

theorem ent_pop1 : Ent 86 := ent_of Try.func86 (by kernel_rfl) rfl

set_option maxRecDepth 100000 in
set_option maxHeartbeats 400000 in
theorem pop1_any (w : World) (B : Nat) (g : Int) (e : En) (h : w.cell? ⟨B, 0, none⟩ = some (.int .i64 g)) :
    Calls Try.prog 86 #[en e, .pointer (some ⟨B, 0, none⟩)] w fun r w' => r = .returned (.bool (e.1 == g)) ∧ Below w.heap.size w w' := by
  obtain ⟨x, y⟩ := e
  have hlt := World.block_lt_of_cell? w _ h
  have hb1 := (Below.refl w.heap.size w).alloc (Nat.le_refl _) (.cells #[.int .i64 x, .int .i64 y] 96)
  by_cases hx : x = g
  · subst hx
    go_enter Try.func86, Try.ntmps86
    go_wp2_with fail
    go_ret
    exact ⟨by simp, hb1⟩
  · go_enter Try.func86, Try.ntmps86
    go_wp2_with fail
    go_ret
    exact ⟨by simp, hb1⟩

theorem pop_end {w w1 w5 : World} {p b0 : Nat} {a0 a5 : Option Addr} {k0 k1 c5 i n : Nat} {r q : List En} (h : Sds w p a0 k0 (some ⟨b0, 0, none⟩) k1 r q) (hb2 : Below w.heap.size w w1) (hb5 : Below w1.heap.size w1 w5) (hown : w5.ownsRow w1.heap.size 96 2 (.slice a5 n c5) n (ev (q.take i ++ q.drop (i + 1)))) (hi : i < q.length) (hn : n + 1 = q.length) :
    Sds (w5.setCell ⟨p, 1, none⟩ (.slice a5 n c5)) p a0 k0 a5 c5 r (q.take i ++ q.drop (i + 1)) ∧ (∀ z, a5 = some z → w.heap.size ≤ z.block) ∧ Fr (fun k => k = p) w (w5.setCell ⟨p, 1, none⟩ (.slice a5 n c5)) := by
  have hbw : Below w.heap.size w w5 := hb2.trans (hb5.mono hb2.size)
  have hS := h.below hbw
  have hl : (q.take i ++ q.drop (i + 1)).length = n := by rw [List.length_append, List.length_take, List.length_drop]; omega
  have kk : ∀ k, k ≠ p → (w5.setCell ⟨p, 1, none⟩ (.slice a5 n c5)).heap[k]? = w5.heap[k]? := fun k hk => Below.heap_setCell _ _ _ _ hk
  refine ⟨⟨by rw [hl]; exact set_snd hS.blk, row_keep hS.r0 (fun k e => kk k (hS.np hS.r0 k e)), ?_⟩, fun z e => ?_, (Fr.of hbw).set p 1 _ rfl⟩
  · rw [hl]
    exact row_base (row_keep hown (fun k e => kk k (hS.np hown k e))) (fun _ _ => Nat.zero_le _)
  · have := (row_lt hown z.block (by rw [e]; rfl)).1
    have := hb2.size
    omega

set_option maxRecDepth 100000 in
set_option maxHeartbeats 1000000 in
theorem pop_any (w : World) (p : Nat) (a0 a1 : Option Addr) (k0 k1 : Nat) (r q : List En) (g : Int) (h : Sds w p a0 k0 a1 k1 r q) (h1 : q.length ≤ 90000) :
    Calls Try.prog 70 #[.pointer (some ⟨p, 0, none⟩), .int .i64 g] w fun e w' =>
      (e = .returned (.tuple #[.int .i64 0, .bool false]) ∧ (∀ e ∈ q, ¬ e.1 = g) ∧ Below w.heap.size w w') ∨
      (∃ (i : Nat) (b1 : Option Addr) (c1 : Nat), e = .returned (.tuple #[.int .i64 (q.getD i (0, 0)).2, .bool true]) ∧ i < q.length ∧ (q.getD i (0, 0)).1 = g ∧ (∀ e ∈ q.take i, ¬ e.1 = g) ∧ Sds w' p a0 k0 b1 c1 r (q.take i ++ q.drop (i + 1)) ∧ (∀ z, b1 = some z → w.heap.size ≤ z.block) ∧ Fr (fun k => k = p) w w') := by
  obtain ⟨c0, c1, f0, f1, lp⟩ := h.cells
  have H : Hid (Sds w p a0 k0 a1 k1 r q) := h
  have hb1 := (Below.refl w.heap.size w).alloc (Nat.le_refl _) (.cells #[.int .i64 g] 2)
  have y1 := (hb1.cell (p := ⟨p, 1, none⟩) lp).trans c1
  have P := index_any (fun _ => True) 86 #[] #[.pointer (some ⟨w.heap.size, 0, none⟩)] (fun e => e.1 == g) ent_pop1 (w.alloc (.cells #[.int .i64 g] 2)) (fun w' e _ hs hk => pop1_any w' w.heap.size g e ((World.cell?_of_block (a := ⟨w.heap.size, 0, none⟩) (hk _ (by simp))).trans (by simp))) q a1 k1 (fun _ _ => trivial) (by omega) ((row_pairs h.q0).below hb1)
  clear h c0 f0
  go_enter Try.func70, Try.ntmps70
  go_wp2_with fail
  refine P.mono ?_
  clear P
  rintro e w1 ⟨hb, ⟨rfl, hn⟩ | ⟨i, rfl, hi, ht, hn⟩⟩
  · have HN : Hid (∀ e ∈ q, ¬ e.1 = g) := fun e he => by simpa using hn e he
    have hb2 := hb1.trans (hb.mono (by simp))
    clear hb hn
    go_wp2_with fail
    go_ret2
    exact Or.inl ⟨rfl, HN.out, hb2⟩
  · have HN : Hid (∀ e ∈ q.take i, ¬ e.1 = g) := fun e he => by simpa using hn e he
    have HT : Hid ((q.getD i (0, 0)).1 = g) := by show _ = _; simpa using ht
    obtain ⟨z, Hz⟩ : ∃ z, Hid (z = (q.getD i (0, 0)).2) := ⟨_, rfl⟩
    have hb2 := hb1.trans (hb.mono (by simp))
    have hsz := hb2.size
    have hS := H.out.below hb2
    obtain ⟨d0, d1, e0, e1, lp1⟩ := hS.cells
    have hLi := row_li hS.q0
    obtain ⟨b0, cap, hshape⟩ := row_shape hS.q0 (by omega)
    simp at hshape
    obtain ⟨rfl, rfl⟩ := hshape
    have hle := hLi.le
    have hmx : k1 ≤ maxLen := by
      rcases hS.q0.2 with ⟨_, h0⟩ | ⟨g, cap', cur, hv, _, _, _, hc, _⟩
      · omega
      · simp at hv; omega
    unfold maxLen at hmx
    obtain ⟨b0', o0', e0', hb0, hc⟩ := hLi.lp (by omega)
    cases e0'
    have x2 := (hc i hi).2
    rw [Nat.zero_add, ← Hz.out] at x2
    have i0 : (0 : Int) ≤ (i : Int) := by omega
    have i1 : (i : Int) < (q.length : Int) := by omega
    have HS : Hid (Sds w1 p a0 k0 (some ⟨b0, 0, none⟩) k1 r q) := hS
    clear hb hn hb1 hc hS ht
    have HP : Hid (Lp w1 (some ⟨b0, 0, none⟩) q) := hLi.lp
    have ht1 : Hid ((q.take i).length = i) := by show _ = _; rw [List.length_take]; omega
    have i2 : (i : Int) ≤ (k1 : Int) := by omega
    have i3 : IntKind.i64.wrap ((i : Int) + 1) = (i : Int) + 1 := by rw [IntKind.wrap_i64]; omega
    have i4 : (0 : Int) ≤ (i : Int) + 1 := by omega
    have i5 : (i : Int) + 1 ≤ (q.length : Int) := by omega
    have i6 : ((i : Int) + 1).toNat = i + 1 := by omega
    have i7 : (i : Int).toNat = i := by omega
    by_cases hk : i + 1 = k1
    · subst hk
      have hz : q.length - (i + 1) = 0 := by omega
      have hbd := ((Below.refl w1.heap.size w1).alloc (Nat.le_refl _) (.cells #[.slice (some ⟨b0, 0, none⟩) i (i + 1), .slice (some ⟨b0, 0, none⟩) 0 0] 61)).drew
      have ht2 : Hid ((q.drop (i + 1)).length = 0) := by show _ = _; rw [List.length_drop]; omega
      have hL2 : Lp (w1.alloc (.cells #[.slice (some ⟨b0, 0, none⟩) i (i + 1), .slice (some ⟨b0, 0, none⟩) 0 0] 61)).drew (some ⟨b0, 0, none⟩) (q.drop (i + 1)) := fun h => by rw [List.length_drop] at h; omega
      go_wp2_with fail
      go_region_with (go_at_call 87; refine (concat' _ w1.heap.size i (0) (q.take i) (q.drop (i + 1)) ⟨b0, 0, none⟩ ⟨b0, 0, none⟩ (i + 1) (0) ht1.out ht2.out (by simp) (by simp) ((HP.out.take i).below hbd) (hL2) (by omega)).mono ?_; rintro e w5 ⟨a5, c5, m5, rfl, hm5, hown, hb5⟩; have e4 := (hb5.cell (p := ⟨p, 1, none⟩) (by simp; omega)).trans ((hbd.cell (p := ⟨p, 1, none⟩) lp1).trans d1); have e5 := (hb5.frozen (p := ⟨p, 1, none⟩) (by simp; omega)).trans ((hbd.frozen (p := ⟨p, 1, none⟩) lp1).trans e1))
      all_goals
        go_wp2_with fail
        go_ret2
        refine Or.inr ⟨i, a5, c5, by rw [← Hz.out]; rfl, hi, HT.out, HN.out, ?_⟩
        have hb5' : Below w1.heap.size w1 w5 := hbd.trans (hb5.mono (by simp))
        exact pop_end H.out hb2 hb5' (row_base hown.out (fun k e => by have := (row_lt hown.out k e).1; simp at this; omega)) hi (by have := hm5.out; omega)
    · have hk2 : ¬ k1 = i + 1 := fun e => hk e.symm
      have hbd := ((Below.refl w1.heap.size w1).alloc (Nat.le_refl _) (.cells #[.slice (some ⟨b0, 0, none⟩) i k1, .slice (some ⟨b0, (i + 1) * 2, none⟩) (q.length - (i + 1)) (k1 - (i + 1))] 61)).drew
      have ht2 : Hid ((q.drop (i + 1)).length = q.length - (i + 1)) := List.length_drop
      have hL0 := (HP.out.drop (i + 1)).below hbd
      rw [Nat.zero_add] at hL0
      have HL2 : Hid (Lp (w1.alloc (.cells #[.slice (some ⟨b0, 0, none⟩) i k1, .slice (some ⟨b0, (i + 1) * 2, none⟩) (q.length - (i + 1)) (k1 - (i + 1))] 61)).drew (some ⟨b0, (i + 1) * 2, none⟩) (q.drop (i + 1))) := hL0
      clear hL0
      go_wp2_with fail
      go_region_with (go_at_call 87; refine (concat' _ w1.heap.size i (q.length - (i + 1)) (q.take i) (q.drop (i + 1)) ⟨b0, 0, none⟩ ⟨b0, (i + 1) * 2, none⟩ k1 (k1 - (i + 1)) ht1.out ht2.out (by simp) (by simp) ((HP.out.take i).below hbd) (HL2.out) (by omega)).mono ?_; rintro e w5 ⟨a5, c5, m5, rfl, hm5, hown, hb5⟩; have e4 := (hb5.cell (p := ⟨p, 1, none⟩) (by simp; omega)).trans ((hbd.cell (p := ⟨p, 1, none⟩) lp1).trans d1); have e5 := (hb5.frozen (p := ⟨p, 1, none⟩) (by simp; omega)).trans ((hbd.frozen (p := ⟨p, 1, none⟩) lp1).trans e1))
      all_goals
        go_wp2_with fail
        go_ret2
        refine Or.inr ⟨i, a5, c5, by rw [← Hz.out]; rfl, hi, HT.out, HN.out, ?_⟩
        have hb5' : Below w1.heap.size w1 w5 := hbd.trans (hb5.mono (by simp))
        exact pop_end H.out hb2 hb5' (row_base hown.out (fun k e => by have := (row_lt hown.out k e).1; simp at this; omega)) hi (by have := hm5.out; omega)

end Go.Proofs.Ytjhnhbeimjnloaa

/- A grove in memory, by labels. -/
namespace Go.Proofs.Ytjhnhbeimjnloaa
open Go.RowKit W Kp Stl

def alb (T : List Tw1) (x : Int) : Bool := decide (0 ≤ x) && (decide (x.toNat < T.length) && !(T.getD x.toNat t0).2.2.2)
theorem alb_iff {T : List Tw1} {x : Int} : alb T x = true ↔ 0 ≤ x ∧ Alv T x.toNat := by
  unfold alb Alv
  simp
theorem alb_no {T : List Tw1} {x : Int} (h : ¬ (0 ≤ x ∧ Alv T x.toNat)) : alb T x = false := by
  cases e : alb T x
  · rfl
  · exact absurd (alb_iff.1 e) h
abbrev Fm := Nat → Option Addr × Nat
abbrev fsV (T : List Tw1) (fm : Fm) (i : Nat) : Value := .slice (fm i).1 (T.getD i t0).2.1.length (fm i).2
abbrev thV (T : List Tw1) (fm : Fm) (i : Nat) : Value := .agg #[.int .i64 (T.getD i t0).1, fsV T fm i]
def gvF (T : List Tw1) (fm : Fm) (x : Int) : Option Value := if alb T x = true then some (thV T fm x.toNat) else none
theorem gvF_yes {T : List Tw1} {fm : Fm} {x : Int} (h : 0 ≤ x ∧ Alv T x.toNat) : gvF T fm x = some (thV T fm x.toNat) := by
  unfold gvF
  rw [if_pos (alb_iff.2 h)]
theorem gvF_no {T : List Tw1} {fm : Fm} {x : Int} (h : ¬ (0 ≤ x ∧ Alv T x.toNat)) : gvF T fm x = none := by
  unfold gvF
  rw [alb_no h]
  rfl
structure Gl where
  own : Nat → Nat
  mb : Nat
  bp : Nat
  rb : Nat
  fm : Fm
  ag : Nat
  n : Nat
  a0 : Option Addr
  k0 : Nat
  a1 : Option Addr
  k1 : Nat

structure G2 (l : Gl) (T : List Tw1) (w : World) : Prop where
  mp : Mh w l.mb l.n (gvF T l.fm)
  mn : l.n ≤ T.length
  mo : l.own l.mb = 2
  fl : ∀ i, Alv T i → w.ownsRow 0 41 2 (fsV T l.fm i) (T.getD i t0).2.1.length (ev (T.getD i t0).2.1)
  fo : ∀ i, Alv T i → ∀ k, some k = (fsV T l.fm i).ownBlock → l.own k = 10 + i
  ag : ∀ i, Alv T i → (T.getD i t0).2.2.1 = decide (i < l.ag)
  al : l.ag ≤ T.length
structure G3 (l : Gl) (r q : List En) (w : World) : Prop where
  sd : Sds w l.bp l.a0 l.k0 l.a1 l.k1 r q
  so : l.own l.bp = 3
  ro : ∀ k, some k = (Value.slice l.a0 r.length l.k0).ownBlock → l.own k = 5
  qo : ∀ k, some k = (Value.slice l.a1 q.length l.k1).ownBlock → l.own k = 6
structure G4 (l : Gl) (rs : List (Int × Int)) (w : World) : Prop where
  rt : w.heap[l.rb]? = some (.cells (ev rs).toArray 41 (0, 0))
  rl : rs.length = 12
  ro : l.own l.rb = 4
structure Gvy (gp : Nat) (most grow : Int) (l : Gl) (s : Wrs) (w : World) : Prop where
  blk : w.heap[gp]? = some (.cells #[.int .i64 most, .int .i64 grow, .map (some l.mb), .int .i64 s.T.length, .int .i64 l.ag, .pointer (some ⟨l.bp, 0, none⟩), .slice (some ⟨l.rb, 0, none⟩) 12 12] 66 (0, 0))
  bo : l.own gp = 1
  g2 : G2 l s.T w
  g3 : G3 l s.rg s.wt w
  g4 : G4 l s.rs w
  lt : ∀ b, l.own b ≠ 0 → b < w.heap.size

section
variable {gp : Nat} {most grow : Int} {l : Gl} {s : Wrs} {w w' : World} {T : List Tw1} {r q : List En} {rs : List (Int × Int)}
theorem G2.keep (h : G2 l T w) (hk : ∀ b, l.own b = 2 ∨ 10 ≤ l.own b → w'.heap[b]? = w.heap[b]?) : G2 l T w' :=
  { h with
    mp := h.mp.same (hk _ (Or.inl h.mo))
    fl := fun i hi => row_keep (h.fl i hi) (fun k e => hk k (Or.inr (by rw [h.fo i hi k e]; omega))) }
theorem G3.keep (h : G3 l r q w) (hk : ∀ b, l.own b = 3 ∨ l.own b = 5 ∨ l.own b = 6 → w'.heap[b]? = w.heap[b]?) : G3 l r q w' :=
  { h with sd := h.sd.keep (hk _ (Or.inl h.so)) (fun k e => hk k (Or.inr (Or.inl (h.ro k e)))) (fun k e => hk k (Or.inr (Or.inr (h.qo k e)))) }
theorem G4.keep (h : G4 l rs w) (hk : ∀ b, l.own b = 4 → w'.heap[b]? = w.heap[b]?) : G4 l rs w' := { h with rt := (hk _ h.ro).trans h.rt }
theorem Gvy.keep (h : Gvy gp most grow l s w) (hs : w.heap.size ≤ w'.heap.size) (hk : ∀ b, l.own b ≠ 0 → w'.heap[b]? = w.heap[b]?) : Gvy gp most grow l s w' :=
  { blk := (hk _ (by rw [h.bo]; decide)).trans h.blk
    bo := h.bo
    g2 := h.g2.keep (fun b hb => hk b (by omega))
    g3 := h.g3.keep (fun b hb => hk b (by omega))
    g4 := h.g4.keep (fun b hb => hk b (by omega))
    lt := fun b hb => Nat.lt_of_lt_of_le (h.lt b hb) hs }
end

def grO (gp : Nat) (most grow : Int) (rb : Nat) : Ob Wrs where
  J F s w := ∃ l, Gvy gp most grow l s w ∧ l.rb = rb ∧ ∀ b, F b ↔ l.own b ≠ 0
  lt := by
    rintro F s w ⟨l, h, _, hF⟩ b hb
    exact h.lt b ((hF b).1 hb)
  keep := by
    rintro F s w w' ⟨l, h, hr, hF⟩ hs hk
    exact ⟨l, h.keep hs (fun b hb => hk b ((hF b).2 hb)), hr, hF⟩

section
variable {gp : Nat} {most grow : Int} {l : Gl} {F : Nat → Prop} {s : Wrs} {w w' : World}
theorem Gvy.below (h : Gvy gp most grow l s w) (hb : Below w.heap.size w w') : Gvy gp most grow l s w' := h.keep hb.size (fun b ho => hb.block b (h.lt b ho))
theorem Gvy.cells (h : Gvy gp most grow l s w) : w.cell? ⟨gp, 0, none⟩ = some (.int .i64 most) ∧ w.cell? ⟨gp, 1, none⟩ = some (.int .i64 grow) ∧ w.cell? ⟨gp, 2, none⟩ = some (.map (some l.mb)) ∧ w.cell? ⟨gp, 3, none⟩ = some (.int .i64 s.T.length) ∧ w.cell? ⟨gp, 4, none⟩ = some (.int .i64 l.ag) ∧
    w.cell? ⟨gp, 5, none⟩ = some (.pointer (some ⟨l.bp, 0, none⟩)) ∧ w.cell? ⟨gp, 6, none⟩ = some (.slice (some ⟨l.rb, 0, none⟩) 12 12) ∧ (∀ o, w.frozen? ⟨gp, o, none⟩ = false) ∧ gp < w.heap.size := by
  have h1 := h.blk
  refine ⟨?_, ?_, ?_, ?_, ?_, ?_, ?_, fun o => by simp [World.frozen?, h1], lt_of_some h1⟩ <;> simp [World.cell?, h1]
theorem Gvy.rbq {rb : Nat} (h : Gvy gp most grow l s w) (e : w.cell? ⟨gp, 6, none⟩ = some (.slice (some ⟨rb, 0, none⟩) 12 12)) : l.rb = rb := by
  have c := h.cells.2.2.2.2.2.2.1
  rw [e] at c
  cases c
  rfl
theorem G4.cells {rs : List (Int × Int)} (h : G4 l rs w) : l.rb < w.heap.size ∧ rs.length = 12 ∧
    (∀ i, i < 12 → w.cell? ⟨l.rb, i * 2, none⟩ = some (.int .i64 (rs.getD i (0, 0)).1) ∧ w.cell? ⟨l.rb, i * 2 + 1, none⟩ = some (.int .i64 (rs.getD i (0, 0)).2) ∧ w.frozen? ⟨l.rb, i * 2, none⟩ = false ∧ w.frozen? ⟨l.rb, i * 2 + 1, none⟩ = false) := by
  have h2 := h.rt
  have hl := h.rl
  refine ⟨lt_of_some h2, hl, fun i hi => ?_⟩
  obtain ⟨e1, e2⟩ := ev_get rs i (by omega)
  refine ⟨?_, ?_, by simp [World.frozen?, h2], by simp [World.frozen?, h2]⟩
  · simp [World.cell?, h2]
    simpa using e1
  · simp [World.cell?, h2]
    simpa using e2
end

end Go.Proofs.Ytjhnhbeimjnloaa

/- A grove in memory: find, isGuardian, fields, get, length, same: contracts. -/
namespace Go.Proofs.Ytjhnhbeimjnloaa
open Go.RowKit W Kp Stl

theorem zeroTh (w : World) : (zeroValue 80).run Try.prog w = .ok (.agg #[.int .i64 0, .slice none 0 0]) w := by
  kernel_rfl

theorem alloc_snd (w : World) (a o : Obj) : ((w.alloc a).alloc o).heap[w.heap.size + 1]? = some o := by
  have h := heap_alloc_new (w.alloc a) o
  rwa [show (w.alloc a).heap.size = w.heap.size + 1 by simp] at h
theorem two_cells {w : World} {p : Nat} {a b : Value} {T : TypeId} (h : w.heap[p]? = some (.cells #[a, b] T (0, 0))) : w.cell? ⟨p, 0, none⟩ = some a ∧ w.cell? ⟨p, 1, none⟩ = some b ∧ (∀ o, w.frozen? ⟨p, o, none⟩ = false) ∧ p < w.heap.size :=
  ⟨by simp [World.cell?, h], by simp [World.cell?, h], fun o => by simp [World.frozen?, h], lt_of_some h⟩

section
variable {gp : Nat} {most grow : Int} {l : Gl} {s : Wrs} {w : World}

set_option maxRecDepth 100000 in
set_option maxHeartbeats 2000000 in
theorem find_no (v : Int × Int) (hv : v.1 ≠ 3) :
    Calls Try.prog 39 #[.pointer (some ⟨gp, 0, none⟩), .agg #[.int .i64 v.1, .int .i64 v.2]] w fun e w' => e = .returned (.tuple #[.agg #[.int .i64 0, .slice none 0 0], .bool false]) ∧ Below w.heap.size w w' := by
  obtain ⟨k, x⟩ := v
  dsimp only at hv ⊢
  go_enter Try.func39, Try.ntmps39
  go_wp2_with fail
  exact bodyPost_ret (v := .tuple #[.agg #[.int .i64 0, .slice none 0 0], .bool false]) (by simp [results, Try.results39, go_sem]) rfl ⟨rfl, ((Below.refl _ _).alloc (Nat.le_refl _) _).alloc (by simp) _⟩

set_option maxRecDepth 100000 in
set_option maxHeartbeats 2000000 in
theorem find_yes (h : Gvy gp most grow l s w) (x : Int) (hx : 0 ≤ x ∧ Alv s.T x.toNat) (hT : s.T.length ≤ 10000) :
    Calls Try.prog 39 #[.pointer (some ⟨gp, 0, none⟩), .agg #[.int .i64 3, .int .i64 x]] w fun e w' => e = .returned (.tuple #[thV s.T l.fm x.toNat, .bool true]) ∧ Below w.heap.size w w' := by
  obtain ⟨_, _, c2, _, _, _, _, _, lg⟩ := h.cells
  have hl : x < 10000 := by have := hx.2.1; omega
  have L : ∀ W, Below w.heap.size w W → (Instr.lookup 59 (.map (some l.mb)) (.int .i64 x) true).run Try.prog W = .ok (.tuple #[thV s.T l.fm x.toNat, .bool true]) W := fun W hb => by
    have := (h.below hb).g2.mp.look_ok (t := 59) (e := 80) Try.underlying59 (zeroTh W) (x := x) hx.1 (by omega)
    rw [gvF_yes hx] at this
    exact this
  have b1 : Below w.heap.size w ((w.alloc (.cells #[.int .i64 3, .int .i64 x] 41)).alloc (.cells #[.int .i64 0, .slice none 0 0] 80)) := ((Below.refl _ _).alloc (Nat.le_refl _) _).alloc (by simp) _
  have d2 := (b1.cell (p := ⟨gp, 2, none⟩) lg).trans c2
  have d1 : ((w.alloc (.cells #[.int .i64 3, .int .i64 x] 41)).alloc (.cells #[.int .i64 0, .slice none 0 0] 80)).cell? ⟨w.heap.size, 1, none⟩ = some (.int .i64 x) := by simp [go_sem]
  have hn := alloc_snd w (.cells #[.int .i64 3, .int .i64 x] 41) (.cells #[.int .i64 0, .slice none 0 0] 80)
  clear h hT
  dsimp only [thV, fsV] at L ⊢
  generalize (s.T.getD x.toNat t0).1 = kd at *
  generalize (s.T.getD x.toNat t0).2.1.length = n at *
  generalize (l.fm x.toNat).1 = ad at *
  generalize (l.fm x.toNat).2 = cp at *
  clear hx
  go_enter Try.func39, Try.ntmps39
  go_wp2_with fail
  generalize (w.alloc (.cells #[.int .i64 3, .int .i64 x] 41)).alloc (.cells #[.int .i64 0, .slice none 0 0] 80) = W at *
  obtain ⟨e0, e1, f0, lw⟩ := two_cells hn
  have HN : Hid (_ = _) := hn
  have HB : Hid (Below w.heap.size w W) := b1
  have L1 := L _ b1.drew
  have L2 := L _ (b1.alloc b1.size (.cells #[.int .i64 0, .slice none 0 0] 80)).drew
  clear L b1 hn
  go_region_held3 (fun w' => w'.cell? ⟨gp, 2, none⟩ = some (.map (some l.mb)) ∧ w'.cell? ⟨w.heap.size, 1, none⟩ = some (.int .i64 x)) (go_keep) (fail)
  all_goals
    clear L1 L2
    go_wp2_with fail
    have hs := HB.out.size
    obtain ⟨r0, r1, _, _⟩ := two_cells ((Below.heap_alloc _ (.cells #[.int .i64 kd, .slice ad n cp] 80) _ (by simpa using lw)).trans (set_two (v1 := .int .i64 kd) (v2 := .slice ad n cp) HN.out))
    exact bodyPost_ret (v := .tuple #[.agg #[.int .i64 kd, .slice ad n cp], .bool true]) (by simp [results, Try.results39, go_sem, r0, r1]) rfl ⟨rfl, (((HB.out.setCell (by simp) _).setCell (by simp) _).alloc (by simpa using hs) _).drew⟩

set_option maxRecDepth 100000 in
set_option maxHeartbeats 2000000 in
theorem isGuardianG_any (h : Gvy gp most grow l s w) (v : Int × Int) (hv : v.1 = 3 → 0 ≤ v.2 ∧ Alv s.T v.2.toNat) (hT : s.T.length ≤ 10000) :
    Calls Try.prog 40 #[.pointer (some ⟨gp, 0, none⟩), .agg #[.int .i64 v.1, .int .i64 v.2]] w fun e w' => e = .returned (.bool (gdb s.T v)) ∧ Below w.heap.size w w' := by
  obtain ⟨k, x⟩ := v
  by_cases h3 : k = 3
  · subst h3
    have P := find_yes (h.below ((Below.refl _ w).alloc (Nat.le_refl _) (.cells #[.int .i64 3, .int .i64 x] 41))) x (hv rfl) hT
    have e : gdb s.T (3, x) = decide ((s.T.getD x.toNat t0).1 = 5) := by unfold gdb; rw [Bool.eq_iff_iff]; simp
    rw [e]
    clear h hv hT e
    dsimp only [thV, fsV] at P ⊢
    generalize (s.T.getD x.toNat t0).1 = kd at *
    generalize (s.T.getD x.toNat t0).2.1.length = n at *
    generalize (l.fm x.toNat).1 = ad at *
    generalize (l.fm x.toNat).2 = cp at *
    go_enter Try.func40, Try.ntmps40
    go_wp2_with fail
    refine P.mono ?_
    clear P
    rintro e w1 ⟨rfl, hb⟩
    have HB : Hid (Below w.heap.size w w1) := ((Below.refl _ w).alloc (Nat.le_refl _) _).trans (hb.mono (by simp))
    clear hb
    go_wp2_with fail
    go_ret
    exact ⟨rfl, HB.out.alloc HB.out.size _⟩
  · have P := find_no (gp := gp) (w := w.alloc (.cells #[.int .i64 k, .int .i64 x] 41)) (k, x) h3
    have e : gdb s.T (k, x) = false := by unfold gdb; simp [h3]
    rw [e]
    clear h hv hT e
    go_enter Try.func40, Try.ntmps40
    go_wp2_with fail
    refine P.mono ?_
    clear P
    rintro e w1 ⟨rfl, hb⟩
    have HB : Hid (Below w.heap.size w w1) := ((Below.refl _ w).alloc (Nat.le_refl _) _).trans (hb.mono (by simp))
    clear hb
    go_wp2_with fail
    go_ret
    exact ⟨rfl, HB.out.alloc HB.out.size _⟩

set_option maxRecDepth 100000 in
set_option maxHeartbeats 2000000 in
theorem fieldsG_no (h : Gvy gp most grow l s w) (v : Int × Int) (hv : v.1 = 3 → 0 ≤ v.2 ∧ Alv s.T v.2.toNat) (hT : s.T.length ≤ 10000) (hk : v.1 = 3 → (s.T.getD v.2.toNat t0).1 = 5) :
    Calls Try.prog 62 #[.pointer (some ⟨gp, 0, none⟩), .agg #[.int .i64 v.1, .int .i64 v.2]] w fun e w' => e = .returned (.tuple #[.slice none 0 0, .int .i64 2]) ∧ Below w.heap.size w w' := by
  obtain ⟨k, x⟩ := v
  by_cases h3 : k = 3
  · subst h3
    have P := find_yes (h.below ((Below.refl _ w).alloc (Nat.le_refl _) (.cells #[.int .i64 3, .int .i64 x] 41))) x (hv rfl) hT
    have hk := hk rfl
    clear h hv hT
    dsimp only [thV, fsV] at P hk ⊢
    rw [hk] at P
    clear hk
    generalize (s.T.getD x.toNat t0).2.1.length = n at *
    generalize (l.fm x.toNat).1 = ad at *
    generalize (l.fm x.toNat).2 = cp at *
    go_enter Try.func62, Try.ntmps62
    go_wp2_with fail
    refine P.mono ?_
    clear P
    rintro e w1 ⟨rfl, hb⟩
    have HB : Hid (Below w.heap.size w w1) := ((Below.refl _ w).alloc (Nat.le_refl _) _).trans (hb.mono (by simp))
    clear hb
    go_wp2_with fail
    go_ret2
    exact ⟨rfl, HB.out.alloc HB.out.size _⟩
  · have P := find_no (gp := gp) (w := w.alloc (.cells #[.int .i64 k, .int .i64 x] 41)) (k, x) h3
    clear h hv hT hk
    go_enter Try.func62, Try.ntmps62
    go_wp2_with fail
    refine P.mono ?_
    clear P
    rintro e w1 ⟨rfl, hb⟩
    have HB : Hid (Below w.heap.size w w1) := ((Below.refl _ w).alloc (Nat.le_refl _) _).trans (hb.mono (by simp))
    clear hb
    go_wp2_with fail
    go_ret2
    exact ⟨rfl, HB.out.alloc HB.out.size _⟩

set_option maxRecDepth 100000 in
set_option maxHeartbeats 2000000 in
theorem fieldsG_yes (h : Gvy gp most grow l s w) (x : Int) (hv : 0 ≤ x ∧ Alv s.T x.toNat) (hT : s.T.length ≤ 10000) (hk : (s.T.getD x.toNat t0).1 ≠ 5) :
    Calls Try.prog 62 #[.pointer (some ⟨gp, 0, none⟩), .agg #[.int .i64 3, .int .i64 x]] w fun e w' => e = .returned (.tuple #[fsV s.T l.fm x.toNat, .int .i64 0]) ∧ Below w.heap.size w w' := by
  have P := find_yes (h.below ((Below.refl _ w).alloc (Nat.le_refl _) (.cells #[.int .i64 3, .int .i64 x] 41))) x hv hT
  clear h hv hT
  dsimp only [thV, fsV] at P hk ⊢
  generalize (s.T.getD x.toNat t0).1 = kd at *
  generalize (s.T.getD x.toNat t0).2.1.length = n at *
  generalize (l.fm x.toNat).1 = ad at *
  generalize (l.fm x.toNat).2 = cp at *
  go_enter Try.func62, Try.ntmps62
  go_wp2_with fail
  refine P.mono ?_
  clear P
  rintro e w1 ⟨rfl, hb⟩
  have HB : Hid (Below w.heap.size w w1) := ((Below.refl _ w).alloc (Nat.le_refl _) _).trans (hb.mono (by simp))
  clear hb
  go_wp2_with fail
  go_ret2
  exact ⟨rfl, HB.out.alloc HB.out.size _⟩

set_option maxRecDepth 100000 in
set_option maxHeartbeats 2000000 in
theorem getG_no2 (h : Gvy gp most grow l s w) (v : Int × Int) (i : Int) (hv : v.1 = 3 → 0 ≤ v.2 ∧ Alv s.T v.2.toNat) (hT : s.T.length ≤ 10000) (hk : v.1 = 3 → (s.T.getD v.2.toNat t0).1 = 5) :
    Calls Try.prog 42 #[.pointer (some ⟨gp, 0, none⟩), .agg #[.int .i64 v.1, .int .i64 v.2], .int .i64 i] w fun e w' => e = .returned (.tuple #[.agg #[.int .i64 0, .int .i64 0], .int .i64 2]) ∧ Below w.heap.size w w' := by
  obtain ⟨k, x⟩ := v
  have b1 : Below w.heap.size w ((w.alloc (.cells #[.int .i64 k, .int .i64 x] 41)).alloc (.cells #[.int .i64 0, .int .i64 0] 41)) := ((Below.refl _ _).alloc (Nat.le_refl _) _).alloc (by simp) _
  have P := fieldsG_no (h.below b1) (k, x) hv hT hk
  clear h hv hT hk
  go_enter Try.func42, Try.ntmps42
  go_wp2_with fail
  refine P.mono ?_
  clear P
  rintro e w1 ⟨rfl, hb⟩
  have hq := (hb.block (w.heap.size + 1) (by simp)).trans (alloc_snd w (.cells #[.int .i64 k, .int .i64 x] 41) (.cells #[.int .i64 0, .int .i64 0] 41))
  obtain ⟨e0, e1, f0, lw⟩ := two_cells hq
  have HN : Hid (_ = _) := hq
  have HB : Hid (Below w.heap.size w w1) := b1.trans (hb.mono (by simp; omega))
  clear hb b1 hq
  go_wp2_with fail
  obtain ⟨r0, r1, _, _⟩ := two_cells (set_two (v1 := .int .i64 0) (v2 := .int .i64 0) HN.out)
  exact bodyPost_ret (v := .tuple #[.agg #[.int .i64 0, .int .i64 0], .int .i64 2]) (by simp [results, Try.results42, go_sem, r0, r1]) rfl ⟨rfl, (HB.out.setCell (by simp) _).setCell (by simp) _⟩

set_option maxRecDepth 100000 in
set_option maxHeartbeats 2000000 in
theorem getG_no1 (h : Gvy gp most grow l s w) (x i : Int) (hv : 0 ≤ x ∧ Alv s.T x.toNat) (hT : s.T.length ≤ 10000) (hk : (s.T.getD x.toNat t0).1 ≠ 5) (hi : i < 0 ∨ ((s.T.getD x.toNat t0).2.1.length : Int) ≤ i) :
    Calls Try.prog 42 #[.pointer (some ⟨gp, 0, none⟩), .agg #[.int .i64 3, .int .i64 x], .int .i64 i] w fun e w' => e = .returned (.tuple #[.agg #[.int .i64 0, .int .i64 0], .int .i64 1]) ∧ Below w.heap.size w w' := by
  have b1 : Below w.heap.size w ((w.alloc (.cells #[.int .i64 3, .int .i64 x] 41)).alloc (.cells #[.int .i64 0, .int .i64 0] 41)) := ((Below.refl _ _).alloc (Nat.le_refl _) _).alloc (by simp) _
  have P := fieldsG_yes (h.below b1) x hv hT hk
  clear h hv hT hk
  dsimp only [fsV] at P
  generalize (s.T.getD x.toNat t0).2.1.length = n at *
  generalize (l.fm x.toNat).1 = ad at *
  generalize (l.fm x.toNat).2 = cp at *
  by_cases h0 : i < 0
  all_goals
    first
      | (have hin : (n : Int) ≤ i := by omega)
      | skip
    go_enter Try.func42, Try.ntmps42
    go_wp2_with fail
    refine P.mono ?_
    clear P
    rintro e w1 ⟨rfl, hb⟩
    have hq := (hb.block (w.heap.size + 1) (by simp)).trans (alloc_snd w (.cells #[.int .i64 3, .int .i64 x] 41) (.cells #[.int .i64 0, .int .i64 0] 41))
    obtain ⟨e0, e1, f0, lw⟩ := two_cells hq
    have HN : Hid (_ = _) := hq
    have HB : Hid (Below w.heap.size w w1) := b1.trans (hb.mono (by simp; omega))
    clear hb b1 hq hi
    go_wp2_with fail
    obtain ⟨r0, r1, _, _⟩ := two_cells (set_two (v1 := .int .i64 0) (v2 := .int .i64 0) HN.out)
    exact bodyPost_ret (v := .tuple #[.agg #[.int .i64 0, .int .i64 0], .int .i64 1]) (by simp [results, Try.results42, go_sem, r0, r1]) rfl ⟨rfl, (HB.out.setCell (by simp) _).setCell (by simp) _⟩

set_option maxRecDepth 100000 in
set_option maxHeartbeats 2000000 in
theorem getG_yes (h : Gvy gp most grow l s w) (x : Int) (i : Nat) (hv : 0 ≤ x ∧ Alv s.T x.toNat) (hT : s.T.length ≤ 10000) (hk : (s.T.getD x.toNat t0).1 ≠ 5) (hi : i < (s.T.getD x.toNat t0).2.1.length) :
    Calls Try.prog 42 #[.pointer (some ⟨gp, 0, none⟩), .agg #[.int .i64 3, .int .i64 x], .int .i64 i] w fun e w' => e = .returned (.tuple #[.agg #[.int .i64 ((s.T.getD x.toNat t0).2.1.getD i (0, 0)).1, .int .i64 ((s.T.getD x.toNat t0).2.1.getD i (0, 0)).2], .int .i64 0]) ∧ Below w.heap.size w w' := by
  have b1 : Below w.heap.size w ((w.alloc (.cells #[.int .i64 3, .int .i64 x] 41)).alloc (.cells #[.int .i64 0, .int .i64 0] 41)) := ((Below.refl _ _).alloc (Nat.le_refl _) _).alloc (by simp) _
  have P := fieldsG_yes (h.below b1) x hv hT hk
  have hlp := row_pairs (h.g2.fl _ hv.2)
  obtain ⟨b, o, ead, lb, hcl⟩ := hlp (by omega)
  have hc := hcl i hi
  clear h hv hT hk hcl
  dsimp only [fsV] at P
  rw [ead] at P
  generalize (s.T.getD x.toNat t0).2.1.getD i (0, 0) = y at *
  generalize (s.T.getD x.toNat t0).2.1.length = n at *
  generalize (l.fm x.toNat).2 = cp at *
  clear ead
  go_enter Try.func42, Try.ntmps42
  go_wp2_with fail
  refine P.mono ?_
  clear P
  rintro e w1 ⟨rfl, hb⟩
  have hq := (hb.block (w.heap.size + 1) (by simp)).trans (alloc_snd w (.cells #[.int .i64 3, .int .i64 x] 41) (.cells #[.int .i64 0, .int .i64 0] 41))
  obtain ⟨e0, e1, f0, lw⟩ := two_cells hq
  have HN : Hid (_ = _) := hq
  have HB : Hid (Below w.heap.size w w1) := b1.trans (hb.mono (by simp; omega))
  have g0 := (HB.out.cell (p := ⟨b, o + i * 2, none⟩) lb).trans hc.1
  have g1 := (HB.out.cell (p := ⟨b, o + i * 2 + 1, none⟩) lb).trans hc.2
  clear hb b1 hq hc
  go_wp2_with fail
  obtain ⟨r0, r1, _, _⟩ := two_cells (set_two (v1 := .int .i64 y.1) (v2 := .int .i64 y.2) HN.out)
  exact bodyPost_ret (v := .tuple #[.agg #[.int .i64 y.1, .int .i64 y.2], .int .i64 0]) (by simp [results, Try.results42, go_sem, r0, r1]) rfl ⟨rfl, (HB.out.setCell (by simp) _).setCell (by simp) _⟩

set_option maxRecDepth 100000 in
set_option maxHeartbeats 1000000 in
theorem intValue_any (x : Int) (w : World) : Calls Try.prog 45 #[.int .i64 x] w fun e w' => e = .returned (.agg #[.int .i64 1, .int .i64 x]) ∧ Below w.heap.size w w' := by
  go_enter Try.func45, Try.ntmps45
  go_wp2_with fail
  exact bodyPost_ret (v := .agg #[.int .i64 1, .int .i64 x]) (by simp [results, Try.results45, go_sem]) rfl ⟨rfl, (Below.refl _ _).alloc (Nat.le_refl _) _⟩
set_option maxRecDepth 100000 in
set_option maxHeartbeats 1000000 in
theorem refValue_any (x : Int) (w : World) : Calls Try.prog 69 #[.int .i64 x] w fun e w' => e = .returned (.agg #[.int .i64 3, .int .i64 x]) ∧ Below w.heap.size w w' := by
  go_enter Try.func69, Try.ntmps69
  go_wp2_with fail
  exact bodyPost_ret (v := .agg #[.int .i64 3, .int .i64 x]) (by simp [results, Try.results69, go_sem]) rfl ⟨rfl, (Below.refl _ _).alloc (Nat.le_refl _) _⟩
end

end Go.Proofs.Ytjhnhbeimjnloaa
