/- Joined: Gk3, OpenZ. -/
import Derived.Test.YtjhnhbeimjnloaaJ22
import Derived.Test.YtjhnhbeimjnloaaJ02
import Derived.Lib.SmallJoins
/- GroveWeak: its steps, one behind the other: lists alone. -/
namespace Go.Proofs.Ytjhnhbeimjnloaa
open Go.RowKit W Kp Stl

section
variable {s s2 : Wrs} {j : Nat} {g : Gfn} {most grow : Int}

theorem dos_grow {k R A B kd : Int} (hk : k = 4 ∧ kd = 1 ∨ k = 6 ∧ kd = 3) (hc : ckC k R A B 0 = 0) (e : s.dos g most grow k R A B 0 0 = (0, s2)) :
    s2 = { ((s.room g most grow (1 + 2)).2.put kd [s.rs.getD A.toNat (0, 0), s.rs.getD B.toNat (0, 0)]) with rs := (s.room g most grow (1 + 2)).2.rs.set R.toNat (3, ((s.room g most grow (1 + 2)).2.T.length : Int)) } := by
  have e1 : s.rt g most grow k A.toNat B.toNat 0 0 = s.grow g most grow kd [s.rs.getD A.toNat (0, 0), s.rs.getD B.toNat (0, 0)] := by
    rcases hk with ⟨rfl, rfl⟩ | ⟨rfl, rfl⟩ <;> simp [Wrs.rt]
  have n9 : k ≠ 9 := by rcases hk with ⟨rfl, _⟩ | ⟨rfl, _⟩ <;> decide
  have n12 : k ≠ 12 := by rcases hk with ⟨rfl, _⟩ | ⟨rfl, _⟩ <;> decide
  have n15 : k ≠ 15 := by rcases hk with ⟨rfl, _⟩ | ⟨rfl, _⟩ <;> decide
  have n16 : k ≠ 16 := by rcases hk with ⟨rfl, _⟩ | ⟨rfl, _⟩ <;> decide
  have e2 : s.grow g most grow kd [s.rs.getD A.toNat (0, 0), s.rs.getD B.toNat (0, 0)] = if (s.room g most grow (1 + 2)).1 = 0 then ((3, ((s.room g most grow (1 + 2)).2.T.length : Int)), 0, (s.room g most grow (1 + 2)).2.put kd [s.rs.getD A.toNat (0, 0), s.rs.getD B.toNat (0, 0)]) else ((0, 0), (s.room g most grow (1 + 2)).1, (s.room g most grow (1 + 2)).2) := rfl
  by_cases c : (s.room g most grow (1 + 2)).1 = 0
  · rw [if_pos c] at e2
    rw [dos_yes hc n9 n12 n15 n16 (e1.trans e2)] at e
    exact (congrArg Prod.snd e).symm
  · rw [if_neg c] at e2
    rw [dos_no hc n9 n12 n15 n16 (e1.trans e2) c] at e
    exact absurd (congrArg Prod.fst e) c
theorem pair_step (hi : Gi s j) (hj : j ≤ 9000) (hg : ∀ T wt, Wiv T wt → Gok T wt (g T wt)) {R : Nat} (hR : R < 12) {x : Int} (h0 : s.rs.getD 0 (0, 0) = (1, x)) (hc : ckC 4 R 0 0 0 = 0) (e : s.dos g most grow 4 R 0 0 0 0 = (0, s2)) :
    (∃ i, On i R x s2) ∧ ∀ a Q y, Q ≠ R → On a Q y s → On a Q y s2 := by
  have e1 := dos_grow (Or.inl ⟨rfl, rfl⟩) hc e
  have hG := hg _ _ hi.iv
  have hr := hi.room (by omega) hG (most := most) (grow := grow) (1 + 2)
  have hO : ∀ a Q y, On a Q y s → On a Q y (s.room g most grow (1 + 2)).2 := fun a Q y h => h.room hi (by omega) hG _ _ _
  rw [show Int.toNat 0 = 0 from rfl, h0, Int.toNat_natCast] at e1
  generalize (s.room g most grow (1 + 2)).2 = u at *
  rw [e1]
  refine ⟨⟨_, On.new hr hR⟩, fun a Q y hq h => ?_⟩
  have h1 := (hO a Q y h).put (kd := 1) (fl := [(1, x), (1, x)]) (fun v hv => by
    have : v = (1, x) := by simpa using hv
    rw [this]
    simp)
  have hl := (hO a Q y h).al.1
  exact h1.root (Q := R) (fun e => hq e.symm) (v := (3, (u.T.length : Int))) (fun e => by
    have : (u.T.length : Int) = (a : Int) := congrArg Prod.snd e
    omega)
theorem int_step {x : Int} (hc : ckC 1 0 0 0 x = 0) (e : s.dos g most grow 1 0 0 0 0 x = (0, s2)) : s2 = { s with rs := s.rs.set 0 (1, x) } := by
  rw [dos_yes (v := (1, x)) (s2 := s) hc (by decide) (by decide) (by decide) (by decide) rfl] at e
  exact (congrArg Prod.snd e).symm
theorem nil_step {R : Nat} (hc : ckC 2 R 0 0 0 = 0) (e : s.dos g most grow 2 R 0 0 0 0 = (0, s2)) : s2 = { s with rs := s.rs.set R (0, 0) } := by
  rw [dos_yes (v := (0, 0)) (s2 := s) hc (by decide) (by decide) (by decide) (by decide) rfl] at e
  exact (congrArg Prod.snd e).symm
end

theorem weak_chain {k : Bool} {s0 s1 s2 s3 s4 s5 s6 s7 s8 : Wrs} {j : Nat} {g : Gfn} {most grow : Int} (hi : Gi s0 j) (hj : j ≤ 8000) (hg : ∀ T wt, Wiv T wt → Gok T wt (g T wt))
    (e1 : s0.dos g most grow 1 0 0 0 0 5 = (0, s1)) (e2 : s1.dos g most grow 4 1 0 0 0 0 = (0, s2)) (e3 : s2.dos g most grow 1 0 0 0 0 6 = (0, s3)) (e4 : s3.dos g most grow 4 2 0 0 0 0 = (0, s4)) (e5 : s4.dos g most grow 6 3 1 2 0 0 = (0, s5))
    (e6 : if k then s6 = s5 else s5.dos g most grow 2 1 0 0 0 0 = (0, s6)) (e7 : s6.dos g most grow 2 2 0 0 0 0 = (0, s7)) (e8 : s7.dos g most grow 16 0 0 0 0 0 = (0, s8)) : ∃ a b c, Wk3 k a b c s8 := by
  have st : ∀ {s s' : Wrs} {j : Nat} {k R A B I n : Int}, Gi s j → j ≤ 9000 → s.dos g most grow k R A B I n = (0, s') → Gi s' (j + 1) := fun {s s' j k R A B I n} h hj e => by
    have := h.dos (by omega) (hg _ _ h.iv) k R A B I n (most := most) (grow := grow)
    rwa [e] at this
  have i1 := st hi (by omega) e1
  have i2 := st i1 (by omega) e2
  have i3 := st i2 (by omega) e3
  have i4 := st i3 (by omega) e4
  have i5 := st i4 (by omega) e5
  have x1 := int_step (by decide) e1
  have z1 : s1.rs.getD 0 (0, 0) = (1, 5) := by rw [x1]; dsimp only; rw [getD_sets, if_pos ⟨rfl, by rw [hi.rl]; decide⟩]
  obtain ⟨⟨a, ha2⟩, _⟩ := pair_step i1 (by omega) hg (R := 1) (by decide) z1 (by decide) e2
  have x3 := int_step (by decide) e3
  have z3 : s3.rs.getD 0 (0, 0) = (1, 6) := by rw [x3]; dsimp only; rw [getD_sets, if_pos ⟨rfl, by rw [i2.rl]; decide⟩]
  have ha3 : On a 1 5 s3 := by
    rw [x3]
    exact ha2.root (by decide) (by simp)
  obtain ⟨⟨b, hb4⟩, hk⟩ := pair_step i3 (by omega) hg (R := 2) (by decide) z3 (by decide) e4
  have ha4 := hk a 1 5 (by decide) ha3
  have x5 := dos_grow (A := 1) (B := 2) (R := 3) (Or.inr ⟨rfl, rfl⟩) (by decide) e5
  have hG := hg _ _ i4.iv
  have hr := i4.room (by omega) hG (most := most) (grow := grow) (1 + 2)
  have oa := ha4.room i4 (by omega) hG most grow (1 + 2)
  have ob := hb4.room i4 (by omega) hG most grow (1 + 2)
  rw [show Int.toNat 1 = 1 from rfl, show Int.toNat 2 = 2 from rfl, show Int.toNat 3 = 3 from rfl, ha4.rt, hb4.rt] at x5
  have hs := room_rts g most grow s4 (1 + 2)
  generalize (s4.room g most grow (1 + 2)).2 = u at *
  have ne : a ≠ b := fun e => oa.ro 2 (by decide) (by rw [e]; exact ob.rt)
  have av := alv_snoc u.T 3 [(3, (a : Int)), (3, (b : Int))]
  have la := oa.al.1
  have lb := ob.al.1
  have gt : ∀ q, q < u.T.length → (u.T ++ [(3, [(3, (a : Int)), (3, (b : Int))], false, false)]).getD q t0 = u.T.getD q t0 := fun q hq => by rw [getD_snoc, if_neg (by omega)]
  have ge : (u.T ++ [(3, [(3, (a : Int)), (3, (b : Int))], false, false)]).getD u.T.length t0 = (3, [(3, (a : Int)), (3, (b : Int))], false, false) := by rw [getD_snoc, if_pos rfl]
  have x6 : s6 = { s5 with rs := if k then s5.rs else s5.rs.set 1 (0, 0) } := by
    cases k
    · exact nil_step (R := 1) (by decide) e6
    · exact e6
  have i6 : Gi s6 (j + 1 + 1 + 1 + 1 + 1 + 1) := by
    cases k
    · exact st i5 (by omega) e6
    · have e6 : s6 = s5 := e6
      rw [e6]
      exact i5.more (by omega)
  have i7 := st i6 (by omega) e7
  have x7 := nil_step (R := 2) (by decide) e7
  have w7 : Wk2 k a b u.T.length s7 := by
    have hT : s7.T = u.T ++ [(3, [(3, (a : Int)), (3, (b : Int))], false, false)] := by rw [x7, x6, x5]; rfl
    have hrg : s7.rg = u.rg := by rw [x7, x6, x5]; rfl
    have hwt : s7.wt = u.wt := by rw [x7, x6, x5]; rfl
    have hrs : s7.rs = ((if k then u.rs.set 3 (3, (u.T.length : Int)) else (u.rs.set 3 (3, (u.T.length : Int))).set 1 (0, 0))).set 2 (0, 0) := by rw [x7, x6, x5]
    have l12 : u.rs.length = 12 := hr.rl
    have r3 : s7.rs.getD 3 (0, 0) = (3, (u.T.length : Int)) := by
      rw [hrs, getD_sets, if_neg (by simp)]
      cases k
      · show ((u.rs.set 3 (3, (u.T.length : Int))).set 1 (0, 0)).getD 3 (0, 0) = _
        rw [getD_sets, if_neg (by simp), getD_sets, if_pos ⟨rfl, by omega⟩]
      · show (u.rs.set 3 (3, (u.T.length : Int))).getD 3 (0, 0) = _
        rw [getD_sets, if_pos ⟨rfl, by omega⟩]
    refine { aa := ?_, ab := ?_, ac := ?_, ne := ne, r3 := r3, r1 := fun e => ?_, no := fun e => ⟨fun v hv => ?_, fun q hq hc v hv => ?_, fun x hx => ?_, fun x hx => ?_⟩ }
    · rw [hT, gt a la]
      exact ⟨(av a).2 (Or.inl oa.al), oa.kd, oa.fs⟩
    · rw [hT, gt b lb]
      exact ⟨(av b).2 (Or.inl ob.al), ob.kd, ob.fs⟩
    · rw [hT, ge]
      exact ⟨(av _).2 (Or.inr rfl), rfl, rfl⟩
    · subst e
      rw [hrs, getD_sets, if_neg (by simp)]
      show (u.rs.set 3 (3, (u.T.length : Int))).getD 1 (0, 0) = _
      rw [getD_sets, if_neg (by simp)]
      exact oa.rt
    · subst e
      obtain ⟨q, hq, eq⟩ := List.mem_iff_getElem.1 hv
      have ed : s7.rs.getD q (0, 0) = v := by rw [List.getD_eq_getElem?_getD, List.getElem?_eq_getElem hq, eq]; rfl
      have hrs : s7.rs = ((u.rs.set 3 (3, (u.T.length : Int))).set 1 (0, 0)).set 2 (0, 0) := hrs
      rw [hrs, getD_sets] at ed
      split at ed
      · rw [← ed]
        simp
      · rw [getD_sets] at ed
        split at ed
        · rw [← ed]
          simp
        · rename_i c1
          rw [getD_sets] at ed
          split at ed
          · rw [← ed]
            intro e
            have : (u.T.length : Int) = (a : Int) := congrArg Prod.snd e
            omega
          · rw [← ed]
            refine oa.ro q (fun e => c1 ⟨e.symm, by rw [List.length_set]; omega⟩)
    · rw [hT] at hq hv
      rcases (av q).1 hq with hq | hq
      · rw [gt q hq.1] at hv
        exact oa.ff q hq v hv
      · exact absurd hq hc
    · rw [hrg] at hx
      exact oa.eg x hx
    · rw [hwt] at hx
      exact oa.ew x hx
  have e9 : s7.dos g most grow 16 0 0 0 0 0 = (s7.ccd (g s7.T s7.wt) grow true, s7.cut (g s7.T s7.wt) grow true) := by
    unfold Wrs.dos
    rw [if_pos (by decide), if_neg (by decide), if_neg (by decide), if_neg (by decide), if_pos rfl]
  rw [e9] at e8
  have hcd : s7.ccd (g s7.T s7.wt) grow true = 0 := congrArg Prod.fst e8
  have hst : s7.cut (g s7.T s7.wt) grow true = s8 := congrArg Prod.snd e8
  refine ⟨a, b, u.T.length, ?_⟩
  rw [← hst]
  exact w7.cut i7 (by omega) (hg _ _ i7.iv) grow hcd

end Go.Proofs.Ytjhnhbeimjnloaa

/- Steps of a heap that came in: a list of six numbers each. -/
namespace Go.Proofs.Ytjhnhbeimjnloaa
open Go.ChangeShapes Go.WideShapes Go.ChangeAt Go.RowKit Go.Joins Go.Deep W Stl

theorem cellsStepZ : Try.prog.cellsOf 30 = 6 := by kernel_rfl
theorem cellsIZ : Try.prog.cellsOf 3 = 1 := by kernel_rfl
theorem cellsLZ : Try.prog.cellsOf 2 = 1 := by kernel_rfl

structure S6 where
  k : Int
  R : Int
  A : Int
  B : Int
  I : Int
  n : Int
def s60 : S6 := ⟨0, 0, 0, 0, 0, 0⟩
def K64 (a : Int) : Prop := -9223372036854775808 ≤ a ∧ a ≤ 9223372036854775807
structure C6 (w : World) (b o : Nat) (s : S6) : Prop where
  c0 : w.cell? ⟨b, o, none⟩ = some (.int .i64 s.k)
  c1 : w.cell? ⟨b, o + 1, none⟩ = some (.int .i64 s.R)
  c2 : w.cell? ⟨b, o + 2, none⟩ = some (.int .i64 s.A)
  c3 : w.cell? ⟨b, o + 3, none⟩ = some (.int .i64 s.B)
  c4 : w.cell? ⟨b, o + 4, none⟩ = some (.int .i64 s.I)
  c5 : w.cell? ⟨b, o + 5, none⟩ = some (.int .i64 s.n)
theorem C6.below {w w' : World} {b o B : Nat} {s : S6} (h : C6 w b o s) (hb : Below B w w') (hB : b < B) : C6 w' b o s :=
  ⟨(hb.cell (p := ⟨b, o, none⟩) hB).trans h.c0, (hb.cell (p := ⟨b, o + 1, none⟩) hB).trans h.c1, (hb.cell (p := ⟨b, o + 2, none⟩) hB).trans h.c2, (hb.cell (p := ⟨b, o + 3, none⟩) hB).trans h.c3, (hb.cell (p := ⟨b, o + 4, none⟩) hB).trans h.c4, (hb.cell (p := ⟨b, o + 5, none⟩) hB).trans h.c5⟩
def L6 (w : World) (ad : Option Addr) (l : List S6) : Prop :=
  0 < l.length → ∃ b o, ad = some ⟨b, o, none⟩ ∧ b < w.heap.size ∧ ∀ i, i < l.length → C6 w b (o + i * 6) (l.getD i s60) ∧ K64 (l.getD i s60).k ∧ K64 (l.getD i s60).R ∧ K64 (l.getD i s60).A ∧ K64 (l.getD i s60).B ∧ K64 (l.getD i s60).I ∧ K64 (l.getD i s60).n

theorem list6z {α : Type} {cs : List α} (h : cs.length = 6) : ∃ c0 c1 c2 c3 c4 c5, cs = [c0, c1, c2, c3, c4, c5] := by
  match cs, h with
  | [c0, c1, c2, c3, c4, c5], _ => exact ⟨c0, c1, c2, c3, c4, c5, rfl⟩
theorem kbnd {a : Int} (h : (Lit.int .i64 a).wf = true) : K64 a := by
  have : IntKind.i64.min ≤ a ∧ a ≤ 9223372036854775807 := by simpa [Lit.wf] using h
  exact ⟨this.1, this.2⟩

set_option maxRecDepth 100000 in
theorem open_step6 {H : Type} {enc : TypeId × Value → H} {W : World} {sp : Nat → Bool} {held : Bool} {fuel : Nat} {cs : List Value} {x : DataW H × List MemPlace}
    (hf : DataW.trod enc Try.prog W 0 sp held fuel 30 cs = some x) : ∃ s : S6, cs = [.int .i64 s.k, .int .i64 s.R, .int .i64 s.A, .int .i64 s.B, .int .i64 s.I, .int .i64 s.n] ∧ K64 s.k ∧ K64 s.R ∧ K64 s.A ∧ K64 s.B ∧ K64 s.I ∧ K64 s.n := by
  obtain ⟨xs, m, _, hx, hl, hlen, hg⟩ := DataW.trod_struct Try.underlying30 hf
  rw [cellsStepZ] at hl
  obtain ⟨c0, c1, c2, c3, c4, c5, rfl⟩ := list6z hl
  match xs, hlen with
  | [y0, y1, y2, y3, y4, y5], _ =>
    have t0 := hg 0 _ rfl
    have t1 := hg 1 _ rfl
    have t2 := hg 2 _ rfl
    have t3 := hg 3 _ rfl
    have t4 := hg 4 _ rfl
    have t5 := hg 5 _ rfl
    simp [cellsIZ, cellsLZ] at t0 t1 t2 t3 t4 t5
    obtain ⟨k, e0, _, w0⟩ := DataW.trod_int Try.underlying3 t0
    obtain ⟨R, e1, _, w1⟩ := DataW.trod_int Try.underlying3 t1
    obtain ⟨A, e2, _, w2⟩ := DataW.trod_int Try.underlying3 t2
    obtain ⟨B, e3, _, w3⟩ := DataW.trod_int Try.underlying3 t3
    obtain ⟨I, e4, _, w4⟩ := DataW.trod_int Try.underlying3 t4
    obtain ⟨n, e5, _, w5⟩ := DataW.trod_int Try.underlying2 t5
    simp at e0 e1 e2 e3 e4 e5
    exact ⟨⟨k, R, A, B, I, n⟩, by rw [e0, e1, e2, e3, e4, e5], kbnd w0, kbnd w1, kbnd w2, kbnd w3, kbnd w4, kbnd w5⟩

set_option maxRecDepth 100000 in
theorem open_heaps {H : Type} {enc : TypeId × Value → H} {W : World} {sp : Nat → Bool} {held : Bool} {fuel len cap : Nat} {ad : Option Addr} {x : DataW H × List MemPlace}
    (hf : DataW.trod enc Try.prog W 0 sp held fuel 22 [.slice ad len cap] = some x) : ∃ l : List S6, l.length = len ∧ L6 W ad l := by
  rcases open_slice Try.underlying22 hf with ⟨hcs, _⟩ | ⟨z, l, c, m, n, D, Pl, hcs, hb, hl, hm, hmm, _, hall⟩
  · simp at hcs
    obtain ⟨rfl, rfl, rfl⟩ := hcs
    exact ⟨[], rfl, fun h => by simp at h⟩
  · simp at hcs
    obtain ⟨rfl, rfl, rfl⟩ := hcs
    have hlm : len ≤ m := by rw [hmm]; split <;> omega
    have key : ∀ i, i < len → ∃ s : S6, (W.cell? (z.add (i * 6)) = some (.int .i64 s.k) ∧ W.cell? (z.add (i * 6 + 1)) = some (.int .i64 s.R) ∧ W.cell? (z.add (i * 6 + 2)) = some (.int .i64 s.A) ∧ W.cell? (z.add (i * 6 + 3)) = some (.int .i64 s.B) ∧ W.cell? (z.add (i * 6 + 4)) = some (.int .i64 s.I) ∧ W.cell? (z.add (i * 6 + 5)) = some (.int .i64 s.n)) ∧ K64 s.k ∧ K64 s.R ∧ K64 s.A ∧ K64 s.B ∧ K64 s.I ∧ K64 s.n := by
      intro i hi
      obtain ⟨cs', h1, h2⟩ := hall i (by omega)
      rw [cellsStepZ] at h1
      obtain ⟨_, _, hcell⟩ := World.cells?_some h1
      obtain ⟨s, rfl, hb⟩ := open_step6 h2
      refine ⟨s, ⟨?_, ?_, ?_, ?_, ?_, ?_⟩, hb⟩
      · have := hcell 0 (by omega); rw [add_add] at this; simpa using this
      · have := hcell 1 (by omega); rw [add_add] at this; simpa using this
      · have := hcell 2 (by omega); rw [add_add] at this; simpa using this
      · have := hcell 3 (by omega); rw [add_add] at this; simpa using this
      · have := hcell 4 (by omega); rw [add_add] at this; simpa using this
      · have := hcell 5 (by omega); rw [add_add] at this; simpa using this
    have : Inhabited S6 := ⟨s60⟩
    obtain ⟨S, hS⟩ := choose_lt key
    refine ⟨(List.range len).map S, by simp, fun hp => ?_⟩
    simp only [List.length_map, List.length_range] at hp ⊢
    obtain ⟨b, o, spot⟩ := z
    have h0 := (hS 0 hp).1.1
    have hspot : spot = none := by simpa [Addr.add] using World.cell?_spot h0
    subst hspot
    refine ⟨b, o, rfl, World.block_lt_of_cell? W (⟨b, o, none⟩ : Addr) (by simpa [Addr.add] using h0), fun i hi => ?_⟩
    obtain ⟨⟨k0, k1, k2, k3, k4, k5⟩, k6⟩ := hS i hi
    have ea : ∀ j, (⟨b, o, none⟩ : Addr).add j = ⟨b, o + j, none⟩ := fun j => by simp [Addr.add]
    rw [ea] at k0 k1 k2 k3 k4 k5
    have eg : ((List.range len).map S).getD i s60 = S i := by simp [hi]
    rw [eg]
    exact ⟨⟨k0, by rw [Nat.add_assoc]; exact k1, by rw [Nat.add_assoc]; exact k2, by rw [Nat.add_assoc]; exact k3, by rw [Nat.add_assoc]; exact k4, by rw [Nat.add_assoc]; exact k5⟩, k6⟩

end Go.Proofs.Ytjhnhbeimjnloaa
