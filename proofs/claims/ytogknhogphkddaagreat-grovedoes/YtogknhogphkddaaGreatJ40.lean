/- Joined: OpenZ, GDs, GDsP. -/
import Derived.Test.YtogknhogphkddaaGreatJ04
import Derived.Lib.SmallJoins
import Derived.Test.YtogknhogphkddaaGreatJ39
import Derived.Deep.DeepCutAuto
import Derived.Deep.RegionHeld3
import Derived.Test.YtogknhogphkddaaGreatRows
import Derived.ProofKit
import Derived.OpenShut
import Derived.ShutString
import Derived.ChangeOld
import Derived.Below
/- Steps of a heap that came in: a list of six numbers each. -/
namespace Go.Proofs.YtogknhogphkddaaGreat
open Go.ChangeShapes Go.WideShapes Go.ChangeAt Go.RowKit Go.Joins Go.Deep W Stl

theorem cellsStepZ : Tryz.prog.cellsOf 34 = 6 := by kernel_rfl
theorem cellsIZ : Tryz.prog.cellsOf 3 = 1 := by kernel_rfl
theorem cellsLZ : Tryz.prog.cellsOf 2 = 1 := by kernel_rfl

structure S6 where
  k : Int
  R : Int
  A : Int
  B : Int
  I : Int
  n : Int
def s60 : S6 := ⟨0, 0, 0, 0, 0, 0⟩
def K64 (a : Int) : Prop := -9223372036854775808 ≤ a ∧ a ≤ 9223372036854775807
structure C6 (w : World) (b o : Nat) (s : S6) : Prop where
  c0 : w.cell? ⟨b, o, none⟩ = some (.int .i64 s.k)
  c1 : w.cell? ⟨b, o + 1, none⟩ = some (.int .i64 s.R)
  c2 : w.cell? ⟨b, o + 2, none⟩ = some (.int .i64 s.A)
  c3 : w.cell? ⟨b, o + 3, none⟩ = some (.int .i64 s.B)
  c4 : w.cell? ⟨b, o + 4, none⟩ = some (.int .i64 s.I)
  c5 : w.cell? ⟨b, o + 5, none⟩ = some (.int .i64 s.n)
theorem C6.below {w w' : World} {b o B : Nat} {s : S6} (h : C6 w b o s) (hb : Below B w w') (hB : b < B) : C6 w' b o s :=
  ⟨(hb.cell (p := ⟨b, o, none⟩) hB).trans h.c0, (hb.cell (p := ⟨b, o + 1, none⟩) hB).trans h.c1, (hb.cell (p := ⟨b, o + 2, none⟩) hB).trans h.c2, (hb.cell (p := ⟨b, o + 3, none⟩) hB).trans h.c3, (hb.cell (p := ⟨b, o + 4, none⟩) hB).trans h.c4, (hb.cell (p := ⟨b, o + 5, none⟩) hB).trans h.c5⟩
def L6 (w : World) (ad : Option Addr) (l : List S6) : Prop :=
  0 < l.length → ∃ b o, ad = some ⟨b, o, none⟩ ∧ b < w.heap.size ∧ ∀ i, i < l.length → C6 w b (o + i * 6) (l.getD i s60) ∧ K64 (l.getD i s60).k ∧ K64 (l.getD i s60).R ∧ K64 (l.getD i s60).A ∧ K64 (l.getD i s60).B ∧ K64 (l.getD i s60).I ∧ K64 (l.getD i s60).n

theorem list6z {α : Type} {cs : List α} (h : cs.length = 6) : ∃ c0 c1 c2 c3 c4 c5, cs = [c0, c1, c2, c3, c4, c5] := by
  match cs, h with
  | [c0, c1, c2, c3, c4, c5], _ => exact ⟨c0, c1, c2, c3, c4, c5, rfl⟩
theorem kbnd {a : Int} (h : (Lit.int .i64 a).wf = true) : K64 a := by
  have : IntKind.i64.min ≤ a ∧ a ≤ 9223372036854775807 := by simpa [Lit.wf] using h
  exact ⟨this.1, this.2⟩

set_option maxRecDepth 100000 in
theorem open_step6 {H : Type} {enc : TypeId × Value → H} {W : World} {sp : Nat → Bool} {held : Bool} {fuel : Nat} {cs : List Value} {x : DataW H × List MemPlace}
    (hf : DataW.trod enc Tryz.prog W 0 sp held fuel 34 cs = some x) : ∃ s : S6, cs = [.int .i64 s.k, .int .i64 s.R, .int .i64 s.A, .int .i64 s.B, .int .i64 s.I, .int .i64 s.n] ∧ K64 s.k ∧ K64 s.R ∧ K64 s.A ∧ K64 s.B ∧ K64 s.I ∧ K64 s.n := by
  obtain ⟨xs, m, _, hx, hl, hlen, hg⟩ := DataW.trod_struct Tryz.underlying34 hf
  rw [cellsStepZ] at hl
  obtain ⟨c0, c1, c2, c3, c4, c5, rfl⟩ := list6z hl
  match xs, hlen with
  | [y0, y1, y2, y3, y4, y5], _ =>
    have t0 := hg 0 _ rfl
    have t1 := hg 1 _ rfl
    have t2 := hg 2 _ rfl
    have t3 := hg 3 _ rfl
    have t4 := hg 4 _ rfl
    have t5 := hg 5 _ rfl
    simp [cellsIZ, cellsLZ] at t0 t1 t2 t3 t4 t5
    obtain ⟨k, e0, _, w0⟩ := DataW.trod_int Tryz.underlying3 t0
    obtain ⟨R, e1, _, w1⟩ := DataW.trod_int Tryz.underlying3 t1
    obtain ⟨A, e2, _, w2⟩ := DataW.trod_int Tryz.underlying3 t2
    obtain ⟨B, e3, _, w3⟩ := DataW.trod_int Tryz.underlying3 t3
    obtain ⟨I, e4, _, w4⟩ := DataW.trod_int Tryz.underlying3 t4
    obtain ⟨n, e5, _, w5⟩ := DataW.trod_int Tryz.underlying2 t5
    simp at e0 e1 e2 e3 e4 e5
    exact ⟨⟨k, R, A, B, I, n⟩, by rw [e0, e1, e2, e3, e4, e5], kbnd w0, kbnd w1, kbnd w2, kbnd w3, kbnd w4, kbnd w5⟩

set_option maxRecDepth 100000 in
theorem open_heaps {H : Type} {enc : TypeId × Value → H} {W : World} {sp : Nat → Bool} {held : Bool} {fuel len cap : Nat} {ad : Option Addr} {x : DataW H × List MemPlace}
    (hf : DataW.trod enc Tryz.prog W 0 sp held fuel 22 [.slice ad len cap] = some x) : ∃ l : List S6, l.length = len ∧ L6 W ad l := by
  rcases open_slice Tryz.underlying22 hf with ⟨hcs, _⟩ | ⟨z, l, c, m, n, D, Pl, hcs, hb, hl, hm, hmm, _, hall⟩
  · simp at hcs
    obtain ⟨rfl, rfl, rfl⟩ := hcs
    exact ⟨[], rfl, fun h => by simp at h⟩
  · simp at hcs
    obtain ⟨rfl, rfl, rfl⟩ := hcs
    have hlm : len ≤ m := by rw [hmm]; split <;> omega
    have key : ∀ i, i < len → ∃ s : S6, (W.cell? (z.add (i * 6)) = some (.int .i64 s.k) ∧ W.cell? (z.add (i * 6 + 1)) = some (.int .i64 s.R) ∧ W.cell? (z.add (i * 6 + 2)) = some (.int .i64 s.A) ∧ W.cell? (z.add (i * 6 + 3)) = some (.int .i64 s.B) ∧ W.cell? (z.add (i * 6 + 4)) = some (.int .i64 s.I) ∧ W.cell? (z.add (i * 6 + 5)) = some (.int .i64 s.n)) ∧ K64 s.k ∧ K64 s.R ∧ K64 s.A ∧ K64 s.B ∧ K64 s.I ∧ K64 s.n := by
      intro i hi
      obtain ⟨cs', h1, h2⟩ := hall i (by omega)
      rw [cellsStepZ] at h1
      obtain ⟨_, _, hcell⟩ := World.cells?_some h1
      obtain ⟨s, rfl, hb⟩ := open_step6 h2
      refine ⟨s, ⟨?_, ?_, ?_, ?_, ?_, ?_⟩, hb⟩
      · have := hcell 0 (by omega); rw [add_add] at this; simpa using this
      · have := hcell 1 (by omega); rw [add_add] at this; simpa using this
      · have := hcell 2 (by omega); rw [add_add] at this; simpa using this
      · have := hcell 3 (by omega); rw [add_add] at this; simpa using this
      · have := hcell 4 (by omega); rw [add_add] at this; simpa using this
      · have := hcell 5 (by omega); rw [add_add] at this; simpa using this
    have : Inhabited S6 := ⟨s60⟩
    obtain ⟨S, hS⟩ := choose_lt key
    refine ⟨(List.range len).map S, by simp, fun hp => ?_⟩
    simp only [List.length_map, List.length_range] at hp ⊢
    obtain ⟨b, o, spot⟩ := z
    have h0 := (hS 0 hp).1.1
    have hspot : spot = none := by simpa [Addr.add] using World.cell?_spot h0
    subst hspot
    refine ⟨b, o, rfl, World.block_lt_of_cell? W (⟨b, o, none⟩ : Addr) (by simpa [Addr.add] using h0), fun i hi => ?_⟩
    obtain ⟨⟨k0, k1, k2, k3, k4, k5⟩, k6⟩ := hS i hi
    have ea : ∀ j, (⟨b, o, none⟩ : Addr).add j = ⟨b, o + j, none⟩ := fun j => by simp [Addr.add]
    rw [ea] at k0 k1 k2 k3 k4 k5
    have eg : ((List.range len).map S).getD i s60 = S i := by simp [hi]
    rw [eg]
    exact ⟨⟨k0, by rw [Nat.add_assoc]; exact k1, by rw [Nat.add_assoc]; exact k2, by rw [Nat.add_assoc]; exact k3, by rw [Nat.add_assoc]; exact k4, by rw [Nat.add_assoc]; exact k5⟩, k6⟩

end Go.Proofs.YtogknhogphkddaaGreat

/- GroveDoes: its walk. -/
namespace Go.Proofs.YtogknhogphkddaaGreat.GDs
open Go.RowKit W Kp Stl

structure Two (w1 : World) (gp rb rp rq : Nat) (n o : Int) (F G : Nat → Prop) (s : Wrs) (i : Nat) (w : World) : Prop where
  g : (grO gp n o rb).J F s w
  r : (wrO rp rq n o).J G s w
  gi : Gi s i
  ap : ∀ b, F b → ¬ G b
  lF : ∀ b, F b → w1.heap.size ≤ b
  lG : ∀ b, G b → w1.heap.size ≤ b
  be : Below w1.heap.size w1 w
section
variable {w1 w w' : World} {gp rb rp rq i : Nat} {n o : Int} {F G F' G' : Nat → Prop} {s s2 : Wrs}
theorem Two.below (h : Two w1 gp rb rp rq n o F G s i w) (hb : Below w.heap.size w w') : Two w1 gp rb rp rq n o F G s i w' :=
  ⟨(grO gp n o rb).below h.g hb, (wrO rp rq n o).below h.r hb, h.gi, h.ap, h.lF, h.lG, h.be.trans (hb.mono h.be.size)⟩
theorem Two.gr (h : Two w1 gp rb rp rq n o F G s i w) (t : Tn F w F' w') : (wrO rp rq n o).J G s w' ∧ (∀ b, F' b → ¬ G b) ∧ (∀ b, F' b → w1.heap.size ≤ b) ∧ Below w1.heap.size w1 w' :=
  ⟨(wrO rp rq n o).fr h.r t.fr (fun k hG hF => h.ap k hF hG), fun b hF hG => (t.sub b hF).elim (fun c => h.ap b c hG) (fun c => by have := (wrO rp rq n o).lt h.r b hG; omega), fun b hF => (t.sub b hF).elim (h.lF b) (fun c => Nat.le_trans h.be.size c), h.be.trans (t.fr.below h.be.size (fun k d => h.lF k d))⟩
theorem Two.of {w'' : World} {j : Nat} (h : Two w1 gp rb rp rq n o F G s i w) (t : Tn F w F' w') (hg : (grO gp n o rb).J F' s2 w') (t2 : Tn G w' G' w'') (hr : (wrO rp rq n o).J G' s2 w'') (hi : Gi s2 j) : Two w1 gp rb rp rq n o F' G' s2 j w'' := by
  obtain ⟨h1, h2, h3, h4⟩ := h.gr t
  exact ⟨(grO gp n o rb).fr hg t2.fr (fun k hF hG => h2 k hF hG), hr, hi, fun b hF hG => (t2.sub b hG).elim (h2 b hF) (fun c => by have := (grO gp n o rb).lt hg b hF; omega), h3, fun b hG => (t2.sub b hG).elim (h.lG b) (fun c => Nat.le_trans h4.size c), h4.trans (t2.fr.below h4.size (fun k d => h.lG k d))⟩
end

set_option maxRecDepth 100000 in
set_option maxHeartbeats 16000000 in
theorem walk (n o : Int) (a : Option Addr) (cc : Nat) (l : List S6) (w : World) (hl : L6 w a l) :
    Calls Tryz.prog 3 #[.int .i64 n, .int .i64 o, .slice a l.length cc] w fun e w' => e = .returned (.bool true) ∧ Below w.heap.size w w' := by
  obtain ⟨g, hg⟩ := gfn_ex
  have HL : Hid (L6 w a l) := hl
  have HG : Hid (∀ T wt, Wiv T wt → Gok T wt (g T wt)) := hg
  clear hl hg
  by_cases hlen : 250 < l.length
  · go_enter Tryz.func3, Tryz.ntmps3
    go_wp2_with fail
    refine (groveBegun_any w).mono ?_
    rintro e w1 ⟨rfl, hb1⟩
    have h2 : (250 : Int) < (l.length : Int) := by omega
    go_wp2_with fail
    go_ret
    exact ⟨rfl, hb1⟩
  · have h2 : ¬ ((250 : Int) < (l.length : Int)) := by omega
    by_cases hno : n < 16 ∨ 256 < n ∨ o < 0 ∨ 1024 < o
    · have HNO : Hid (n < 16 ∨ 256 < n ∨ o < 0 ∨ 1024 < o) := hno
      clear hno
      go_enter Tryz.func3, Tryz.ntmps3
      go_wp2_with fail
      refine (groveBegun_any w).mono ?_
      rintro e w1 ⟨rfl, hb1⟩
      go_wp2_with fail
      refine (newG_no n o w1 HNO.out).mono ?_
      rintro e w2 ⟨rfl, hb2⟩
      have hB2 := hb1.trans (hb2.mono hb1.size)
      have hba := (Below.refl w2.heap.size w2).alloc (Nat.le_refl _) (.cells #[.int .i64 1, .int .i64 (-1)] 26)
      have HB3 : Hid (Below w.heap.size w (w2.alloc (.cells #[.int .i64 1, .int .i64 (-1)] 26))) := hB2.trans (hba.mono hB2.size)
      have HX : Hid ((w2.alloc (.cells #[.int .i64 1, .int .i64 (-1)] 26)).heap[w2.heap.size]? = some (.cells #[.int .i64 1, .int .i64 (-1)] 26 (0, 0))) := heap_alloc_new _ _
      clear hb1 hb2 hB2 hba
      go_wp2_with fail
      generalize w2.alloc (.cells #[.int .i64 1, .int .i64 (-1)] 26) = w3 at *
      generalize w2.heap.size = xb at *
      refine (roomFault_no n o w3 HNO.out).mono ?_
      rintro e w4 ⟨rfl, hb4⟩
      have hX4 := (hb4.block xb (lt_of_some HX.out)).trans HX.out
      have hB4 := HB3.out.trans (hb4.mono HB3.out.size)
      have x0 : w4.cell? ⟨xb, 0, none⟩ = some (.int .i64 1) := by simp [World.cell?, hX4]
      have x1 : w4.cell? ⟨xb, 1, none⟩ = some (.int .i64 (-1)) := by simp [World.cell?, hX4]
      have lx := lt_of_some hX4
      have nx : xb ≠ w4.heap.size := by omega
      have hB5 := hB4.alloc hB4.size (.cells #[.int .i64 1, .int .i64 (-1)] 26)
      clear hX4 hb4 hB4 HX HB3
      go_wp2_with fail
      go_ret
      exact ⟨rfl, hB5⟩
    · have hn0 : 16 ≤ n ∧ n ≤ 256 ∧ 0 ≤ o ∧ o ≤ 1024 := by omega
      obtain ⟨n, rfl⟩ := Int.eq_ofNat_of_zero_le (show 0 ≤ n by omega)
      obtain ⟨o, rfl⟩ := Int.eq_ofNat_of_zero_le (show 0 ≤ o by omega)
      have HN : Hid (16 ≤ n ∧ n ≤ 256 ∧ o ≤ 1024) := ⟨by omega, by omega, by omega⟩
      have HM : Hid ((-1000000 : Int) ≤ o ∧ (o : Int) ≤ 1000000 ∧ (-1000000 : Int) ≤ n ∧ (n : Int) ≤ 1000000) := ⟨by omega, by omega, by omega, by omega⟩
      have HM2 : Hid ((0 : Int) ≤ o ∧ (o : Int) ≤ 100000 ∧ (0 : Int) ≤ n ∧ (n : Int) ≤ 100000) := ⟨by omega, by omega, by omega, by omega⟩
      have HRF : Hid (∀ w', Calls Tryz.prog 6 #[.int .i64 n, .int .i64 o] w' fun e w'' => e = .returned (.agg #[.int .i64 0, .int .i64 0]) ∧ Below w'.heap.size w' w'') := fun w' => roomFault_yes n o w' (by omega) (by omega) (by omega) (by omega)
      clear hno hn0
      go_enter Tryz.func3, Tryz.ntmps3
      go_wp2_with fail
      refine (groveBegun_any w).mono ?_
      rintro e w1 ⟨rfl, hb1⟩
      have HB1 : Hid (Below w.heap.size w w1) := hb1
      clear hb1
      go_wp2_with fail
      refine (newG_yes n o w1 HN.out.1 HN.out.2.1 HN.out.2.2).mono ?_
      rintro e w2 ⟨gp, rb, F1, rfl, J1, lo1, b1⟩
      have hba := (Below.refl w2.heap.size w2).alloc (Nat.le_refl _) (.cells #[.int .i64 0, .int .i64 0] 26)
      have HS : Hid ((grO gp n o rb).J F1 ws0 (w2.alloc (.cells #[.int .i64 0, .int .i64 0] 26)) ∧ (∀ b, F1 b → w1.heap.size ≤ b) ∧ Below w1.heap.size w1 (w2.alloc (.cells #[.int .i64 0, .int .i64 0] 26))) := ⟨(grO gp n o rb).below J1 hba, lo1, b1.trans (hba.mono b1.size)⟩
      have HX : Hid ((w2.alloc (.cells #[.int .i64 0, .int .i64 0] 26)).heap[w2.heap.size]? = some (.cells #[.int .i64 0, .int .i64 0] 26 (0, 0))) := heap_alloc_new _ _
      clear J1 lo1 b1 hba
      go_wp2_with fail
      generalize w2.alloc (.cells #[.int .i64 0, .int .i64 0] 26) = w3 at *
      generalize w2.heap.size = xb at *
      refine (HRF.out w3).mono ?_
      rintro e w4 ⟨rfl, hb4⟩
      have hX4 := (hb4.block xb (lt_of_some HX.out)).trans HX.out
      have x0 : w4.cell? ⟨xb, 0, none⟩ = some (.int .i64 0) := by simp [World.cell?, hX4]
      have x1 : w4.cell? ⟨xb, 1, none⟩ = some (.int .i64 0) := by simp [World.cell?, hX4]
      have lx := lt_of_some hX4
      have nx : xb ≠ w4.heap.size := by omega
      have hbb : Below w3.heap.size w3 (w4.alloc (.cells #[.int .i64 0, .int .i64 0] 26)) := hb4.alloc hb4.size _
      have HS5 : Hid ((grO gp n o rb).J F1 ws0 (w4.alloc (.cells #[.int .i64 0, .int .i64 0] 26)) ∧ (∀ b, F1 b → w1.heap.size ≤ b) ∧ Below w1.heap.size w1 (w4.alloc (.cells #[.int .i64 0, .int .i64 0] 26))) := ⟨(grO gp n o rb).below HS.out.1 hbb, HS.out.2.1, HS.out.2.2.trans (hbb.mono HS.out.2.2.size)⟩
      clear hX4 hb4 hbb HX HS HRF
      go_wp2_with fail
      clear x0 x1 lx nx
      generalize w4.alloc (.cells #[.int .i64 0, .int .i64 0] 26) = w5 at *
      generalize w4.heap.size = xc at *
      refine (newWorld_any n o w5).mono ?_
      rintro e w6 ⟨rp, rq, G1, rfl, Jr, lr, b6⟩
      have HT0 : Hid (Two w1 gp rb rp rq n o F1 G1 ws0 0 w6) := ⟨(grO gp n o rb).below HS5.out.1 b6, Jr, Gi.start, fun b hF hG => by have h1 := (grO gp n o rb).lt HS5.out.1 b hF; have h2 := lr b hG; omega, HS5.out.2.1, fun b hG => Nat.le_trans HS5.out.2.2.size (lr b hG), HS5.out.2.2.trans (b6.mono HS5.out.2.2.size)⟩
      clear HS5 Jr lr b6
      go_wp2_with fail
      go_loopw [11] (fun iv wr => ∃ (i : Nat) (s : Wrs) (F G : Nat → Prop), i ≤ l.length ∧ iv = .int .i64 i ∧ Hid (Two w1 gp rb rp rq n o F G s i wr)) (fun iv _ => l.length - (intOf iv).toNat)
      case atStart => exact ⟨0, ws0, F1, G1, Nat.zero_le _, rfl, HT0⟩
      case round =>
        clear HT0
        obtain ⟨i, s, F, G, hi, rfl, HT⟩ := hrel
        by_cases hil : i < l.length
        · obtain ⟨b0, p0, e0, l0, hc⟩ := HL.out (by omega)
          obtain ⟨hc6, _⟩ := hc i hil
          subst e0
          clear hc
          have i0 : (0 : Int) ≤ (i : Int) := by omega
          have i1 : (i : Int) < (l.length : Int) := by omega
          generalize l.getD i s60 = st at *
          obtain ⟨sk, sR, sA, sB, sI, sn⟩ := st
          have HC6 : Hid (∀ w', Below w1.heap.size w1 w' → C6 w' b0 (p0 + i * 6) ⟨sk, sR, sA, sB, sI, sn⟩) := fun w' hb => hc6.below (HB1.out.trans (hb.mono HB1.out.size)) l0
          obtain ⟨y0, y1, y2, y3, y4, y5⟩ := HC6.out wr HT.out.be
          dsimp only at y0 y1 y2 y3 y4 y5
          have P := doJ_any ((HT.out.below (Below.refl wr.heap.size wr).drew).g) HT.out.gi HG.out (by omega) HM.out.1 HM.out.2.1 HM.out.2.2.1 HM.out.2.2.2 sk sR sA sB sI sn
          have HQ : Hid (∀ w', (wrO rp rq n o).J G s w' → Calls Tryz.prog 9 #[.pointer (some ⟨rp, 0, none⟩), stpV sk sR sA sB sI sn] w' fun e w'' => ∃ F', e = .returned (.int .i64 (s.dos g n o sk sR sA sB sI sn).1) ∧ (wrO rp rq n o).J F' (s.dos g n o sk sR sA sB sI sn).2 w'' ∧ Tn G w' F' w'') := fun w' hh => doQ_any hh HT.out.gi (HG.out _ _ HT.out.gi.iv) (by omega) HM2.out.1 HM2.out.2.1 HM2.out.2.2.1 HM2.out.2.2.2 sk sR sA sB sI sn
          clear hc6
          generalize s.dos g n o sk sR sA sB sI sn = D at *
          obtain ⟨cd, s2⟩ := D
          dsimp only at P HQ
          go_wp2_with fail
          go_region_held3 (fun w' => w'.cell? ⟨b0, p0 + i * 6, none⟩ = some (.int .i64 sk) ∧ w'.cell? ⟨b0, p0 + i * 6 + 1, none⟩ = some (.int .i64 sR) ∧ w'.cell? ⟨b0, p0 + i * 6 + 2, none⟩ = some (.int .i64 sA) ∧ w'.cell? ⟨b0, p0 + i * 6 + 3, none⟩ = some (.int .i64 sB) ∧ w'.cell? ⟨b0, p0 + i * 6 + 4, none⟩ = some (.int .i64 sI) ∧ w'.cell? ⟨b0, p0 + i * 6 + 5, none⟩ = some (.int .i64 sn)) (first | exact ⟨u0, u1, u2, u3, u4, u5⟩ | exact ⟨z0, z1, z2, z3, z4, z5⟩ | (go_keep; done)) (first
            | (go_at_call 8; refine P.mono ?_; clear P; rintro e w7 ⟨F2, rfl, H7⟩; have HT7 : Hid (Tn F wr F2 w7) := ⟨(Fr.of (Below.refl wr.heap.size wr).drew).trans H7.out.2.2.fr (fun b c => Or.inl c), fun b c => H7.out.2.2.sub b c⟩; have HG7 : Hid ((wrO rp rq n o).J G s w7 ∧ (∀ b, F2 b → ¬ G b) ∧ (∀ b, F2 b → w1.heap.size ≤ b) ∧ Below w1.heap.size w1 w7) := HT.out.gr HT7.out; have PQ := HQ.out w7 HG7.out.1; obtain ⟨z0, z1, z2, z3, z4, z5⟩ := HC6.out w7 HG7.out.2.2.2; dsimp only at z0 z1 z2 z3 z4 z5; clear HQ)
            | (go_at_call 9; refine PQ.mono ?_; clear PQ; rintro e w8 ⟨G2, rfl, j8, t8⟩; have HT8 : Hid (Two w1 gp rb rp rq n o F2 G2 s2 (i + 1) w8) := HT.out.of HT7.out H7.out.1 t8 j8 H7.out.2.1; obtain ⟨u0, u1, u2, u3, u4, u5⟩ := HC6.out w8 HT8.out.be; dsimp only at u0 u1 u2 u3 u4 u5; clear j8 t8))
          clear y0 y1 y2 y3 y4 y5 z0 z1 z2 z3 z4 z5 u0 u1 u2 u3 u4 u5 HC6 HG7 HT7 H7 HT
          have hw := HT8.out.gi.wvw (by omega)
          have HUG : Hid (∀ w', Two w1 gp rb rp rq n o F2 G2 s2 (i + 1) w' → Calls Tryz.prog 10 #[.pointer (some ⟨gp, 0, none⟩)] w' fun e w'' => e = .returned (.tuple #[.int .i64 (usd s2.T).1, .int .i64 (usd s2.T).2]) ∧ Below w'.heap.size w' w'') := fun w' h => by
            obtain ⟨gl, hgl, _⟩ := h.g
            exact usedG_any hgl h.gi.tl (Nat.le_trans h.gi.tj (by omega))
          have HUW : Hid (∀ w', Two w1 gp rb rp rq n o F2 G2 s2 (i + 1) w' → Calls Tryz.prog 11 #[.pointer (some ⟨rp, 0, none⟩)] w' fun e w'' => e = .returned (.tuple #[.int .i64 (usd s2.T).1, .int .i64 (usd s2.T).2]) ∧ Below w'.heap.size w' w'') := fun w' h => usedW_any h.r (h.gi.wcv (by omega)).t12 (Nat.le_trans h.gi.tj (by omega))
          have HVG : Hid (∀ w', Two w1 gp rb rp rq n o F2 G2 s2 (i + 1) w' → Calls Tryz.prog 13 #[.pointer (some ⟨gp, 0, none⟩)] w' fun e w'' => ∃ r2 d2 na nn nc, e = .returned (.agg #[.slice r2 12 d2, .slice na nn nc]) ∧ LpN w'' w'.heap.size r2 (Vr4.vwW s2.T s2.wt s2.rs).1 ∧ LnN w'' w'.heap.size na (Vr4.vwW s2.T s2.wt s2.rs).2.2 ∧ nn = (Vr4.vwW s2.T s2.wt s2.rs).2.2.length ∧ Below w'.heap.size w' w'') := fun w' h => by
            obtain ⟨gl, hgl, _⟩ := h.g
            exact viewG_any hgl (h.gi.wvw (by omega)) h.gi.g5 h.gi.rv
          have HVW : Hid (∀ w', Two w1 gp rb rp rq n o F2 G2 s2 (i + 1) w' → Calls Tryz.prog 14 #[.pointer (some ⟨rp, 0, none⟩)] w' fun e w'' => ∃ r2 d2 na nn nc, e = .returned (.agg #[.slice r2 12 d2, .slice na nn nc]) ∧ LpN w'' w'.heap.size r2 (Vr4.vwW s2.T s2.wt s2.rs).1 ∧ LnN w'' w'.heap.size na (Vr4.vwW s2.T s2.wt s2.rs).2.2 ∧ nn = (Vr4.vwW s2.T s2.wt s2.rs).2.2.length ∧ Below w'.heap.size w' w'') := fun w' h => viewQ_any h.r h.gi (by omega)
          have HBD : Hid ((Vr4.vwW s2.T s2.wt s2.rs).1.length = 12 ∧ (Vr4.vwW s2.T s2.wt s2.rs).2.2.length ≤ 10000 ∧ ∀ nd ∈ (Vr4.vwW s2.T s2.wt s2.rs).2.2, nd.2.length ≤ 20000) := by
            obtain ⟨q1, q2, q3⟩ := vwW_bd hw s2.rs
            exact ⟨q1.trans HT8.out.gi.rl, q2, q3⟩
          clear hw
          generalize (usd s2.T).1 = x at *
          generalize (usd s2.T).2 = y at *
          generalize Vr4.vwW s2.T s2.wt s2.rs = Z at *
          obtain ⟨V, ms, ns⟩ := Z
          dsimp only at HVG HVW HBD
          go_wp2_with fail
          refine (HUG.out w8 HT8.out).mono ?_
          rintro e w9 ⟨rfl, hb9⟩
          have HT9 : Hid (Two w1 gp rb rp rq n o F2 G2 s2 (i + 1) w9) := HT8.out.below hb9
          clear hb9 HT8 HUG
          go_wp2_with fail
          refine (HUW.out w9 HT9.out).mono ?_
          rintro e w10 ⟨rfl, hb10⟩
          have HT10 : Hid (Two w1 gp rb rp rq n o F2 G2 s2 (i + 1) w10) := HT9.out.below hb10
          clear hb10 HT9 HUW
          go_wp2_with fail
          refine (HVG.out w10 HT10.out).mono ?_
          rintro e w11 ⟨r2, d2, na, nn, nc, rfl, hp, hn, hnn, hb11⟩
          subst hnn
          have HT11 : Hid (Two w1 gp rb rp rq n o F2 G2 s2 (i + 1) w11) := HT10.out.below hb11
          have HP : Hid (Lp w11 r2 V ∧ Ln w11 na ns) := ⟨hp.1, hn.ln⟩
          clear hb11 HT10 HVG hp hn
          go_wp2_with fail
          refine (HVW.out w11 HT11.out).mono ?_
          rintro e w12 ⟨r3, d3, na3, nn3, nc3, rfl, hp3, hn3, hnn3, hb12⟩
          subst hnn3
          have HT12 : Hid (Two w1 gp rb rp rq n o F2 G2 s2 (i + 1) w12) := HT11.out.below hb12
          have PS := sameView_eq r2 r3 na na3 d2 d3 nc nc3 V ns w12 (by rw [HBD.out.1]; decide) (by have := HBD.out.2.1; omega) (fun nd hnd => by have := HBD.out.2.2 nd hnd; omega) (HP.out.1.below hb12) hp3.1 (HP.out.2.below hb12) hn3.ln
          rw [HBD.out.1] at PS
          clear hb12 HT11 HVW hp3 hn3 HP
          go_wp2_with fail
          refine PS.mono ?_
          clear PS
          rintro e w13 ⟨rfl, hb13⟩
          have HT13 : Hid (Two w1 gp rb rp rq n o F2 G2 s2 (i + 1) w13) := HT12.out.below hb13
          clear hb13 HT12 HBD
          go_wp2_with fail
          go_roundw
          case rel => exact ⟨i + 1, s2, F2, G2, by omega, by go_num, HT13⟩
          case measure => simp [intOf]; omega
        · obtain rfl : i = l.length := by omega
          have i1 : ¬ ((l.length : Int) < (l.length : Int)) := by omega
          go_wp2_with fail
          go_ret
          exact ⟨rfl, HB1.out.trans (HT.out.be.mono HB1.out.size)⟩

end Go.Proofs.YtogknhogphkddaaGreat.GDs

/- GroveDoes: from its walk to the given statement. -/
namespace Go.Proofs.YtogknhogphkddaaGreat.GDs
open Go.ChangeShapes Go.WideShapes Go.ChangeAt Go.RowKit Go.Joins W

theorem own : ownKnob Tryz.prog.godebug = none := by kernel_rfl
theorem laidOut : laidOutB Tryz.prog = true := by kernel_rfl

set_option maxRecDepth 100000 in
theorem lifted (os : Os) (started : os.Started) (H : Type) (enc : TypeId × Value → H) :
    ReturnsInHanded {} Tryz.checked os 3 .any (Rows.groveDoesSpec.pre6 enc Tryz.prog Tryz.f3 Rows.groveDoesRow.domain false) (Rows.groveDoesSpec.post enc Tryz.prog Tryz.f3 false true false false) := by
  refine returnsInHanded_of_change (C := Tryz.checked) own started (by kernel_rfl) Tryz.func3
    (ChangeSpec.witness6 (enc := enc) (C := Tryz.checked) false ⟨#[], #[.int .i64 0, .int .i64 0, .slice none 0 0], []⟩ 8 (by kernel_rfl) (by kernel_rfl) (by kernel_rfl) (by kernel_rfl)) ?_
  intro W base args ds gs before hval0 hW hcnd _
  have hval : ∀ (j : Nat) t v, Tryz.f3.params[j]? = some t → args[j]? = some v → Value.okWide Tryz.prog W .any base t v := hval0
  have hW' := hW
  obtain ⟨p, q, hA0, hV, rfl, hfz, hnd⟩ := hW
  have hA : DataW.TrodAll enc Tryz.prog W 0 (fun _ => true) true Tryz.f3.params.toList args.toList ds p := hA0
  rw [Tryz.params3] at hA hval
  obtain ⟨v0, vs0, d0, ds0, p0, q0, hargs, rfl, rfl, h0, r0⟩ := trodAll_cons hA
  obtain ⟨v1, vs1, d1, ds1, p1, q1, rfl, rfl, rfl, h1, r1⟩ := trodAll_cons r0
  obtain ⟨v2, vs2, d2, ds2, p2, q2, rfl, rfl, rfl, h2, r2⟩ := trodAll_cons r1
  obtain ⟨rfl, rfl, rfl⟩ := trodAll_nil r2
  obtain rfl : args = #[v0, v1, v2] := by cases args; simp_all
  obtain ⟨rfl, rfl⟩ := trodVars_none hV
  obtain ⟨a0, rfl, rfl, rfl, w0⟩ := open_int Tryz.underlying3 (hval 0 3 v0 rfl rfl) h0
  obtain ⟨a1, rfl, rfl, rfl, w1⟩ := open_int Tryz.underlying3 (hval 1 3 v1 rfl rfl) h1
  obtain ⟨a2, len2, cap2, rfl⟩ := okWide_slice Tryz.underlying22 (hval 2 22 v2 rfl rfl)
  have k2 := h2
  have lt2 : ∀ x ∈ p2, x.block < W.heap.size := by obtain ⟨m, hm⟩ := k2; exact DataW.trod_lt m _ _ _ hm
  obtain ⟨fuel2, hf2⟩ := h2
  obtain ⟨S2, rfl, st2⟩ := open_heaps hf2
  clear hA0 hval0
  refine (walk a0 a1 a2 cap2 S2 W st2).mono fun e W' ⟨he, bel⟩ => ?_
  subst he
  exact ⟨_, rfl, _, _, _, [], _, [], hW', trodAll_mk1 (shut_bool Tryz.underlying4 _), (trodAll_cons_mk (shut_int Tryz.underlying3 w0) (trodAll_cons_mk (shut_int Tryz.underlying3 w1) (trodAll_cons_mk (Below.trod laidOut (by kernel_rfl) (of_decide_eq_true (by kernel_rfl)) k2 bel lt2) trodAll_mk0))), rfl, bel.frame _, fun h => by cases h⟩

theorem over : Rows.groveDoesRow.holds Tryz.pinned (OpenSpec.ofChange Rows.groveDoesSpec) :=
  OpenClaim.holds_of_wide 3 Tryz.f3 rfl rfl rfl rfl rfl rfl rfl ⟨rfl, rfl, rfl, rfl, rfl⟩ rfl rfl rfl rfl rfl (by kernel_rfl) Tryz.func3 (by kernel_rfl)
    (of_decide_eq_true (by kernel_rfl)) (by unfold Func.isWrapper; first | (rw [if_pos (by decide +kernel)]; kernel_rfl) | (rw [if_neg (by decide +kernel)]; exact ⟨rfl, rfl⟩))
    (fun os started H enc _ => lifted os started H enc)

/-- THE STATEMENT. -/
theorem proved : Rows.GroveDoesSaid :=
  over
#print axioms proved
end Go.Proofs.YtogknhogphkddaaGreat.GDs
