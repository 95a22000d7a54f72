/- Joined: OpenC, Ref, Ref2, Rm, Rm2, MSd. -/
import Derived.Test.YtmocakafnnkjfabGreatJ04
import Derived.Lib.SmallJoins
import Derived.Test.YtmocakafnnkjfabGreatJ01
import Derived.Test.YtmocakafnnkjfabGreatJ03
import Derived.Deep.RegionWith
import Derived.Test.YtmocakafnnkjfabGreatJ39
import Derived.Test.YtmocakafnnkjfabGreatJ38
/- Steps of a wood that is cut, that came in: a list of four numbers each. -/
namespace Go.Proofs.YtmocakafnnkjfabGreat
open Go.ChangeShapes Go.WideShapes Go.ChangeAt Go.RowKit Go.Joins Go.Deep W Stl

theorem cellsStepC : Tryz.prog.cellsOf 31 = 4 := by kernel_rfl
theorem cellsIC : Tryz.prog.cellsOf 3 = 1 := by kernel_rfl

abbrev S4 := Int × Int × Int × Int
def J64 (a : Int) : Prop := -9223372036854775808 ≤ a ∧ a ≤ 9223372036854775807
def L4 (w : World) (ad : Option Addr) (l : List S4) : Prop :=
  0 < l.length → ∃ b o, ad = some ⟨b, o, none⟩ ∧ b < w.heap.size ∧ ∀ i, i < l.length → (w.cell? ⟨b, o + i * 4, none⟩ = some (.int .i64 (l.getD i (0, 0, 0, 0)).1) ∧ w.cell? ⟨b, o + i * 4 + 1, none⟩ = some (.int .i64 (l.getD i (0, 0, 0, 0)).2.1) ∧ w.cell? ⟨b, o + i * 4 + 2, none⟩ = some (.int .i64 (l.getD i (0, 0, 0, 0)).2.2.1) ∧ w.cell? ⟨b, o + i * 4 + 3, none⟩ = some (.int .i64 (l.getD i (0, 0, 0, 0)).2.2.2)) ∧
    J64 (l.getD i (0, 0, 0, 0)).2.1 ∧ J64 (l.getD i (0, 0, 0, 0)).2.2.2

theorem trod_struct4 {H : Type} {enc : TypeId × Value → H} {P : Program} {w : World} {base : Nat} {spare : Nat → Bool} {held : Bool} {t : TypeId} {f0 f1 f2 f3 : Field} {fuel : Nat} {cs : List Value} {x : DataW H × List MemPlace} (ht : P.underlying t = some (.struct #[f0, f1, f2, f3])) (h : DataW.trod enc P w base spare held fuel t cs = some x) :
    ∃ y0 y1 y2 y3 n, cs.length = P.cellsOf t ∧ DataW.trod enc P w base spare held n f0.type ((cs.drop f0.offset).take (P.cellsOf f0.type)) = some y0 ∧
      DataW.trod enc P w base spare held n f1.type ((cs.drop f1.offset).take (P.cellsOf f1.type)) = some y1 ∧ DataW.trod enc P w base spare held n f2.type ((cs.drop f2.offset).take (P.cellsOf f2.type)) = some y2 ∧
      DataW.trod enc P w base spare held n f3.type ((cs.drop f3.offset).take (P.cellsOf f3.type)) = some y3 := by
  obtain ⟨xs, n, _, rfl, hl, hlen, hf⟩ := DataW.trod_struct ht h
  match xs, hlen with
  | [y0, y1, y2, y3], _ => exact ⟨y0, y1, y2, y3, n, hl, by simpa using hf 0 f0 rfl, by simpa using hf 1 f1 rfl, by simpa using hf 2 f2 rfl, by simpa using hf 3 f3 rfl⟩

theorem list4 {α : Type} {cs : List α} (h : cs.length = 4) : ∃ c0 c1 c2 c3, cs = [c0, c1, c2, c3] := by
  match cs, h with
  | [c0, c1, c2, c3], _ => exact ⟨c0, c1, c2, c3, rfl⟩

theorem bnd64 {a : Int} (h : (Lit.int .i64 a).wf = true) : J64 a := by
  have : IntKind.i64.min ≤ a ∧ a ≤ 9223372036854775807 := by simpa [Lit.wf] using h
  exact ⟨this.1, this.2⟩

set_option maxRecDepth 100000 in
theorem open_step4 {H : Type} {enc : TypeId × Value → H} {W : World} {sp : Nat → Bool} {held : Bool} {fuel : Nat} {cs : List Value} {x : DataW H × List MemPlace}
    (hf : DataW.trod enc Tryz.prog W 0 sp held fuel 31 cs = some x) : ∃ d a b c : Int, cs = [.int .i64 d, .int .i64 a, .int .i64 b, .int .i64 c] ∧ J64 a ∧ J64 c := by
  obtain ⟨y0, y1, y2, y3, n, hl, t0, t1, t2, t3⟩ := trod_struct4 Tryz.underlying31 hf
  rw [cellsStepC] at hl
  obtain ⟨c0, c1, c2, c3, rfl⟩ := list4 hl
  obtain ⟨d, ed, _⟩ := DataW.trod_int Tryz.underlying3 t0
  obtain ⟨a, ea, _, wa⟩ := DataW.trod_int Tryz.underlying3 t1
  obtain ⟨b, eb, _⟩ := DataW.trod_int Tryz.underlying3 t2
  obtain ⟨c, ec, _, wc⟩ := DataW.trod_int Tryz.underlying3 t3
  simp [cellsIC] at ed ea eb ec
  exact ⟨d, a, b, c, by rw [ed, ea, eb, ec], bnd64 wa, bnd64 wc⟩

set_option maxRecDepth 100000 in
theorem open_cuts {H : Type} {enc : TypeId × Value → H} {W : World} {sp : Nat → Bool} {held : Bool} {fuel len cap : Nat} {ad : Option Addr} {x : DataW H × List MemPlace}
    (hf : DataW.trod enc Tryz.prog W 0 sp held fuel 22 [.slice ad len cap] = some x) : ∃ l : List S4, l.length = len ∧ L4 W ad l := by
  rcases open_slice Tryz.underlying22 hf with ⟨hcs, _⟩ | ⟨z, l, c, m, n, D, Pl, hcs, hb, hl, hm, hmm, _, hall⟩
  · simp at hcs
    obtain ⟨rfl, rfl, rfl⟩ := hcs
    exact ⟨[], rfl, fun h => by simp at h⟩
  · simp at hcs
    obtain ⟨rfl, rfl, rfl⟩ := hcs
    have hlm : len ≤ m := by rw [hmm]; split <;> omega
    have key : ∀ i, i < len → ∃ s : S4, (W.cell? (z.add (i * 4)) = some (.int .i64 s.1) ∧ W.cell? (z.add (i * 4 + 1)) = some (.int .i64 s.2.1) ∧ W.cell? (z.add (i * 4 + 2)) = some (.int .i64 s.2.2.1) ∧ W.cell? (z.add (i * 4 + 3)) = some (.int .i64 s.2.2.2)) ∧ J64 s.2.1 ∧ J64 s.2.2.2 := by
      intro i hi
      obtain ⟨cs', h1, h2⟩ := hall i (by omega)
      rw [cellsStepC] at h1
      obtain ⟨_, _, hcell⟩ := World.cells?_some h1
      obtain ⟨d, a, b, c, rfl, ha, hc⟩ := open_step4 h2
      refine ⟨(d, a, b, c), ⟨?_, ?_, ?_, ?_⟩, ha, hc⟩
      · have := hcell 0 (by omega); rw [add_add] at this; simpa using this
      · have := hcell 1 (by omega); rw [add_add] at this; simpa using this
      · have := hcell 2 (by omega); rw [add_add] at this; simpa using this
      · have := hcell 3 (by omega); rw [add_add] at this; simpa using this
    obtain ⟨S, hS⟩ := choose_lt key
    refine ⟨(List.range len).map S, by simp, fun hp => ?_⟩
    simp only [List.length_map, List.length_range] at hp ⊢
    obtain ⟨b, o, spot⟩ := z
    have h0 := (hS 0 hp).1.1
    have hspot : spot = none := by simpa [Addr.add] using World.cell?_spot h0
    subst hspot
    refine ⟨b, o, rfl, World.block_lt_of_cell? W (⟨b, o, none⟩ : Addr) (by simpa [Addr.add] using h0), fun i hi => ?_⟩
    obtain ⟨⟨k0, k1, k2, k3⟩, k5⟩ := hS i hi
    have ea : ∀ j, (⟨b, o, none⟩ : Addr).add j = ⟨b, o + j, none⟩ := fun j => by simp [Addr.add]
    rw [ea] at k0 k1 k2 k3
    have eg : ((List.range len).map S).getD i (0, 0, 0, 0) = S i := by simp [hi]
    rw [eg]
    exact ⟨⟨k0, by rw [Nat.add_assoc]; exact k1, by rw [Nat.add_assoc]; exact k2, by rw [Nat.add_assoc]; exact k3⟩, k5⟩

end Go.Proofs.YtmocakafnnkjfabGreat

/- What the document's answers on words (WordOf, ValOf, Fits, HeadOf, PartsOf) return at whatever numbers: contracts, over the seat's own translation; nothing that was in memory turns. -/
namespace Go.Proofs.YtmocakafnnkjfabGreat
open Go.RowKit W

end Go.Proofs.YtmocakafnnkjfabGreat

/- What the document's answers on words that ask others (ValOf, HeadOf, PartsOf) return at whatever numbers: contracts, over the seat's own translation; nothing that was in memory turns. -/
namespace Go.Proofs.YtmocakafnnkjfabGreat
open Go.RowKit W

end Go.Proofs.YtmocakafnnkjfabGreat

/- The document's own arena (a Room) in memory: a struct of its own block, its words in another; what its functions that only look return: contracts, over the seat's own translation; nothing that was in memory turns. -/
namespace Go.Proofs.YtmocakafnnkjfabGreat
open Go.RowKit W

set_option maxRecDepth 100000 in
set_option maxHeartbeats 400000 in
theorem f_any (c a : Int) (w : World) :
    Calls Tryz.prog 51 #[.int .i64 c, .int .i64 a] w fun e w' => e = .returned (.agg #[.int .i64 c, .int .i64 a]) ∧ Below w.heap.size w w' := by
  go_enter Tryz.func51, Tryz.ntmps51
  go_wp2_with fail
  exact bodyPost_ret (v := .agg #[.int .i64 c, .int .i64 a]) (by simp [results, Tryz.results51, go_sem]) rfl ⟨rfl, (Below.refl _ _).alloc (Nat.le_refl _) _⟩

end Go.Proofs.YtmocakafnnkjfabGreat

/- What the document's own arena answers and leaves where it is made, and where a thing is made in it: contracts, over the seat's own translation; no block but the room's turns. -/
namespace Go.Proofs.YtmocakafnnkjfabGreat
open Go.RowKit W

set_option maxRecDepth 100000 in
set_option maxHeartbeats 400000 in
theorem roomFault_no (n o : Int) (w : World) (h : n < 16 ∨ 256 < n ∨ o < 0 ∨ 1024 < o) :
    Calls Tryz.prog 14 #[.int .i64 n, .int .i64 o] w fun e w' => e = .returned (.agg #[.int .i64 1, .int .i64 (-1)]) ∧ Below w.heap.size w w' := by
  have fin : ∀ (R : Ending → World → Prop), (∀ w1, Below (w.alloc (.cells #[.int .i64 0, .int .i64 0] 28)).heap.size (w.alloc (.cells #[.int .i64 0, .int .i64 0] 28)) w1 → R (.returned (.agg #[.int .i64 1, .int .i64 (-1)])) w1) → Calls Tryz.prog 51 #[.int .i64 1, .int .i64 (-1)] (w.alloc (.cells #[.int .i64 0, .int .i64 0] 28)) R := by
    intro R hR
    refine (f_any 1 (-1) _).mono ?_
    rintro e w1 ⟨rfl, hb⟩
    exact hR w1 hb
  by_cases h1 : n < 16
  · go_enter Tryz.func14, Tryz.ntmps14
    go_wp2_with fail
    refine fin _ ?_
    intro w1 hb
    obtain ⟨c0, c1, hz⟩ := cells2 hb
    obtain ⟨_, hf⟩ := bcell hb
    have f0 := hf w.heap.size 0 (by simp)
    have f1 := hf w.heap.size 1 (by simp)
    simp [go_sem] at f0 f1
    go_wp2_with fail
    exact bodyPost_ret (v := .agg #[.int .i64 1, .int .i64 (-1)]) (by simp [results, Tryz.results14, go_sem, c0, c1]) rfl ⟨rfl, ((((Below.refl _ _).alloc (Nat.le_refl _) _).trans (hb.mono (by simp))).setCell (Nat.le_refl _) _).setCell (Nat.le_refl _) _⟩
  by_cases h2 : 256 < n
  · go_enter Tryz.func14, Tryz.ntmps14
    go_wp2_with fail
    refine fin _ ?_
    intro w1 hb
    obtain ⟨c0, c1, hz⟩ := cells2 hb
    obtain ⟨_, hf⟩ := bcell hb
    have f0 := hf w.heap.size 0 (by simp)
    have f1 := hf w.heap.size 1 (by simp)
    simp [go_sem] at f0 f1
    go_wp2_with fail
    exact bodyPost_ret (v := .agg #[.int .i64 1, .int .i64 (-1)]) (by simp [results, Tryz.results14, go_sem, c0, c1]) rfl ⟨rfl, ((((Below.refl _ _).alloc (Nat.le_refl _) _).trans (hb.mono (by simp))).setCell (Nat.le_refl _) _).setCell (Nat.le_refl _) _⟩
  by_cases h3 : o < 0
  · go_enter Tryz.func14, Tryz.ntmps14
    go_wp2_with fail
    refine fin _ ?_
    intro w1 hb
    obtain ⟨c0, c1, hz⟩ := cells2 hb
    obtain ⟨_, hf⟩ := bcell hb
    have f0 := hf w.heap.size 0 (by simp)
    have f1 := hf w.heap.size 1 (by simp)
    simp [go_sem] at f0 f1
    go_wp2_with fail
    exact bodyPost_ret (v := .agg #[.int .i64 1, .int .i64 (-1)]) (by simp [results, Tryz.results14, go_sem, c0, c1]) rfl ⟨rfl, ((((Below.refl _ _).alloc (Nat.le_refl _) _).trans (hb.mono (by simp))).setCell (Nat.le_refl _) _).setCell (Nat.le_refl _) _⟩
  have h4 : 1024 < o := by omega
  go_enter Tryz.func14, Tryz.ntmps14
  go_wp2_with fail
  refine fin _ ?_
  intro w1 hb
  obtain ⟨c0, c1, hz⟩ := cells2 hb
  obtain ⟨_, hf⟩ := bcell hb
  have f0 := hf w.heap.size 0 (by simp)
  have f1 := hf w.heap.size 1 (by simp)
  simp [go_sem] at f0 f1
  go_wp2_with fail
  exact bodyPost_ret (v := .agg #[.int .i64 1, .int .i64 (-1)]) (by simp [results, Tryz.results14, go_sem, c0, c1]) rfl ⟨rfl, ((((Below.refl _ _).alloc (Nat.le_refl _) _).trans (hb.mono (by simp))).setCell (Nat.le_refl _) _).setCell (Nat.le_refl _) _⟩

end Go.Proofs.YtmocakafnnkjfabGreat

/- MajorSlides: its walk. -/
namespace Go.Proofs.YtmocakafnnkjfabGreat.MSd
open Go.RowKit W Kp Stl

theorem run_code (x y : Value) (w : World) : Sem.run Tryz.prog (Instr.field 28 (.agg #[x, y]) 0) w = .ok x w := by
  unfold Instr.field
  simp [go_sem]
  rfl
theorem cellx {w : World} {xb : Nat} {d A B C : Value} (hx : w.heap[xb]? = some (.cells #[d, A, B, C] 31 (0, 0))) : w.cell? ⟨xb, 0, none⟩ = some d ∧ w.cell? ⟨xb, 1, none⟩ = some A ∧ w.cell? ⟨xb, 2, none⟩ = some B ∧ w.cell? ⟨xb, 3, none⟩ = some C := by
  refine ⟨?_, ?_, ?_, ?_⟩ <;> simp [World.cell?, hx]
set_option maxRecDepth 100000 in
set_option maxHeartbeats 2000000 in
theorem walk (n o : Int) (a : Option Addr) (cc : Nat) (l : List S4) (w : World) (hl : L4 w a l) :
    Calls Tryz.prog 9 #[.int .i64 n, .int .i64 o, .slice a l.length cc] w fun e w' => e = .returned (.bool true) ∧ Below w.heap.size w w' := by
  have HL : Hid (L4 w a l) := hl
  clear hl
  by_cases hlen : 250 < l.length
  · go_enter Tryz.func9, Tryz.ntmps9
    go_wp2_with fail
    refine (majorBegun_any w).mono ?_
    rintro e w1 ⟨rfl, hb1⟩
    have h2 : (250 : Int) < (l.length : Int) := by omega
    go_wp2_with fail
    go_ret
    exact ⟨rfl, hb1⟩
  · have h2 : ¬ ((250 : Int) < (l.length : Int)) := by omega
    by_cases hno : n < 16 ∨ 256 < n ∨ o < 0 ∨ 1024 < o
    · have HNO : Hid (n < 16 ∨ 256 < n ∨ o < 0 ∨ 1024 < o) := hno
      clear hno
      go_enter Tryz.func9, Tryz.ntmps9
      go_wp2_with fail
      refine (majorBegun_any w).mono ?_
      rintro e w1 ⟨rfl, hb1⟩
      go_wp2_with fail
      refine (start_no n o w1 HNO.out).mono ?_
      rintro e w2 ⟨rfl, hb2⟩
      go_wp2_with fail
      refine (roomFault_no n o w2 HNO.out).mono ?_
      rintro e w3 ⟨rfl, hb3⟩
      have hB2 := hb1.trans (hb2.mono hb1.size)
      have hrn := run_code (.int .i64 1) (.int .i64 (-1))
      go_wp2_with fail
      go_ret
      exact ⟨rfl, hB2.trans (hb3.mono hB2.size)⟩
    · have hn0 : 16 ≤ n ∧ n ≤ 256 ∧ 0 ≤ o ∧ o ≤ 1024 := by omega
      obtain ⟨n, rfl⟩ := Int.eq_ofNat_of_zero_le (show 0 ≤ n by omega)
      obtain ⟨o, rfl⟩ := Int.eq_ofNat_of_zero_le (show 0 ≤ o by omega)
      go_enter Tryz.func9, Tryz.ntmps9
      go_wp2_with fail
      refine (majorBegun_any w).mono ?_
      rintro e w1 ⟨rfl, hb1⟩
      go_wp2_with fail
      refine (start_yes n o w1 (by omega) (by omega) (by omega)).mono ?_
      rintro e w2 ⟨c, F1, rfl, j1, ⟨k1, k2, k3, k4⟩, g1, b1⟩
      have HC : Hid (c.a.N = n ∧ c.a.O = o) := ⟨k1, k2⟩
      have H2 : Hid ((boO c).J F1 (bo0 n o) w2 ∧ Sv1 c.a (bo0 n o).1 ∧ ∀ b, F1 b → w1.heap.size ≤ b) := ⟨j1, Sv1.start c.a n o, g1⟩
      have HB2 : Hid (Below w1.heap.size w1 w2) := b1
      clear j1 k1 k2 k3 k4 g1 b1 hno hn0
      go_wp2_with fail
      go_loopw [9, 10] (fun nv iv wr => ∃ (j m : Nat) (S : Ww × Wrs) (F : Nat → Prop), j ≤ l.length ∧ m ≤ j ∧ nv = .int .i64 m ∧ iv = .int .i64 j ∧ Hid ((boO c).J F S wr ∧ Sv1 c.a S.1 ∧ ∀ b, F b → w1.heap.size ≤ b) ∧ Hid (Below w1.heap.size w1 wr)) (fun _ iv _ => l.length - (intOf iv).toNat)
      case atStart => exact ⟨0, 0, bo0 n o, F1, Nat.zero_le _, Nat.le_refl _, rfl, rfl, H2, HB2⟩
      case round =>
        clear H2 HB2
        obtain ⟨j, m, S, F, hj, hm, rfl, rfl, H, HB⟩ := hrel
        by_cases hlt : j < l.length
        · obtain ⟨b0, p0, e0, l0, hc⟩ := HL.out (by omega)
          obtain ⟨⟨x1, x2, x3, x4⟩, _, _⟩ := hc j hlt
          subst e0
          clear hc
          have hbw := hb1.trans (HB.out.mono hb1.size)
          have y1 := (hbw.cell (p := ⟨b0, p0 + j * 4, none⟩) l0).trans x1
          have y2 := (hbw.cell (p := ⟨b0, p0 + j * 4 + 1, none⟩) l0).trans x2
          have y3 := (hbw.cell (p := ⟨b0, p0 + j * 4 + 2, none⟩) l0).trans x3
          have y4 := (hbw.cell (p := ⟨b0, p0 + j * 4 + 3, none⟩) l0).trans x4
          clear x1 x2 x3 x4 hbw l0
          generalize (l.getD j (0, 0, 0, 0)).1 = d at *
          generalize (l.getD j (0, 0, 0, 0)).2.1 = A at *
          generalize (l.getD j (0, 0, 0, 0)).2.2.1 = B at *
          generalize (l.getD j (0, 0, 0, 0)).2.2.2 = C at *
          have j0 : (0 : Int) ≤ (j : Int) := by omega
          have j1 : (j : Int) < (l.length : Int) := by omega
          have hba := (Below.refl wr.heap.size wr).alloc (Nat.le_refl _) (.cells #[.int .i64 d, .int .i64 A, .int .i64 B, .int .i64 C] 31)
          have hnb : c.a.nb < wr.heap.size := (bo_all H.out.1).2.2.2.2.2.2.2.2.1
          have hFx : ¬ F wr.heap.size := fun d => by have := (boO c).lt H.out.1 _ d; omega
          have H4 : Hid ((boO c).J F S _ ∧ Sv1 c.a S.1 ∧ (∀ b, F b → w1.heap.size ≤ b) ∧ ¬ F wr.heap.size) := ⟨(boO c).below H.out.1 hba, H.out.2.1, H.out.2.2, hFx⟩
          have HB4 : Hid (Below w1.heap.size w1 _) := HB.out.trans (hba.mono HB.out.size)
          have HX4 : Hid (_ = _) := heap_alloc_new wr (.cells #[.int .i64 d, .int .i64 A, .int .i64 B, .int .i64 C] 31)
          clear H HB hba hFx
          go_upto_region 13 with fail
          generalize wr.alloc (.cells #[.int .i64 d, .int .i64 A, .int .i64 B, .int .i64 C] 31) = w4 at *
          generalize wr.heap.size = xb at *
          obtain ⟨z0, z1, z2, z3⟩ := cellx HX4.out
          clear y1 y2 y3 y4
          have hwb := bo_wbd H4.out.1
          have kc0 := rtN_lt C
          have hn250 : m < 250 := by omega
          have nx1 : xb ≠ c.a.nb := by omega
          have nx2 : c.a.nb ≠ xb := by omega
          by_cases hd0 : d = 0
          · subst hd0
            have P := makeB_any H4.out.1 2 1
            obtain ⟨_, _, c0, _, b0c⟩ := bo_blk H4.out.1
            cases hmk : mkB c.a.N S.1.s.y 2 1
            · obtain ⟨e1, e2, e3⟩ := mk_none (ws := S.1.s.ws) hmk
              rw [e1, e2, e3] at P
              have P : Calls Tryz.prog 33 #[.pointer (some ⟨c.a.p, 0, none⟩), .int .i64 2, .int .i64 1] w4 fun e w' => ∃ F', e = .returned (.int .i64 (-1)) ∧ (boO c).J F' S w' ∧ Tn F w4 F' w' := P
              clear e1 e2 e3 hmk hwb
              as_aux_lemma =>
              go_wp2_with fail
              refine P.mono ?_
              clear P
              rintro e w5 ⟨F5, rfl, j5, t5⟩
              have H5 : Hid ((boO c).J F5 S w5 ∧ Sv1 c.a S.1 ∧ ∀ b, F5 b → w1.heap.size ≤ b) := ⟨j5, H4.out.2.1, fun b d => (t5.sub b d).elim (H4.out.2.2.1 b) (fun e => Nat.le_trans HB4.out.size e)⟩
              have HB5 : Hid (Below w1.heap.size w1 w5) := HB4.out.trans (t5.fr.below HB4.out.size H4.out.2.2.1)
              clear j5 t5
              go_wp2_with fail
              go_roundw
              case rel => exact ⟨j + 1, m, S, F5, by omega, by omega, rfl, by go_num, H5, HB5⟩
              case measure => simp [intOf]; omega
            · obtain ⟨e1, e3, e4⟩ := mk_some hmk
              have HSV : Hid (Sv1 c.a ⟨{ S.1.s with y := mkY c.a.N S.1.s.y 2 1, ws := (mkW c.a.N S.1.s.y 2 1 S.1.s.ws).set (S.1.s.y + 1) (4 * (m : Int)), rs := S.1.s.rs.set (rtN C) (ew 3 S.1.s.y) }, S.1.r, S.1.q⟩) := H4.out.2.1.made hwb hmk (aB_four m (by omega)) (rtN C)
              rw [e3] at P
              have HY : Hid (mkY c.a.N S.1.s.y 2 1 = S.1.s.y + 2) := e1
              generalize mkY c.a.N S.1.s.y 2 1 = y9 at P HSV HY
              generalize mkW c.a.N S.1.s.y 2 1 S.1.s.ws = ws9 at P HSV
              have gN := hwb.n1
              have yb : (S.1.s.y : Int) ≤ 256 := by omega
              have y0b : (0 : Int) ≤ S.1.s.y := by omega
              clear e1 e3 e4 hmk hwb
              as_aux_lemma =>
              go_wp2_with fail
              refine P.mono ?_
              clear P
              rintro e w5 ⟨F5, rfl, j5, t5⟩
              obtain ⟨_, _, c0, _, b0c⟩ := bo_blk j5
              have P := storeB_any j5 ((S.1.s.y : Int) + 1) (4 * (m : Int))
              have hib : iB c.a.N y9 S.1.s.g ((S.1.s.y : Int) + 1) = true := iB_y (by omega) (by have := HY.out; omega)
              dsimp only at P c0
              rw [hib, if_pos rfl, show ((S.1.s.y : Int) + 1).toNat = S.1.s.y + 1 from by omega] at P
              have HT5 : Hid (Tn F w4 F5 w5) := t5
              have yv0 : (0 : Int) ≤ S.1.s.y := by omega
              have hw1 : IntKind.i64.wrap ((S.1.s.y : Int) + 1) = (S.1.s.y : Int) + 1 := by rw [IntKind.wrap_i64]; omega
              have hw2 : IntKind.i64.wrap (4 * (m : Int)) = 4 * (m : Int) := by rw [IntKind.wrap_i64]; omega
              clear j5 t5 hib
              go_wp2_with fail
              refine P.mono ?_
              clear P
              rintro e w6 ⟨F6, rfl, j6, t6⟩
              have HT6 : Hid (Tn F w4 F6 w6) := HT5.out.trans t6
              have hx6 : w6.heap[xb]? = some (.cells #[.int .i64 0, .int .i64 A, .int .i64 B, .int .i64 C] 31 (0, 0)) := (HT6.out.fr.block xb (lt_of_some HX4.out) H4.out.2.2.2).trans HX4.out
              obtain ⟨_, _, _, q3⟩ := cellx hx6
              obtain ⟨u0, u1, u2, u3, u5, u6, l1, l2, l3, n1, n2, n3⟩ := bo_all j6
              obtain ⟨u7, u8⟩ := u6 (rtN C) kc0
              have RF := ref_any (S.1.s.y : Int) w6.drew
              have RC := root_any C
              have lx := lt_of_some hx6
              have HJ6 : Hid ((boO c).J F6 (⟨{ S.1.s with y := y9, ws := ws9.set (S.1.s.y + 1) (4 * (m : Int)) }, S.1.r, S.1.q⟩, S.2) w6) := j6
              have i0 : (0 : Int) ≤ (rtN C : Int) := by omega
              have i1 : (rtN C : Int) < 12 := by omega
              clear j6 t6 u6 hx6 HT5 u1 u2 u3
              generalize rtN C = kc at *
              generalize ew 3 (S.1.s.y : Int) = xw at *
              go_wp2_with fail
              go_region_held3 (fun w' => w'.cell? ⟨c.pb, 0, none⟩ = some (.pointer (some ⟨c.a.pw, 0, none⟩)) ∧ w'.cell? ⟨c.a.pw, 3, none⟩ = some (.slice (some ⟨c.a.nb, 0, none⟩) 12 12) ∧ w'.cell? ⟨xb, 3, none⟩ = some (.int .i64 C)) (go_keep)
                (first
                  | (go_at_call 36; refine (RC _).mono ?_; rintro e w9 ⟨rfl, hw9⟩; have hw9 := hw9.symm; subst hw9)
                  | (go_at_call 35; refine RF.mono ?_; clear RF; rintro e w7 ⟨rfl, hb7⟩; have hb7 : Below w6.heap.size w6 w7 := (Below.refl w6.heap.size w6).drew.trans hb7; have v0 := (hb7.cell (p := ⟨c.pb, 0, none⟩) l1).trans u0; have v1 := (hb7.cell (p := ⟨c.a.pw, 3, none⟩) l2).trans u5; have v2 := (hb7.cell (p := ⟨c.a.nb, kc, none⟩) l3).trans u7; have v3 := (hb7.frozen (p := ⟨c.a.nb, kc, none⟩) l3).trans u8; have v4 := (hb7.cell (p := ⟨xb, 3, none⟩) lx).trans q3; have HB7 : Hid (Below w6.heap.size w6 w7) := hb7; clear hb7))
              all_goals
                obtain ⟨F8, j8, t8⟩ := bo_root ((boO c).below HJ6.out HB7.out) kc xw
                have HT8 := (HT6.out.below HB7.out).trans t8
                have H5 : Hid ((boO c).J F8 (⟨{ S.1.s with y := y9, ws := ws9.set (S.1.s.y + 1) (4 * (m : Int)), rs := S.1.s.rs.set kc xw }, S.1.r, S.1.q⟩, S.2) (w7.setCell ⟨c.a.nb, kc, none⟩ (.int .i64 xw)) ∧ Sv1 c.a ⟨{ S.1.s with y := y9, ws := ws9.set (S.1.s.y + 1) (4 * (m : Int)), rs := S.1.s.rs.set kc xw }, S.1.r, S.1.q⟩ ∧ ∀ b, F8 b → w1.heap.size ≤ b) := ⟨j8, HSV.out, fun b d => (HT8.sub b d).elim (H4.out.2.2.1 b) (fun e => Nat.le_trans HB4.out.size e)⟩
                have HB5 : Hid (Below w1.heap.size w1 (w7.setCell ⟨c.a.nb, kc, none⟩ (.int .i64 xw))) := HB4.out.trans (HT8.fr.below HB4.out.size H4.out.2.2.1)
                clear j8 t8 HT8 v0 v1 v2 v3 v4 u0 u5 u7 u8 q3 HJ6 HB7
                go_wp2_with fail
                go_roundw
                case rel => exact ⟨j + 1, m + 1, _, F8, by omega, by omega, by go_num, by go_num, H5, HB5⟩
                case measure => simp [intOf]; omega
          · have d0 : (d == 0) = false := by simpa using hd0
            by_cases hd4 : d = 4
            · subst hd4
              have HSV : Hid (Sv1 c.a ⟨{ S.1.s with rs := S.1.s.rs.set (rtN C) 2 }, S.1.r, S.1.q⟩) := H4.out.2.1.root (rtN C)
              obtain ⟨u0, u1, u2, u3, u5, u6, l1, l2, l3, n1, n2, n3⟩ := bo_all H4.out.1
              obtain ⟨u7, u8⟩ := u6 (rtN C) kc0
              have RC := root_any C
              have lx := lt_of_some HX4.out
              have i0 : (0 : Int) ≤ (rtN C : Int) := by omega
              have i1 : (rtN C : Int) < 12 := by omega
              clear u6 u1 u2 u3 hwb
              generalize rtN C = kc at *
              as_aux_lemma =>
              go_wp2_with fail
              go_region_held3 (fun w' => w'.cell? ⟨c.pb, 0, none⟩ = some (.pointer (some ⟨c.a.pw, 0, none⟩)) ∧ w'.cell? ⟨c.a.pw, 3, none⟩ = some (.slice (some ⟨c.a.nb, 0, none⟩) 12 12) ∧ w'.cell? ⟨xb, 3, none⟩ = some (.int .i64 C)) (go_keep)
                (first
                  | (go_at_call 36; refine (RC _).mono ?_; rintro e w9 ⟨rfl, hw9⟩; have hw9 := hw9.symm; subst hw9)
                  | (go_at_call 37; refine (nil_any _).mono ?_; rintro e w9 ⟨rfl, hw9⟩; have hw9 := hw9.symm; subst hw9))
              all_goals
                have hbd := (Below.refl w4.heap.size w4).drew
                obtain ⟨F8, j8, t8⟩ := bo_root ((boO c).below H4.out.1 hbd) kc 2
                have HT8 : Tn F w4 F8 (w4.drew.setCell ⟨c.a.nb, kc, none⟩ (.int .i64 2)) := (Tn.of hbd).trans t8
                have H5 : Hid ((boO c).J F8 (⟨{ S.1.s with rs := S.1.s.rs.set kc 2 }, S.1.r, S.1.q⟩, S.2) (w4.drew.setCell ⟨c.a.nb, kc, none⟩ (.int .i64 2)) ∧ Sv1 c.a ⟨{ S.1.s with rs := S.1.s.rs.set kc 2 }, S.1.r, S.1.q⟩ ∧ ∀ b, F8 b → w1.heap.size ≤ b) := ⟨j8, HSV.out, fun b d => (HT8.sub b d).elim (H4.out.2.2.1 b) (fun e => Nat.le_trans HB4.out.size e)⟩
                have HB5 : Hid (Below w1.heap.size w1 (w4.drew.setCell ⟨c.a.nb, kc, none⟩ (.int .i64 2))) := HB4.out.trans (HT8.fr.below HB4.out.size H4.out.2.2.1)
                clear j8 t8 HT8 u0 u5 u7 u8 hbd
                go_wp2_with fail
                go_roundw
                case rel => exact ⟨j + 1, m, _, F8, by omega, by omega, rfl, by go_num, H5, HB5⟩
                case measure => simp [intOf]; omega
            · have d4 : (d == 4) = false := by simpa using hd4
              by_cases hd6 : d = 6
              · subst hd6
                have PC := cutB_any H4.out.1 (by rw [H4.out.2.1.r, H4.out.2.1.q]; decide)
                have HN : Hid (Sv1 c.a (S.1.cut c.a)) := H4.out.2.1.cut hwb
                obtain ⟨_, _, _, _, b0c⟩ := bo_blk H4.out.1
                clear hwb
                as_aux_lemma =>
                go_wp2_with fail
                refine PC.mono ?_
                clear PC
                rintro e w5 ⟨F5, rfl, j5, t5⟩
                have H5 : Hid ((boO c).J F5 (S.1.cut c.a, S.2) w5 ∧ Sv1 c.a (S.1.cut c.a) ∧ ∀ b, F5 b → w1.heap.size ≤ b) := ⟨j5, HN.out, fun b d => (t5.sub b d).elim (H4.out.2.2.1 b) (fun e => Nat.le_trans HB4.out.size e)⟩
                have HB5 : Hid (Below w1.heap.size w1 w5) := HB4.out.trans (t5.fr.below HB4.out.size H4.out.2.2.1)
                clear j5 t5
                go_wp2_with fail
                go_roundw
                case rel => exact ⟨j + 1, m, (S.1.cut c.a, S.2), F5, by omega, by omega, rfl, by go_num, H5, HB5⟩
                case measure => simp [intOf]; omega
              · have d6 : (d == 6) = false := by simpa using hd6
                by_cases hd7 : d = 7
                · subst hd7
                  have PC := cutGB_any H4.out.1 (by rw [H4.out.2.1.r, H4.out.2.1.q]; decide) (great_strong H4.out.2.1.so hwb).1
                  have HN : Hid (Sv1 c.a (S.1.gcut c.a)) := (H4.out.2.1.gcut hwb).1
                  obtain ⟨_, _, _, _, b0c⟩ := bo_blk H4.out.1
                  clear hwb
                  as_aux_lemma =>
                  go_wp2_with fail
                  refine PC.mono ?_
                  clear PC
                  rintro e w5 ⟨F5, rfl, j5, t5⟩
                  have H5 : Hid ((boO c).J F5 (S.1.gcut c.a, S.2) w5 ∧ Sv1 c.a (S.1.gcut c.a) ∧ ∀ b, F5 b → w1.heap.size ≤ b) := ⟨j5, HN.out, fun b d => (t5.sub b d).elim (H4.out.2.2.1 b) (fun e => Nat.le_trans HB4.out.size e)⟩
                  have HB5 : Hid (Below w1.heap.size w1 w5) := HB4.out.trans (t5.fr.below HB4.out.size H4.out.2.2.1)
                  clear j5 t5
                  go_wp2_with fail
                  go_roundw
                  case rel => exact ⟨j + 1, m, (S.1.gcut c.a, S.2), F5, by omega, by omega, rfl, by go_num, H5, HB5⟩
                  case measure => simp [intOf]; omega
                · have d7 : (d == 7) = false := by simpa using hd7
                  have H5 : Hid ((boO c).J F S w4 ∧ Sv1 c.a S.1 ∧ ∀ b, F b → w1.heap.size ≤ b) := ⟨H4.out.1, H4.out.2.1, H4.out.2.2.1⟩
                  go_wp2_with fail
                  go_roundw
                  case rel => exact ⟨j + 1, m, S, F, by omega, by omega, rfl, by go_num, H5, HB4⟩
                  case measure => simp [intOf]; omega
        · obtain rfl : j = l.length := by omega
          clear hlt HL
          have hwb := bo_wbd H.out.1
          obtain ⟨ha0, _, c0, _, b0c⟩ := bo_blk H.out.1
          have PN := numbers_any wr ha0 b0c c0
          obtain ⟨gsl, _, _, gv1, gv2, gf⟩ := great_strong H.out.2.1.so hwb
          obtain ⟨_, gcz⟩ := H.out.2.1.gcut hwb
          have lF : Hid (∀ b, F b → b < wr.heap.size) := (boO c).lt H.out.1
          have HG : Hid ((S.1.jfull c.a = false → ∃ G, SlG (S.1.k5 c.a) (S.1.j5 c.a) G ∧ G 0 (S.1.k5 c.a, 0)) ∧ S.1.r = [] ∧ S.1.q = [] ∧ (S.1.gcut c.a).q = []) := ⟨gsl, H.out.2.1.r, H.out.2.1.q, (H.out.2.1.gcut hwb).1.q⟩
          have HZ : Hid (S.1.gcode c.a = 0 → (S.1.gcut c.a).s.y = 0 ∧ (S.1.gcut c.a).s.g = 2 * (nmL c.a.N (S.1.gcut c.a).s.y (S.1.gcut c.a).s.g (S.1.gcut c.a).s.ws).length ∧ (nmL c.a.N (S.1.gcut c.a).s.y (S.1.gcut c.a).s.g (S.1.gcut c.a).s.ws).Sublist (nmL c.a.N S.1.s.y S.1.s.g S.1.s.ws) ∧ szV (vwL c.a.N (S.1.gcut c.a).s.y (S.1.gcut c.a).s.g (S.1.gcut c.a).s.ws (S.1.gcut c.a).q (S.1.gcut c.a).s.rs).2.2 = (S.1.gcut c.a).s.g) := fun e => by
            obtain ⟨q1, q2, q3⟩ := gcz e
            refine ⟨q1, q2, q3, ?_⟩
            rw [gv2]
            rcases gf with ⟨_, _, f3, _⟩ | ⟨f1, _⟩
            · exact f3.symm
            · rw [f1] at e
              omega
          have hcd : S.1.gcode c.a = 0 ∨ S.1.gcode c.a = 3 := by
            rcases gf with ⟨f1, _⟩ | ⟨f1, _⟩
            · exact Or.inl f1
            · exact Or.inr f1
          have HLN : Hid ((nmL c.a.N S.1.s.y S.1.s.g S.1.s.ws).length ≤ 4000) := by
            show _ ≤ _
            unfold nmL
            rw [List.length_append, List.length_map, List.length_map]
            have q1 : (thO c.a.N S.1.s.y S.1.s.g S.1.s.ws).length ≤ 2000 := ths_le _ _
            have q2 : (thY c.a.N S.1.s.y S.1.s.g S.1.s.ws).length ≤ 2000 := ths_le _ _
            omega
          have PC0 : Hid (∀ w', Below wr.heap.size wr w' → Calls Tryz.prog 32 #[.pointer (some ⟨c.a.pw, 0, none⟩)] w' fun e w'' => ∃ F', e = .returned (.int .i64 (S.1.gcode c.a)) ∧ (boO c).J F' (S.1.gcut c.a, S.2) w'' ∧ Tn F w' F' w'') := fun w' hb => cutGB_any ((boO c).below H.out.1 hb) (by rw [HG.out.2.1, HG.out.2.2.1]; decide) HG.out.1
          have HQ : Hid ((S.1.gcut c.a).q = []) := HG.out.2.2.2
          clear gsl gv1 gv2 gf gcz hwb ha0 HG
          generalize nmL c.a.N S.1.s.y S.1.s.g S.1.s.ws = lb at *
          generalize S.1.gcut c.a = S3 at *
          generalize S.1.gcode c.a = cd at *
          as_aux_lemma =>
          go_wp2_with fail
          refine PN.mono ?_
          clear PN
          rintro e w5 ⟨ab, db, rfl, hrb, hb5⟩
          have J5 := (boO c).below H.out.1 hb5
          obtain ⟨_, _, c0, _, b0c⟩ := bo_blk J5
          have PC := PC0.out w5 hb5
          have HR5 : Hid (w5.ownsRow wr.heap.size 2 1 (.slice ab lb.length db) lb.length (lb.map (Value.int .i64)) ∧ Below w1.heap.size w1 w5) := ⟨hrb, HB.out.trans (hb5.mono HB.out.size)⟩
          clear hrb hb5 J5 PC0
          go_wp2_with fail
          refine PC.mono ?_
          clear PC
          rintro e w6 ⟨F6, rfl, j6, t6⟩
          have HB6 : Hid (Below w1.heap.size w1 w6) := HR5.out.2.trans (t6.fr.below HR5.out.2.size H.out.2.2)
          rcases hcd with hcd | hcd
          · subst hcd
            obtain ⟨g1, g2, g3, g4⟩ := HZ.out rfl
            have HR6 : Hid (w6.ownsRow wr.heap.size 2 1 (.slice ab lb.length db) lb.length (lb.map (Value.int .i64))) := row_fr HR5.out.1 t6.fr (fun b e d => by have := (row_lt HR5.out.1 b e).1; have := lF.out b d; omega)
            obtain ⟨ha6, _, c0, _, b0c⟩ := bo_blk j6
            have PN := numbers_any w6 ha6 b0c c0
            have HJ6 : Hid ((boO c).J F6 (S3, S.2) w6) := j6
            obtain ⟨bd1, bd2, bd3⟩ := view_bd c.a.N S3.s.y S3.s.g S3.s.ws S3.q S3.s.rs
            have hwb6 := (bo_wbd j6).g1
            have hwb7 := (bo_wbd j6).o1
            have PV : Hid (∀ w', Below w6.heap.size w6 w' → Calls Tryz.prog 20 #[.pointer (some ⟨c.a.pw, 0, none⟩)] w' fun e w'' => ∃ r2 d2 na nn nc, e = .returned (.agg #[.slice r2 12 d2, .slice na nn nc]) ∧ Lp w'' r2 (vwL c.a.N S3.s.y S3.s.g S3.s.ws S3.q S3.s.rs).1 ∧ Ln w'' na (vwL c.a.N S3.s.y S3.s.g S3.s.ws S3.q S3.s.rs).2.2 ∧ nn = (vwL c.a.N S3.s.y S3.s.g S3.s.ws S3.q S3.s.rs).2.2.length ∧ Below w'.heap.size w' w'') := fun w' hb => by
              refine (viewB_any ((boO c).below HJ6.out hb) (by dsimp only; rw [HQ.out]; decide)).mono ?_
              rintro e w'' ⟨r2, d2, na, nn, nc, rfl, q1, q2, q3, q4⟩
              dsimp only at q1 q2 q3
              exact ⟨r2, d2, na, nn, nc, rfl, q1, q2, q3, q4⟩
            have PU : Hid (∀ w', Below w6.heap.size w6 w' → Calls Tryz.prog 21 #[.pointer (some ⟨c.a.p, 0, none⟩)] w' fun e w'' => e = .returned (.tuple #[.int .i64 S3.s.y, .int .i64 S3.s.g]) ∧ Below w'.heap.size w' w'') := fun w' hb => by
              have q := usedB_any ((boO c).below HJ6.out hb)
              dsimp only at q
              exact q
            have hq0 : S3.q.length = 0 := by rw [HQ.out]; rfl
            dsimp only at PN hwb6 c0
            have lpb := World.block_lt_of_cell? w6 _ b0c
            have lpw := World.block_lt_of_cell? w6 _ c0
            clear j6 t6 ha6 HZ
            generalize nmL c.a.N S3.s.y S3.s.g S3.s.ws = la at PN g2 g3
            generalize (vwL c.a.N S3.s.y S3.s.g S3.s.ws S3.q S3.s.rs) = V at PV bd1 bd2 bd3 g4
            have lla : la.length ≤ lb.length := g3.length_le
            have llb := HLN.out
            go_wp2_with fail
            refine PN.mono ?_
            clear PN
            rintro e w7 ⟨aa, da, rfl, hra, hb7⟩
            have P2 := PU.out w7 hb7
            rw [g1, g2, show ((0 : Nat) : Int) = 0 from rfl, show ((2 * la.length : Nat) : Int) = 2 * (la.length : Int) from by omega] at P2
            have e0 := (hb7.cell (p := ⟨c.pb, 0, none⟩) lpb).trans b0c
            have e1 := (hb7.cell (p := ⟨c.a.pw, 0, none⟩) lpw).trans c0
            have HR7 : Hid (w7.ownsRow wr.heap.size 2 1 (.slice ab lb.length db) lb.length (lb.map (Value.int .i64)) ∧ w7.ownsRow w6.heap.size 2 1 (.slice aa la.length da) la.length (la.map (Value.int .i64)) ∧ Below w6.heap.size w6 w7) := ⟨row_keep HR6.out (fun b e => hb7.block b (row_lt HR6.out b e).2), hra, hb7⟩
            clear hra hb7 b0c c0 PU HR6
            go_wp2_with fail
            refine P2.mono ?_
            clear P2
            rintro e w8 ⟨rfl, hb8⟩
            have HR8 : Hid (w8.ownsRow wr.heap.size 2 1 (.slice ab lb.length db) lb.length (lb.map (Value.int .i64)) ∧ w8.ownsRow w6.heap.size 2 1 (.slice aa la.length da) la.length (la.map (Value.int .i64)) ∧ Below w6.heap.size w6 w8) := ⟨row_keep HR7.out.1 (fun b e => hb8.block b (row_lt HR7.out.1 b e).2), row_keep HR7.out.2.1 (fun b e => hb8.block b (row_lt HR7.out.2.1 b e).2), HR7.out.2.2.trans (hb8.mono HR7.out.2.2.size)⟩
            have HG3 : Hid (la.Sublist lb) := g3
            have HG4 : Hid (szV V.2.2 = 2 * la.length) := by show _ = _; rw [g4, g2]
            have HE8 : Hid (w8.cell? ⟨c.pb, 0, none⟩ = some (.pointer (some ⟨c.a.pw, 0, none⟩)) ∧ c.pb < w8.heap.size) := by
              have q := World.block_lt_of_cell? w7 _ e0
              exact ⟨(hb8.cell (p := ⟨c.pb, 0, none⟩) q).trans e0, Nat.lt_of_lt_of_le q hb8.size⟩
            clear hb8 HR7 e0 e1 g1 g2 g3 g4
            go_wp2_with fail
            go_loopw [17, 18] (fun kv iv wq => ∃ i k : Nat, i ≤ lb.length ∧ k ≤ la.length ∧ kv = .int .i64 k ∧ iv = .int .i64 i ∧ Hid ((la.drop k).Sublist (lb.drop i) ∧ Below w8.heap.size w8 wq)) (fun _ iv _ => lb.length - (intOf iv).toNat)
            case atStart => exact ⟨0, 0, Nat.zero_le _, Nat.zero_le _, rfl, rfl, by simpa using HG3.out, Below.refl _ _⟩
            case round =>
              obtain ⟨i, k, hi, hk, rfl, rfl, HS⟩ := hrel
              by_cases hlt : i < lb.length ∧ k < la.length
              · obtain ⟨zb, zo, ez, lz, hcb⟩ := row_ints HR8.out.1 (by omega)
                obtain ⟨yb, yo, ey, ly, hca⟩ := row_ints HR8.out.2.1 (by omega)
                have x1 := (HS.out.2.cell (p := ⟨zb, zo + i, none⟩) lz).trans (hcb i hlt.1)
                have x2 := (HS.out.2.cell (p := ⟨yb, yo + k, none⟩) ly).trans (hca k hlt.2)
                have eb : lb.drop i = lb.getD i 0 :: lb.drop (i + 1) := by
                  rw [List.drop_eq_getElem_cons hlt.1, List.getD_eq_getElem?_getD, List.getElem?_eq_getElem hlt.1]
                  rfl
                have ea : la.drop k = la.getD k 0 :: la.drop (k + 1) := by
                  rw [List.drop_eq_getElem_cons hlt.2, List.getD_eq_getElem?_getD, List.getElem?_eq_getElem hlt.2]
                  rfl
                generalize lb.getD i 0 = x at x1 eb
                generalize la.getD k 0 = y at x2 ea
                have HD : Hid ((y :: la.drop (k + 1)).Sublist (x :: lb.drop (i + 1)) ∧ (y :: la.drop (k + 1)) = la.drop k) := ⟨by rw [← ea, ← eb]; exact HS.out.1, ea.symm⟩
                have t0 : (0 : Int) ≤ (i : Int) := by omega
                have t1 : (i : Int) < (lb.length : Int) := by omega
                have t2 : (0 : Int) ≤ (k : Int) := by omega
                have t3 : (k : Int) < (la.length : Int) := by omega
                have hi2 := hlt.1
                have hk2 := hlt.2
                clear hlt hcb hca eb ea lz ly
                subst ez
                subst ey
                have HBq : Hid (Below w8.heap.size w8 wr) := HS.out.2
                clear HS
                by_cases exy : x = y
                · subst exy
                  have HD2 : Hid ((la.drop (k + 1)).Sublist (lb.drop (i + 1))) := List.cons_sublist_cons.1 HD.out.1
                  clear HD
                  go_wp2_with fail
                  go_quiet (fail)
                  go_wp2_with fail
                  go_roundw
                  case rel => exact ⟨i + 1, k + 1, by omega, by omega, by go_num, by go_num, HD2.out, below_drewN HBq.out _⟩
                  case measure => simp [intOf]; omega
                · have hne : (x == y) = false := by simpa using exy
                  have HD2 : Hid ((la.drop k).Sublist (lb.drop (i + 1))) := by
                    have q := HD.out.1
                    rw [← HD.out.2]
                    cases q with
                    | cons _ q => exact q
                    | cons_cons _ q => exact absurd rfl exy
                  clear HD
                  go_wp2_with fail
                  go_quiet (fail)
                  go_wp2_with fail
                  go_roundw
                  case rel => exact ⟨i + 1, k, by omega, by omega, rfl, by go_num, HD2.out, below_drewN HBq.out _⟩
                  case measure => simp [intOf]; omega
              · have hk' : k = la.length := by
                  have q := HS.out.1
                  by_cases c : i < lb.length
                  · omega
                  · have e : lb.drop i = [] := List.drop_eq_nil_of_le (by omega)
                    rw [e] at q
                    have q2 := List.drop_eq_nil_iff.1 (List.sublist_nil.1 q)
                    omega
                subst hk'
                have HB9 : Hid (Below w8.heap.size w8 wr) := HS.out.2
                have PV9 := PV.out wr (HR8.out.2.2.trans (HB9.out.mono HR8.out.2.2.size))
                have v0 := (HB9.out.cell (p := ⟨c.pb, 0, none⟩) HE8.out.2).trans HE8.out.1
                have hmul : IntKind.i64.wrap (2 * (la.length : Int)) = 2 * (la.length : Int) := by rw [IntKind.wrap_i64]; omega
                have HQ9 : Hid (Below w1.heap.size w1 wr) := by
                  have hq := HB6.out.trans (HR8.out.2.2.mono HB6.out.size)
                  exact hq.trans (HB9.out.mono hq.size)
                clear HS hlt PV HR8 HE8
                rcases Nat.lt_or_ge i lb.length with hi2 | hi2
                case' inl => have t1 : (i : Int) < (lb.length : Int) := by omega
                case' inr => obtain rfl : i = lb.length := by omega
                all_goals
                  go_wp2_with fail
                  refine PV9.mono ?_
                  clear PV9
                  rintro e w10 ⟨r2, d2, na, nn, nc, rfl, hp, hn, rfl, hb10⟩
                  have PZ := size_any r2 na 12 d2 nc w10 (by omega) (fun nd hnd => by have := bd3 nd hnd; omega) hn
                  rw [HG4.out, show ((2 * la.length : Nat) : Int) = 2 * (la.length : Int) from by omega] at PZ
                  clear hp hn
                  go_wp2_with fail
                  refine PZ.mono ?_
                  clear PZ
                  rintro e w11 ⟨rfl, hb11⟩
                  have hfin : Below w.heap.size w w11 := by
                    have hq3 := HQ9.out.trans (hb10.mono HQ9.out.size)
                    have hq4 := hq3.trans (hb11.mono hq3.size)
                    exact hb1.trans (hq4.mono hb1.size)
                  clear hb10 hb11
                  go_wp2_with fail
                  go_ret
                  exact ⟨rfl, hfin⟩
          · subst hcd
            have hfin : Below w.heap.size w w6 := hb1.trans (HB6.out.mono hb1.size)
            clear j6 t6
            go_wp2_with fail
            go_ret
            exact ⟨rfl, hfin⟩

end Go.Proofs.YtmocakafnnkjfabGreat.MSd
