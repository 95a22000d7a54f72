/- What Things of package arena answers: its own contract, over the seat's own translation; nothing that was in memory turns. -/
import Derived.Test.YthlfgddhkffilaaAr7
namespace Go.Proofs.Ythlfgddhkffilaa
open Go.RowKit W

set_option maxRecDepth 100000 in
set_option maxHeartbeats 1000000 in
theorem look2_any (a : Int) (c base : Nat) (v : Value) (L : List Int) (w : World) (hc : w.heap[c]? = some (.cells #[v] 61 (0, 0))) (hcb : c < base) (hB : base ≤ w.heap.size)
    (hown : w.ownsRow base 3 1 v L.length (L.map (Value.int .i64))) (hL : L.length ≤ 100000) :
    Calls Try.prog 94 #[.int .i64 a, .pointer (some ⟨c, 0, none⟩)] w fun e w' => e = .returned (.tuple #[]) ∧ ∃ v', w'.heap[c]? = some (.cells #[v'] 61 (0, 0)) ∧ w'.ownsRow base 3 1 v' (L ++ [a]).length ((L ++ [a]).map (Value.int .i64)) ∧ Sb base c w w' := by
  obtain ⟨i0, hi, hz0, hz1, hz2⟩ := info_parts infoInt
  have cc : w.cell? ⟨c, 0, none⟩ = some v := by simp [World.cell?, hc]
  have HC : Hid (w.heap[c]? = some (.cells #[v] 61 (0, 0))) := hc
  clear hc
  have lc : c < w.heap.size := by omega
  go_enter Try.func94, Try.ntmps94
  go_wp2_with (at_builtin; refine wpList_append_own _ rfl _ _ 61 rfl base 3 i0 (.int .i64 0) 1 8 Try.underlying61 hi hz0 hz1 hz2 rfl (by decide) _ L.length (L.map (Value.int .i64)) rfl (hown.alloc _) ⟨w.heap.size, 0, none⟩ 1 1 [.int .i64 a] rfl rfl ?_ ?_ ?_ ?_ ?_ ?_; (intro j u hj; match j, hj with | 0, hj => (simp at hj; subst hj; simp [Addr.add])); (intro u hu; simp at hu; subst hu; rfl); (unfold maxLen; omega); omega; (simp; omega); intro v' w1 hown' hgrow _; obtain ⟨b1, cap1, ev'⟩ := own_shape hown' (Nat.succ_pos _); subst ev'; have hc1 : w1.heap[c]? = some (.cells #[v] 61 (0, 0)) := (hgrow.block c (by simp; omega) (own_not hown hcb)).trans ((Below.heap_alloc _ _ _ lc).trans HC.out); have cc1 : w1.cell? ⟨c, 0, none⟩ = some v := (by simp [World.cell?, hc1]); have cf1 : w1.frozen? ⟨c, 0, none⟩ = false := (by simp [World.frozen?, hc1]); have HC1 : Hid (w1.heap[c]? = some (.cells #[v] 61 (0, 0))) := hc1; clear hc1)
  go_end0
  refine ⟨rfl, .slice (some ⟨b1, 0, none⟩) (L.length + 1) cap1, ?_, ?_, ?_⟩
  · have hc1 := HC1.out
    simp only [World.setCell, Array.getElem?_modify, if_true, hc1, Option.map_some]
    simp
  · have := ownsRow_setCell_below hown' (a := ⟨c, 0, none⟩) hcb (.slice (some ⟨b1, 0, none⟩) (L.length + 1) cap1)
    simpa using this
  · refine (Sb.of ((Below.refl base w).alloc hB _) (Nat.le_refl _)).trans (Sb.trans (Sb.of ((Below.refl base _).grown hgrow (by simp; omega) (own_ge hown)) (Nat.le_refl _)) ?_)
    exact ⟨rfl, rfl, rfl, by simp [World.setCell], fun k _ h1 => Below.heap_setCell _ _ _ _ h1⟩

set_option maxRecDepth 100000 in
set_option maxHeartbeats 1000000 in
theorem each2_any {p q N O y g : Nat} {ws : List Int} (b s u : Int) (c : Nat) (w : World) (h : At w p q N O y g ws) (hc : w.heap[c]? = some (.cells #[.slice none 0 0] 61 (0, 0))) (hpc : p ≠ c) (hqc : q ≠ c)
    (b0 : 0 ≤ b) (b1 : b ≤ 2000) (u0 : 0 ≤ u) (u1 : u ≤ 2000) :
    Calls Try.prog 92 #[.pointer (some ⟨p, 0, none⟩), .agg #[.int .i64 b, .int .i64 s, .int .i64 u], .func (.func 94) #[] #[.pointer (some ⟨c, 0, none⟩)]] w fun e w' => e = .returned (.tuple #[]) ∧ ∃ v, w'.heap[c]? = some (.cells #[v] 61 (0, 0)) ∧ w'.ownsRow w.heap.size 3 1 v (ths N y g ws (b + u) 2000 b).length ((ths N y g ws (b + u) 2000 b).map (Value.int .i64)) ∧ Sb w.heap.size c w w' := by
  have lp := h.ltp
  have lc := lt_of_some hc
  have HC : Hid (w.heap[c]? = some (.cells #[.slice none 0 0] 61 (0, 0))) := hc
  clear hc
  go_enter Try.func92, Try.ntmps92
  go_wp2_with fail
  go_loopw [6] (fun i wr => ∃ (a : Int) (L : List Int) (k : Nat) (v : Value), i = .int .i64 a ∧ b ≤ a ∧ a ≤ 100000 ∧ b + u - a ≤ k ∧ (L.length : Int) + b ≤ a ∧ L ++ ths N y g ws (b + u) k a = ths N y g ws (b + u) 2000 b ∧ wr.heap[c]? = some (.cells #[v] 61 (0, 0)) ∧ wr.ownsRow (w.heap.size + 1) 3 1 v L.length (L.map (Value.int .i64)) ∧ Sb (w.heap.size + 1) c (w.alloc (.cells #[.int .i64 b, .int .i64 s, .int .i64 u] 115)) wr) (fun i _ => (b + u - intOf i).toNat)
  case atStart => exact ⟨b, [], 2000, _, rfl, by omega, by omega, by omega, by simp, rfl, (Below.heap_alloc _ _ _ lc).trans HC.out, World.ownsRow_nil _ _ _ _, Sb.refl _ _ _⟩
  case round =>
    obtain ⟨a, L, k, v, rfl, a1, a2, a3, a4, a5, hc, hown, hS⟩ := hrel
    have hbox := hS.block w.heap.size (by omega) (by omega)
    rw [heap_alloc_new] at hbox
    have x0 : wr.cell? ⟨w.heap.size, 0, none⟩ = some (.int .i64 b) := by simp [World.cell?, hbox]
    have x1 : wr.cell? ⟨w.heap.size, 1, none⟩ = some (.int .i64 s) := by simp [World.cell?, hbox]
    have x2 : wr.cell? ⟨w.heap.size, 2, none⟩ = some (.int .i64 u) := by simp [World.cell?, hbox]
    have hA : At wr p q N O y g ws := (h.alloc _).same (hS.block p (by omega) hpc) (hS.block q (by have := h.ltq; omega) hqc)
    have hsz := hS.size
    simp only [World.size_alloc] at hsz
    have A5 : Hid (L ++ ths N y g ws (b + u) k a = ths N y g ws (b + u) 2000 b) := a5
    have CC : Hid (wr.heap[c]? = some (.cells #[v] 61 (0, 0))) := hc
    have BX : Hid (wr.heap[w.heap.size]? = some (.cells #[.int .i64 b, .int .i64 s, .int .i64 u] 115)) := hbox
    clear a5 hc hbox
    go_wp2_with fail
    refine (end_any b s u _ b0 (by omega) u0 (by omega)).mono ?_
    rintro e w1 ⟨rfl, hb1⟩
    clear x0 x1 x2
    by_cases hlt : a < b + u
    · go_wp2_with fail
      refine (thing_any a _ (hA.below hb1 (Nat.le_refl _))).mono ?_
      rintro e w2 ⟨rfl, hb2⟩
      have hb12 : Below wr.heap.size wr w2 := hb1.trans (hb2.mono hb1.size)
      by_cases hp : pc (ld N y g ws a) = 0
      · obtain ⟨f0, f1⟩ := pc_bd _ hp
        obtain ⟨k', rfl, e1⟩ := ths_yes (N := N) (y := y) (g := g) (ws := ws) k a3 hlt hp
        have HP : Hid (pc (ld N y g ws a) = 0) := hp
        have E1 : Hid (ths N y g ws (b + u) (k' + 1) a = a :: ths N y g ws (b + u) k' (a + (1 + pf (ld N y g ws a)))) := e1
        clear hp e1
        rw [HP.out]
        go_wp2_with fail
        refine (look2_any a c (w.heap.size + 1) v L w2 ((hb12.block c (lt_of_some CC.out)).trans CC.out) (by omega) (by have := hb12.size; omega) (owned_below hown hb12) (by omega)).mono ?_
        rintro e w3 ⟨rfl, v', hc3, hown3, hS3⟩
        have CC3 : Hid (w3.heap[c]? = some (.cells #[v'] 61 (0, 0))) := hc3
        clear hc3
        go_wp2_with fail
        go_roundw
        case rel => exact ⟨a + (1 + pf (ld N y g ws a)), L ++ [a], k', v', rfl, by omega, by omega, by omega, by simp; omega, by rw [← A5.out, E1.out]; simp, CC3.out, hown3, (hS.trans (Sb.of hb12 hsz)).trans hS3⟩
        case measure => simp [intOf]; omega
      · have t : (pc (ld N y g ws a) != 0) = true := by simpa using hp
        have e1 := ths_no (N := N) (y := y) (g := g) (ws := ws) (hi := b + u) k hp
        have E1 : Hid (ths N y g ws (b + u) k a = []) := e1
        clear hp e1
        go_wp2_with fail
        refine bodyPost_ret (results_none rfl _ _ _) rfl ?_
        have e2 := A5.out
        rw [E1.out, List.append_nil] at e2
        rw [← e2]
        exact ⟨rfl, v, (hb12.block c (lt_of_some CC.out)).trans CC.out, owned_mono (owned_below hown hb12) (by omega), ⟨(hS.trans (Sb.of hb12 hsz)).os, (hS.trans (Sb.of hb12 hsz)).tape, (hS.trans (Sb.of hb12 hsz)).output, by have := (hS.trans (Sb.of hb12 hsz)).size; simp at this; omega, fun k hk h1 => ((hS.trans (Sb.of hb12 hsz)).block k (by omega) h1).trans (Below.heap_alloc _ _ _ hk)⟩⟩
    · go_wp2_with fail
      refine bodyPost_end (results_none rfl _ _ _) rfl ?_
      have e2 := A5.out
      rw [ths_end k (by omega), List.append_nil] at e2
      rw [← e2]
      exact ⟨rfl, v, (hb1.block c (lt_of_some CC.out)).trans CC.out, owned_mono (owned_below hown hb1) (by omega), ⟨(hS.trans (Sb.of hb1 hsz)).os, (hS.trans (Sb.of hb1 hsz)).tape, (hS.trans (Sb.of hb1 hsz)).output, by have := (hS.trans (Sb.of hb1 hsz)).size; simp at this; omega, fun k hk h1 => ((hS.trans (Sb.of hb1 hsz)).block k (by omega) h1).trans (Below.heap_alloc _ _ _ hk)⟩⟩


/-- The things of the nursery, and of the old space. -/
def thY (N y g : Nat) (ws : List Int) : List Int := ths N y g ws y 2000 0
def thO (N y g : Nat) (ws : List Int) : List Int := ths N y g ws ((N : Int) + g) 2000 N

set_option maxRecDepth 100000 in
set_option maxHeartbeats 1000000 in
theorem things_any {p q N O y g : Nat} {ws : List Int} (w : World) (h : At w p q N O y g ws) :
    Calls Try.prog 46 #[.pointer (some ⟨p, 0, none⟩)] w fun e w' => ∃ v1 v2, e = .returned (.tuple #[v1, v2]) ∧ w'.ownsRow w.heap.size 3 1 v1 (thY N y g ws).length ((thY N y g ws).map (Value.int .i64)) ∧ w'.ownsRow w.heap.size 3 1 v2 (thO N y g ws).length ((thO N y g ws).map (Value.int .i64)) ∧ Below w.heap.size w w' := by
  obtain ⟨c0, c1, c2, c3, c4, c5, c6⟩ := h.cells
  have lp := h.ltp
  have lq := h.ltq
  have k1 := h.hN'
  have k2 := h.hy
  have k3 := h.hO
  have k4 := h.hg
  go_enter Try.func46, Try.ntmps46
  go_wp2_with fail
  refine (each1_any 0 N y w.heap.size _ ((h.alloc _).alloc _) ((Below.heap_alloc _ _ _ (by simp)).trans (heap_alloc_new _ _)) (by omega) (by omega) (by omega) (by omega) (by omega) (by omega)).mono ?_
  rintro e w1 ⟨rfl, v1, hc1, hown1, hS1⟩
  have h1 : At w1 p q N O y g ws := ((h.alloc _).alloc _).same (hS1.block p (by simp; omega) (by omega)) (hS1.block q (by simp; omega) (by omega))
  have hc2 : w1.heap[w.heap.size + 1]? = some (.cells #[.slice none 0 0] 61 (0, 0)) := (hS1.block (w.heap.size + 1) (by simp) (by omega)).trans (new_top _ (by simp))
  have CC1 : Hid (w1.heap[w.heap.size]? = some (.cells #[v1] 61 (0, 0))) := hc1
  have CC2 : Hid (w1.heap[w.heap.size + 1]? = some (.cells #[.slice none 0 0] 61 (0, 0))) := hc2
  have hz1 := hS1.size
  simp only [World.size_alloc] at hz1
  clear hc1 hc2 c0 c1 c2 c3 c4 c5 c6
  obtain ⟨c0, c1, c2, c3, c4, c5, c6⟩ := h1.cells
  go_wp2_with fail
  refine (each2_any N O g (w.heap.size + 1) _ h1 CC2.out (by omega) (by omega) (by omega) (by omega) (by omega) (by omega)).mono ?_
  rintro e w2 ⟨rfl, v2, hc2, hown2, hS2⟩
  have x1 : w2.cell? ⟨w.heap.size, 0, none⟩ = some v1 := by
    have := (hS2.block w.heap.size (by omega) (by omega)).trans CC1.out
    simp [World.cell?, this]
  have x2 : w2.cell? ⟨w.heap.size + 1, 0, none⟩ = some v2 := by simp [World.cell?, hc2]
  have hz2 := hS2.size
  clear hc2
  go_wp2_with fail
  go_quiet (fail)
  go_wp2_with fail
  go_ret2
  simp only [World.size_alloc] at hown1 hS1
  have e1 : thY N y g ws = ths N y g ws (0 + (y : Int)) 2000 0 := by rw [Int.zero_add]; rfl
  refine ⟨v1, v2, rfl, ?_, ?_, ?_⟩
  · rw [e1]
    exact owned_below (owned_mono (base := w.heap.size + 1 + 1) (owned_sb hown1 hS2 (Nat.le_refl _) (by omega)) (by omega)) (below_drewN (Below.refl _ _) _)
  · exact owned_below (owned_mono hown2 (by omega)) (below_drewN (Below.refl _ _) _)
  · exact below_drewN ((((Below.refl _ _).alloc (Nat.le_refl _) _).alloc (by simp) _).trans ((hS1.below (by omega) (Nat.le_refl _)).trans (hS2.below (by omega) (by omega)))) _

end Go.Proofs.Ythlfgddhkffilaa
