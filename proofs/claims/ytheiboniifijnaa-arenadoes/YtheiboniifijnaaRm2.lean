/- What the document's own arena answers and leaves where it is made, and where a thing is made in it: contracts, over the seat's own translation; no block but the room's turns. -/
import Derived.Test.YtheiboniifijnaaRm
import Derived.Deep.RegionWith
namespace Go.Proofs.Ytheiboniifijnaa
open Go.RowKit W

set_option maxRecDepth 100000 in
set_option maxHeartbeats 400000 in
theorem newRoom_any (n o : Nat) (w : World) (h0 : 16 ≤ n) (h1 : n ≤ 256) (h3 : o ≤ 1024) :
    Calls Try.prog 28 #[.int .i64 n, .int .i64 o] w fun e w' => ∃ p q, e = .returned (.pointer (some ⟨p, 0, none⟩)) ∧ Rm w' p q n o 0 0 (List.replicate (n + o) 0) ∧ w.heap.size ≤ p ∧ w.heap.size ≤ q ∧ Below w.heap.size w w' := by
  obtain ⟨i0, hi, hz0, hz1, hz2⟩ := info_parts info64
  go_enter Try.func28, Try.ntmps28
  go_wp2_with (at_make; refine wpList_make_full _ rfl _ _ 54 rfl w.heap.size 2 i0 (.int .i64 0) 1 Try.underlying54 hi hz0 hz1 .i64 .i64 _ _ (n + o) rfl rfl (by omega) (by omega) (by rw [hz2]; omega) (by unfold maxLen; omega) (Nat.le_refl _) ?_; intro w1 hown hgrow)
  have hr := made_row hown
  have hlt := lt_of_some hr
  go_ret
  refine ⟨w1.heap.size, w.heap.size, rfl, ⟨heap_alloc_new _ _, (Below.heap_alloc _ _ _ hlt).trans hr, by simp, by omega, by omega, by omega, by omega, by omega⟩, by omega, by omega, ?_⟩
  exact ((Below.refl _ _).grown hgrow (Nat.le_refl _) (fun _ h => by cases h)).alloc (by omega) _

set_option maxRecDepth 100000 in
set_option maxHeartbeats 400000 in
theorem roomFault_yes (n o : Int) (w : World) (h0 : 16 ≤ n) (h1 : n ≤ 256) (h2 : 0 ≤ o) (h3 : o ≤ 1024) :
    Calls Try.prog 27 #[.int .i64 n, .int .i64 o] w fun e w' => e = .returned (.agg #[.int .i64 0, .int .i64 0]) ∧ Below w.heap.size w w' := by
  go_enter Try.func27, Try.ntmps27
  go_wp2_with fail
  exact bodyPost_ret (v := .agg #[.int .i64 0, .int .i64 0]) (by simp [results, Try.results27, go_sem]) rfl ⟨rfl, (Below.refl _ _).alloc (Nat.le_refl _) _⟩

set_option maxRecDepth 100000 in
set_option maxHeartbeats 400000 in
theorem roomFault_no (n o : Int) (w : World) (h : n < 16 ∨ 256 < n ∨ o < 0 ∨ 1024 < o) :
    Calls Try.prog 27 #[.int .i64 n, .int .i64 o] w fun e w' => e = .returned (.agg #[.int .i64 1, .int .i64 (-1)]) ∧ Below w.heap.size w w' := by
  have fin : ∀ (R : Ending → World → Prop), (∀ w1, Below (w.alloc (.cells #[.int .i64 0, .int .i64 0] 42)).heap.size (w.alloc (.cells #[.int .i64 0, .int .i64 0] 42)) w1 → R (.returned (.agg #[.int .i64 1, .int .i64 (-1)])) w1) → Calls Try.prog 65 #[.int .i64 1, .int .i64 (-1)] (w.alloc (.cells #[.int .i64 0, .int .i64 0] 42)) R := by
    intro R hR
    refine (f_any 1 (-1) _).mono ?_
    rintro e w1 ⟨rfl, hb⟩
    exact hR w1 hb
  by_cases h1 : n < 16
  · go_enter Try.func27, Try.ntmps27
    go_wp2_with fail
    refine fin _ ?_
    intro w1 hb
    obtain ⟨c0, c1, hz⟩ := cells2 hb
    obtain ⟨_, hf⟩ := bcell hb
    have f0 := hf w.heap.size 0 (by simp)
    have f1 := hf w.heap.size 1 (by simp)
    simp [go_sem] at f0 f1
    go_wp2_with fail
    exact bodyPost_ret (v := .agg #[.int .i64 1, .int .i64 (-1)]) (by simp [results, Try.results27, go_sem, c0, c1]) rfl ⟨rfl, ((((Below.refl _ _).alloc (Nat.le_refl _) _).trans (hb.mono (by simp))).setCell (Nat.le_refl _) _).setCell (Nat.le_refl _) _⟩
  by_cases h2 : 256 < n
  · go_enter Try.func27, Try.ntmps27
    go_wp2_with fail
    refine fin _ ?_
    intro w1 hb
    obtain ⟨c0, c1, hz⟩ := cells2 hb
    obtain ⟨_, hf⟩ := bcell hb
    have f0 := hf w.heap.size 0 (by simp)
    have f1 := hf w.heap.size 1 (by simp)
    simp [go_sem] at f0 f1
    go_wp2_with fail
    exact bodyPost_ret (v := .agg #[.int .i64 1, .int .i64 (-1)]) (by simp [results, Try.results27, go_sem, c0, c1]) rfl ⟨rfl, ((((Below.refl _ _).alloc (Nat.le_refl _) _).trans (hb.mono (by simp))).setCell (Nat.le_refl _) _).setCell (Nat.le_refl _) _⟩
  by_cases h3 : o < 0
  · go_enter Try.func27, Try.ntmps27
    go_wp2_with fail
    refine fin _ ?_
    intro w1 hb
    obtain ⟨c0, c1, hz⟩ := cells2 hb
    obtain ⟨_, hf⟩ := bcell hb
    have f0 := hf w.heap.size 0 (by simp)
    have f1 := hf w.heap.size 1 (by simp)
    simp [go_sem] at f0 f1
    go_wp2_with fail
    exact bodyPost_ret (v := .agg #[.int .i64 1, .int .i64 (-1)]) (by simp [results, Try.results27, go_sem, c0, c1]) rfl ⟨rfl, ((((Below.refl _ _).alloc (Nat.le_refl _) _).trans (hb.mono (by simp))).setCell (Nat.le_refl _) _).setCell (Nat.le_refl _) _⟩
  have h4 : 1024 < o := by omega
  go_enter Try.func27, Try.ntmps27
  go_wp2_with fail
  refine fin _ ?_
  intro w1 hb
  obtain ⟨c0, c1, hz⟩ := cells2 hb
  obtain ⟨_, hf⟩ := bcell hb
  have f0 := hf w.heap.size 0 (by simp)
  have f1 := hf w.heap.size 1 (by simp)
  simp [go_sem] at f0 f1
  go_wp2_with fail
  exact bodyPost_ret (v := .agg #[.int .i64 1, .int .i64 (-1)]) (by simp [results, Try.results27, go_sem, c0, c1]) rfl ⟨rfl, ((((Below.refl _ _).alloc (Nat.le_refl _) _).trans (hb.mono (by simp))).setCell (Nat.le_refl _) _).setCell (Nat.le_refl _) _⟩

set_option maxRecDepth 100000 in
set_option maxHeartbeats 1000000 in
theorem rMake_yes {p q N O y g : Nat} {ws : List Int} (k f : Int) (w : World) (h : Rm w p q N O y g ws) (hk : hc k f = 0) (hr : f + 1 ≤ (N : Int) - y) :
    Calls Try.prog 32 #[.pointer (some ⟨p, 0, none⟩), .int .i64 k, .int .i64 f] w fun e w' => e = .returned (.int .i64 y) ∧ Rm w' p q N O (y + 1 + f.toNat) g (fil ws y (hw k f) f.toNat) ∧ Sv p q w w' := by
  obtain ⟨_, _, f0, f1⟩ := hc_bd k f hk
  obtain ⟨f, rfl⟩ := Int.eq_ofNat_of_zero_le f0
  simp only [Int.toNat_natCast]
  have H : Hid (hc k f = 0) := hk
  clear hk
  have k1 := h.hN'
  have k2 := h.hy
  have k3 := h.hO
  have k4 := h.hg
  go_enter Try.func32, Try.ntmps32
  go_wp2_with fail
  refine (headOf_any k f _).mono ?_
  rintro e w1 ⟨rfl, rfl⟩
  rw [H.out]
  obtain ⟨c0, c1, c2, c3⟩ := h.cells
  have f2 := h.frozen 2
  have cw := h.word y (by omega)
  have cf := h.frozenq y
  have hpq := h.ne
  have b1 : (y : Int) < ((N + O : Nat) : Int) := by omega
  go_wp2_with fail
  go_quiet (fail)
  go_wp2_with fail
  go_loopw [10] (fun i wr => ∃ j : Nat, j ≤ f ∧ i = .int .i64 j ∧ Rm wr p q N O (y + 1 + f) g (fil ws y (hw k f) j) ∧ Sv p q w1 wr) (fun i _ => f - (intOf i).toNat)
  case atStart =>
    have e : (y : Int) + ((f : Int) + 1) = ((y + 1 + f : Nat) : Int) := by omega
    rw [e]
    exact ⟨0, Nat.zero_le _, rfl, ((h.drewN _).setY _ (by omega)).set _ _, (((Sv.refl _ _ _).drewN _).trans (Sv.setp _ _)).trans (Sv.setq _ _)⟩
  case round =>
    obtain ⟨j, hj, rfl, hA, hS⟩ := hrel
    clear c0 c1 c2 c3 cw cf f2
    obtain ⟨c0, c1, c2, c3⟩ := hA.cells
    by_cases hlt : j < f
    · have cw := hA.word (y + 1 + j) (by omega)
      have cf := hA.frozenq (y + 1 + j)
      have b2 : (y : Int) + 1 + j < ((N + O : Nat) : Int) := by omega
      go_wp2_with fail
      go_roundw
      case rel => exact ⟨j + 1, by omega, by go_num, hA.set _ _, hS.trans (Sv.setq _ _)⟩
      case measure => simp [intOf]; omega
    · go_wp2_with fail
      go_ret
      have e : j = f := by omega
      subst e
      exact ⟨rfl, hA, hS⟩

set_option maxRecDepth 100000 in
set_option maxHeartbeats 1000000 in
theorem rMake_no {p q N O y g : Nat} {ws : List Int} (k f : Int) (w : World) (h : Rm w p q N O y g ws) (hk : hc k f ≠ 0 ∨ (N : Int) - y < f + 1) :
    Calls Try.prog 32 #[.pointer (some ⟨p, 0, none⟩), .int .i64 k, .int .i64 f] w fun e w' => e = .returned (.int .i64 (-1)) ∧ Below w.heap.size w w' := by
  by_cases c : hc k f = 0
  · obtain ⟨_, _, f0, f1⟩ := hc_bd k f c
    have hr : (N : Int) - y < f + 1 := by
      rcases hk with e | e
      · exact absurd c e
      · exact e
    have H : Hid (hc k f = 0) := c
    clear c hk
    have k1 := h.hN'
    have k2 := h.hy
    go_enter Try.func32, Try.ntmps32
    go_wp2_with fail
    refine (headOf_any k f _).mono ?_
    rintro e w1 ⟨rfl, rfl⟩
    rw [H.out]
    obtain ⟨c0, c1, c2, c3⟩ := h.cells
    go_wp2_with fail
    go_quiet (fail)
    go_wp2_with fail
    go_ret
    exact ⟨rfl, below_drewN (Below.refl _ _) _⟩
  · have t : (hc k f != 0) = true := by simpa using c
    clear c hk
    go_enter Try.func32, Try.ntmps32
    go_wp2_with fail
    refine (headOf_any k f _).mono ?_
    rintro e w1 ⟨rfl, rfl⟩
    obtain ⟨c0, c1, c2, c3⟩ := h.cells
    go_wp2_with fail
    go_quiet (fail)
    go_wp2_with fail
    go_ret
    exact ⟨rfl, below_drewN (Below.refl _ _) _⟩

theorem rMake_any {p q N O y g : Nat} {ws : List Int} (k f : Int) (w : World) (h : Rm w p q N O y g ws) :
    Calls Try.prog 32 #[.pointer (some ⟨p, 0, none⟩), .int .i64 k, .int .i64 f] w fun e w' => e = .returned (.int .i64 (mkR N y k f)) ∧ Rm w' p q N O (mkY N y k f) g (mkW N y k f ws) ∧ Sv p q w w' := by
  unfold mkR mkY mkW
  cases hb : mkB N y k f
  · rw [if_neg (by simp), if_neg (by simp), if_neg (by simp)]
    exact (rMake_no k f w h (mkB_no hb)).mono fun e w' hx => ⟨hx.1, h.below hx.2 (Nat.le_refl _), Sv.of hx.2⟩
  · rw [if_pos rfl, if_pos rfl, if_pos rfl]
    exact rMake_yes k f w h (mkB_yes hb).1 (mkB_yes hb).2

end Go.Proofs.Ytheiboniifijnaa
