/- The looks of SideOnce, and how often an entry is in a list: contracts. -/
import Derived.Test.YthlfgddhkffilabSo
namespace Go.Proofs.Ythlfgddhkffilab
open Go.RowKit W Kp Stl

theorem ent_sameO : Ent 9 := ent_of Try.func9 (by kernel_rfl) rfl
theorem ent_keepO : Ent 10 := ent_of Try.func10 (by kernel_rfl) rfl
theorem ent_countO : Ent 14 := ent_of Try.func14 (by kernel_rfl) rfl

set_option maxRecDepth 100000 in
theorem sameO_any (w : World) (x : Int) : Calls Try.prog 9 #[.int .i64 x] w fun r w' => r = .returned (.int .i64 x) ∧ Below w.heap.size w w' := by
  go_enter Try.func9, Try.ntmps9
  go_wp2_with fail
  go_ret
  exact ⟨rfl, Below.refl _ _⟩

set_option maxRecDepth 100000 in
set_option maxHeartbeats 400000 in
theorem keepO_any {c bw : Nat} {L : Pairs} (hL : L.length ≤ 10000) (w : World) (F : Nat → Prop) (A : List Int) (x : Int) (h : Wd w F c A L) (hb : w.cell? ⟨bw, 0, none⟩ = some (.pointer (some ⟨c, 0, none⟩))) (hA : A.length + mu L A + (L.length + 1) ≤ 60000) :
    Calls Try.prog 10 #[.int .i64 x, .pointer (some ⟨bw, 0, none⟩)] w fun e w' => e = .returned (.int .i64 x) ∧ ∃ F', Wd w' F' c (dfs L (L.length + 1) A x) L ∧ Fr F w w' ∧ ∀ k, F' k → F k ∨ w.heap.size ≤ k := by
  have hm := mu_len L A
  have P := keep_any hL (L.length + 1) w F A x h (by omega) hA
  clear h
  go_enter Try.func10, Try.ntmps10
  go_wp2_with fail
  refine P.mono ?_
  clear P
  rintro e w1 ⟨rfl, F1, h1, h2, h3⟩
  have H1 : Hid (Wd w1 F1 c (dfs L (L.length + 1) A x) L) := h1
  have H3 : Hid (∀ k, F1 k → F k ∨ w.heap.size ≤ k) := h3
  clear h1 h3
  go_wp2_with fail
  go_ret
  exact ⟨rfl, F1, H1.out, h2, H3.out⟩

theorem keeps_once {c bw : Nat} {L : Pairs} {E : List Int} (hL : L.length ≤ 10000) : Keeps (wdOb c bw L E) (fun x => x ∈ E) 10 #[] #[.pointer (some ⟨bw, 0, none⟩)] (fun A x => (x, dfs L (L.length + 1) A x)) := by
  rintro F A w x hD ⟨F0, h1, h2, h3, h4, h5⟩
  have hm := mu_len L A
  refine (keepO_any hL w F0 A x h1 (by simp [World.cell?, h2]) (by omega)).mono ?_
  rintro r w' ⟨rfl, F1, hW, hfr, hF1⟩
  have lb := lt_of_some h2
  refine ⟨fun k => F1 k ∨ k = bw, rfl, ⟨F1, hW, (hfr.block bw lb h3).trans h2, fun h => (hF1 bw h).elim h3 (fun h => by omega), fun k => Iff.rfl, keep_bound hD (by omega) h5⟩, hfr.mono (fun k h => (h4 k).2 (Or.inl h)), fun k h => ?_⟩
  rcases h with h | h
  · exact (hF1 k h).imp (fun h => (h4 k).2 (Or.inl h)) id
  · exact Or.inl ((h4 k).2 (Or.inr h))

theorem count_take (l : List En) (e : En) (j : Nat) (h : j < l.length) : (l.take (j + 1)).count e = (l.take j).count e + if l.getD j (0, 0) = e then 1 else 0 := by
  rw [take_snoc l j h (0, 0), List.count_append, List.count_singleton]
  simp

set_option maxRecDepth 100000 in
set_option maxHeartbeats 1000000 in
theorem countO_any (w : World) (ad : Option Addr) (l : List En) (cap : Nat) (g z : Int) (hp : Lp w ad l) (hm : l.length ≤ 100000) :
    Calls Try.prog 14 #[.slice ad l.length cap, .agg #[.int .i64 g, .int .i64 z]] w fun r w' => r = .returned (.int .i64 (l.count (g, z) : Nat)) ∧ Below w.heap.size w w' := by
  have HP : Hid (Lp w ad l) := hp
  clear hp
  go_enter Try.func14, Try.ntmps14
  go_wp2_with fail
  go_loopw [5, 6] (fun nv iv wr => ∃ j n : Nat, j ≤ l.length ∧ iv = .int .i64 j ∧ nv = .int .i64 n ∧ Hid (n = (l.take j).count (g, z)) ∧ n ≤ j ∧ wr.cell? ⟨w.heap.size, 0, none⟩ = some (.int .i64 g) ∧ wr.cell? ⟨w.heap.size, 1, none⟩ = some (.int .i64 z) ∧ w.heap.size < wr.heap.size ∧ Below w.heap.size w wr) (fun _ iv _ => l.length - (intOf iv).toNat)
  case atStart => exact ⟨0, 0, Nat.zero_le _, rfl, rfl, by simp [Hid], Nat.le_refl _, by simp, by simp, by simp, (Below.refl _ _).alloc (Nat.le_refl _) _⟩
  case round =>
    obtain ⟨j, n, hj, rfl, rfl, HN, hn, y0, y1, hlz, hb⟩ := hrel
    by_cases hlt : j < l.length
    · obtain ⟨b0, o0, e0, hb0, hc⟩ := HP.out.below hb (by omega)
      obtain ⟨x1, x2⟩ := hc j hlt
      have HC := count_take l (g, z) j hlt
      rw [← HN.out] at HC
      have HG : l.getD j (0, 0) = ((l.getD j (0, 0)).1, (l.getD j (0, 0)).2) := rfl
      rw [HG] at HC
      generalize (l.getD j (0, 0)).1 = x at x1 HC
      generalize (l.getD j (0, 0)).2 = y at x2 HC
      have HC : Hid ((l.take (j + 1)).count (g, z) = n + if (x, y) = (g, z) then 1 else 0) := HC
      have j0 : (0 : Int) ≤ (j : Int) := by omega
      have j1 : (j : Int) < (l.length : Int) := by omega
      clear hc HG
      subst e0
      by_cases hx : x = g
      · subst hx
        by_cases hy : y = z
        · subst hy
          have HN' : Hid (n + 1 = (l.take (j + 1)).count (x, y)) := by show _ = _; rw [HC.out, if_pos rfl]
          go_wp2_with fail
          go_region_held3 (fun w' => w'.cell? ⟨b0, o0 + j * 2, none⟩ = some (.int .i64 x) ∧ w'.cell? ⟨b0, o0 + j * 2 + 1, none⟩ = some (.int .i64 y) ∧ w'.cell? ⟨w.heap.size, 0, none⟩ = some (.int .i64 x) ∧ w'.cell? ⟨w.heap.size, 1, none⟩ = some (.int .i64 y)) (go_keep) (fail)
          have hbn := hb.drew
          have z0 : wr.drew.cell? ⟨w.heap.size, 0, none⟩ = some (.int .i64 x) := y0
          have z1 : wr.drew.cell? ⟨w.heap.size, 1, none⟩ = some (.int .i64 y) := y1
          have hlw : w.heap.size < wr.drew.heap.size := hlz
          clear x1 x2 y0 y1 hb hlz
          go_wp2_with fail
          go_roundw
          case rel => exact ⟨j + 1, n + 1, by omega, by go_num, by go_num, HN', by omega, z0, z1, hlw, hbn⟩
          case measure => simp [intOf]; omega
        · have HN' : Hid (n = (l.take (j + 1)).count (x, z)) := by show _ = _; rw [HC.out, if_neg (by simp [hy])]; rfl
          go_wp2_with fail
          go_region_held3 (fun w' => w'.cell? ⟨b0, o0 + j * 2, none⟩ = some (.int .i64 x) ∧ w'.cell? ⟨b0, o0 + j * 2 + 1, none⟩ = some (.int .i64 y) ∧ w'.cell? ⟨w.heap.size, 0, none⟩ = some (.int .i64 x) ∧ w'.cell? ⟨w.heap.size, 1, none⟩ = some (.int .i64 z)) (go_keep) (fail)
          have hbn := hb.drew
          have z0 : wr.drew.cell? ⟨w.heap.size, 0, none⟩ = some (.int .i64 x) := y0
          have z1 : wr.drew.cell? ⟨w.heap.size, 1, none⟩ = some (.int .i64 z) := y1
          have hlw : w.heap.size < wr.drew.heap.size := hlz
          clear x1 x2 y0 y1 hb hlz
          go_wp2_with fail
          go_roundw
          case rel => exact ⟨j + 1, n, by omega, by go_num, by go_num, HN', by omega, z0, z1, hlw, hbn⟩
          case measure => simp [intOf]; omega
      · have HN' : Hid (n = (l.take (j + 1)).count (g, z)) := by show _ = _; rw [HC.out, if_neg (by simp [hx])]; rfl
        go_wp2_with fail
        go_region_held3 (fun w' => w'.cell? ⟨b0, o0 + j * 2, none⟩ = some (.int .i64 x) ∧ w'.cell? ⟨b0, o0 + j * 2 + 1, none⟩ = some (.int .i64 y) ∧ w'.cell? ⟨w.heap.size, 0, none⟩ = some (.int .i64 g) ∧ w'.cell? ⟨w.heap.size, 1, none⟩ = some (.int .i64 z)) (go_keep) (fail)
        have hbn := hb.drew
        have z0 : wr.drew.cell? ⟨w.heap.size, 0, none⟩ = some (.int .i64 g) := y0
        have z1 : wr.drew.cell? ⟨w.heap.size, 1, none⟩ = some (.int .i64 z) := y1
        have hlw : w.heap.size < wr.drew.heap.size := hlz
        clear x1 x2 y0 y1 hb hlz
        go_wp2_with fail
        go_roundw
        case rel => exact ⟨j + 1, n, by omega, by go_num, by go_num, HN', by omega, z0, z1, hlw, hbn⟩
        case measure => simp [intOf]; omega
    · obtain rfl : j = l.length := by omega
      rw [List.take_length] at HN
      go_wp2_with fail
      go_ret
      rw [← HN.out]
      exact ⟨rfl, hb⟩

end Go.Proofs.Ythlfgddhkffilab
