/- What the document's own arena tells of where things begin: contracts, over the seat's own translation; nothing that was in memory turns. -/
import Derived.Test.YtheiboniifijnaaRm5
import Derived.Deep.RegionHeld3
namespace Go.Proofs.Ytheiboniifijnaa
open Go.RowKit W

set_option maxRecDepth 100000 in
set_option maxHeartbeats 1000000 in
theorem rthings_any {p q N O y g : Nat} {ws : List Int} (lo hi : Int) (w : World) (h : Rm w p q N O y g ws) (l0 : 0 ≤ lo) (l1 : lo ≤ 2000) (h1 : hi ≤ lo + 2000) :
    Calls Try.prog 74 #[.pointer (some ⟨p, 0, none⟩), .int .i64 lo, .int .i64 hi] w fun e w' => ∃ v, e = .returned v ∧ w'.ownsRow w.heap.size 3 1 v (ths N y g ws hi 2000 lo).length ((ths N y g ws hi 2000 lo).map (Value.int .i64)) ∧ Below w.heap.size w w' := by
  obtain ⟨i0, hi0, hz0, hz1, hz2⟩ := info_parts infoInt
  go_enter Try.func74, Try.ntmps74
  go_wp2_with fail
  go_loopw [1, 7] (fun i v wr => ∃ (a : Int) (L : List Int) (k : Nat), i = .int .i64 a ∧ lo ≤ a ∧ a ≤ 100000 ∧ hi - a ≤ k ∧ (L.length : Int) + lo ≤ a ∧ L ++ ths N y g ws hi k a = ths N y g ws hi 2000 lo ∧ wr.ownsRow w.heap.size 3 1 v L.length (L.map (Value.int .i64)) ∧ Below w.heap.size w wr) (fun i _ _ => (hi - intOf i).toNat)
  case atStart => exact ⟨lo, [], 2000, rfl, by omega, by omega, by omega, by simp, rfl, World.ownsRow_nil _ _ _ _, Below.refl _ _⟩
  case round =>
    obtain ⟨a, L, k, rfl, a1, a2, a3, a4, a5, hown, hB0⟩ := hrel
    have hA := h.below hB0 (Nat.le_refl _)
    have hsz := hB0.size
    have A5 : Hid (L ++ ths N y g ws hi k a = ths N y g ws hi 2000 lo) := a5
    clear a5
    by_cases hlt : a < hi
    · go_wp2_with fail
      refine (rThing_any a _ hA (by omega)).mono ?_
      rintro e w2 ⟨rfl, hb2⟩
      have hB2 : Below w.heap.size w w2 := hB0.trans (hb2.mono hsz)
      have hown2 := owned_below hown hb2
      by_cases hp : pc (ld N y g ws a) = 0
      · obtain ⟨f0, f1⟩ := pc_bd _ hp
        obtain ⟨k', rfl, e1⟩ := ths_yes (N := N) (y := y) (g := g) (ws := ws) k a3 hlt hp
        have HP : Hid (pc (ld N y g ws a) = 0) := hp
        have E1 : Hid (ths N y g ws hi (k' + 1) a = a :: ths N y g ws hi k' (a + (1 + pf (ld N y g ws a)))) := e1
        clear hp e1 hown
        rw [HP.out]
        go_wp2_with (at_builtin; refine wpList_append_own _ rfl _ _ 61 rfl w.heap.size 3 i0 (.int .i64 0) 1 8 Try.underlying61 hi0 hz0 hz1 hz2 rfl (by decide) _ L.length (L.map (Value.int .i64)) rfl (hown2.alloc _) ⟨w2.heap.size, 0, none⟩ 1 1 [.int .i64 a] rfl rfl ?_ ?_ ?_ ?_ ?_ ?_; (intro j u hj; match j, hj with | 0, hj => (simp at hj; subst hj; simp [Addr.add])); (intro u hu; simp at hu; subst hu; rfl); (unfold maxLen; omega); omega; (have := hB2.size; simp; omega); intro v' w3 hown' hgrow _)
        go_roundw
        case rel => exact ⟨a + (1 + pf (ld N y g ws a)), L ++ [a], k', by go_num, by omega, by omega, by omega, by simp; omega, by rw [← A5.out, E1.out]; simp, by simpa using hown', (hB2.alloc hB2.size _).grown hgrow (by have := hB2.size; simp; omega) (own_ge hown2)⟩
        case measure => simp [intOf]; omega
      · have t : (pc (ld N y g ws a) != 0) = true := by simpa using hp
        have E1 : Hid (ths N y g ws hi k a = []) := ths_no k hp
        clear hp
        go_wp2_with fail
        go_ret
        have e2 := A5.out
        rw [E1.out, List.append_nil] at e2
        rw [← e2]
        exact ⟨_, rfl, hown2, hB2⟩
    · go_wp2_with fail
      go_ret
      have e2 := A5.out
      rw [ths_end k (by omega), List.append_nil] at e2
      rw [← e2]
      exact ⟨_, rfl, hown, hB0⟩

end Go.Proofs.Ytheiboniifijnaa
