/- Membership in a list, as the document's answer has it, and the few steps by which the statements on cards begin: contracts, over the seat's own translation; nothing that was in memory turns. -/
import Derived.Test.YtheiboniifijnaaCd1
namespace Go.Proofs.Ytheiboniifijnaa
open Go.RowKit W

theorem take_no {l : List Int} {k : Nat} {x : Int} (hlt : k < l.length) (h : (l.take k).contains x = false) (e : ¬ x = l[k]) : (l.take (k + 1)).contains x = false := by
  have e1 : l.take (k + 1) = l.take k ++ [l[k]] := by rw [List.take_add_one, List.getElem?_eq_getElem hlt]; rfl
  rw [e1]
  cases hc : (l.take k ++ [l[k]]).contains x
  · rfl
  · rw [List.contains_iff_mem, List.mem_append, List.mem_singleton] at hc
    rcases hc with h' | h'
    · rw [← List.contains_iff_mem, h] at h'
      cases h'
    · exact absurd h' e

set_option maxHeartbeats 1000000 in
theorem in_pos (b c : Nat) (l : List Int) (x : Int) (w : World) (hm : l.length ≤ 100000) (h : ∀ i, i < l.length → w.cell? ⟨b, i, none⟩ = some (.int .i64 (l.getD i 0))) :
    Calls Try.prog 58 #[.slice (some ⟨b, 0, none⟩) l.length c, .int .i64 x] w fun e w' => e = .returned (.bool (l.contains x)) ∧ w' = w := by
  have H : Hid (∀ i, i < l.length → w.cell? ⟨b, i, none⟩ = some (.int .i64 (l.getD i 0))) := h
  clear h
  generalize hr : l.contains x = r
  have HR : Hid (l.contains x = r) := hr
  clear hr
  go_enter Try.func58, Try.ntmps58
  go_wp2_with fail
  go_loopw [5] (fun i wr => ∃ k : Nat, k ≤ l.length ∧ i = .int .i64 k ∧ wr = w ∧ Hid ((l.take k).contains x = false)) (fun i _ => l.length - (intOf i).toNat)
  case atStart => exact ⟨0, Nat.zero_le _, rfl, rfl, by simp [Hid]⟩
  case round =>
    obtain ⟨k, hk, rfl, rfl, HK⟩ := hrel
    by_cases hlt : k < l.length
    · have x1 := H.out k hlt
      have hg : l.getD k 0 = l[k] := by simp [List.getElem?_eq_getElem hlt]
      by_cases e : l.getD k 0 = x
      · have hrt : r = true := by
          rw [← HR.out, List.contains_iff_mem, ← e, hg]
          exact List.getElem_mem hlt
        subst hrt
        rw [e] at x1
        clear e hg
        go_wp2_with fail
        go_ret
        exact ⟨rfl, rfl⟩
      · have HK' : Hid ((l.take (k + 1)).contains x = false) := by
          exact take_no hlt HK.out (fun h' => e (by rw [hg, h']))
        generalize l.getD k 0 = y at x1 e
        clear hg
        go_wp2_with fail
        go_roundw
        case rel => exact ⟨k + 1, by omega, by go_num, trivial, HK'⟩
        case measure => simp [intOf]; omega
    · have hrt : r = false := by
        rw [← HR.out, ← HK.out, List.take_of_length_le (by omega)]
      subst hrt
      go_wp2_with fail
      go_ret
      exact ⟨rfl, rfl⟩

set_option maxHeartbeats 400000 in
theorem in_zero (ad : Option Addr) (c : Nat) (x : Int) (w : World) :
    Calls Try.prog 58 #[.slice ad 0 c, .int .i64 x] w fun e w' => e = .returned (.bool false) ∧ w' = w := by
  go_enter Try.func58, Try.ntmps58
  go_wp2_with fail
  go_loopw [5] (fun i wr => i = .int .i64 0 ∧ wr = w) (fun _ _ => 0)
  case atStart => exact ⟨rfl, rfl⟩
  case round =>
    obtain ⟨rfl, rfl⟩ := hrel
    go_wp2_with fail
    go_ret
    exact ⟨rfl, rfl⟩

set_option maxRecDepth 100000 in
set_option maxHeartbeats 2000000 in
theorem begunCards_any (w : World) : Calls Try.prog 54 #[] w fun e w' => e = .returned (.bool true) ∧ Below w.heap.size w w' := by
  go_enter Try.func54, Try.ntmps54
  go_wp2_with fail
  refine (newC_any 10 9 _ (by omega)).mono ?_
  rintro e w1 ⟨p, q, rfl, h1, hp, hq, hb1⟩
  have h1 : Cd w1 p q 10 2 [] := h1
  go_wp2_with fail
  refine (mark_any 17 _ h1 (by omega) (by omega) (by omega) (by decide)).mono ?_
  rintro e w2 ⟨rfl, h2, s2⟩
  have e1 : cB 10 2 17 = true := by decide
  rw [e1]
  have h2 : Cd w2 p q 10 2 [0] := h2
  have hb2 := hb1.trans (s2.below hb1.size hp hq)
  clear hb1 s2 h1 e1
  go_wp2_with fail
  refine (dirty_any 10 _ h2 (by omega) (by omega) (by omega)).mono ?_
  rintro e w3 ⟨rfl, hb3⟩
  have e1 : (cB 10 2 10 && [(0 : Int)].contains (cN 10 10)) = true := by decide
  rw [e1]
  have h3 := h2.below hb3 (Nat.le_refl _)
  have hb3 := hb2.trans (hb3.mono hb2.size)
  clear hb2 h2 e1
  go_wp2_with fail
  refine (dirty_any 18 _ h3 (by omega) (by omega) (by omega)).mono ?_
  rintro e w4 ⟨rfl, hb4⟩
  have e1 : (cB 10 2 18 && [(0 : Int)].contains (cN 10 18)) = false := by decide
  rw [e1]
  have h4 := h3.below hb4 (Nat.le_refl _)
  have hb4 := hb3.trans (hb4.mono hb3.size)
  clear hb3 h3 e1
  go_wp2_with fail
  refine (mark_any 18 _ h4 (by omega) (by omega) (by omega) (by decide)).mono ?_
  rintro e w5 ⟨rfl, h5, s5⟩
  have e1 : cB 10 2 18 = true := by decide
  rw [e1]
  have h5 : Cd w5 p q 10 2 [0, 1] := h5
  have hb5 := hb4.trans (s5.below hb4.size hp hq)
  clear hb4 s5 h4 e1
  go_wp2_with fail
  refine (count_any _ h5).mono ?_
  rintro e w6 ⟨rfl, hw6⟩
  have hw6 := hw6.symm
  subst hw6
  go_wp2_with fail
  refine (mark_any 9 _ h5 (by omega) (by omega) (by omega) (by decide)).mono ?_
  rintro e w7 ⟨rfl, h7, s7⟩
  have e1 : cB 10 2 9 = false := by decide
  rw [e1]
  have h7 : Cd w7 p q 10 2 [0, 1] := h7
  have hb7 := hb5.trans (s7.below hb5.size hp hq)
  clear hb5 s7 h5 e1
  go_wp2_with fail
  refine (mark_any 26 _ h7 (by omega) (by omega) (by omega) (by decide)).mono ?_
  rintro e w8 ⟨rfl, h8, s8⟩
  have e1 : cB 10 2 26 = false := by decide
  rw [e1]
  have hb8 := hb7.trans (s8.below hb7.size hp hq)
  clear hb7 s8 h7 e1
  go_wp2_with fail
  go_ret
  exact ⟨rfl, hb8⟩

end Go.Proofs.Ytheiboniifijnaa
