/- Membership in a list, as the document's answer has it, and the few steps by which the statements on cards begin: contracts, over the seat's own translation; nothing that was in memory turns. -/
import Derived.Test.YtglddgjljohkiabCd1
namespace Go.Proofs.Ytglddgjljohkiab
open Go.RowKit W

theorem take_no {l : List Int} {k : Nat} {x : Int} (hlt : k < l.length) (h : (l.take k).contains x = false) (e : ¬ x = l[k]) : (l.take (k + 1)).contains x = false := by
  have e1 : l.take (k + 1) = l.take k ++ [l[k]] := by rw [List.take_add_one, List.getElem?_eq_getElem hlt]; rfl
  rw [e1]
  cases hc : (l.take k ++ [l[k]]).contains x
  · rfl
  · rw [List.contains_iff_mem, List.mem_append, List.mem_singleton] at hc
    rcases hc with h' | h'
    · rw [← List.contains_iff_mem, h] at h'
      cases h'
    · exact absurd h' e

set_option maxRecDepth 100000 in
set_option maxHeartbeats 1000000 in
theorem in_pos (b c : Nat) (l : List Int) (x : Int) (w : World) (hm : l.length ≤ 100000) (h : ∀ i, i < l.length → w.cell? ⟨b, i, none⟩ = some (.int .i64 (l.getD i 0))) :
    Calls Try.prog 30 #[.slice (some ⟨b, 0, none⟩) l.length c, .int .i64 x] w fun e w' => e = .returned (.bool (l.contains x)) ∧ w' = w := by
  have H : Hid (∀ i, i < l.length → w.cell? ⟨b, i, none⟩ = some (.int .i64 (l.getD i 0))) := h
  clear h
  generalize hr : l.contains x = r
  have HR : Hid (l.contains x = r) := hr
  clear hr
  go_enter Try.func30, Try.ntmps30
  go_wp2_with fail
  go_loopw [5] (fun i wr => ∃ k : Nat, k ≤ l.length ∧ i = .int .i64 k ∧ wr = w ∧ Hid ((l.take k).contains x = false)) (fun i _ => l.length - (intOf i).toNat)
  case atStart => exact ⟨0, Nat.zero_le _, rfl, rfl, by simp [Hid]⟩
  case round =>
    obtain ⟨k, hk, rfl, rfl, HK⟩ := hrel
    by_cases hlt : k < l.length
    · have x1 := H.out k hlt
      have hg : l.getD k 0 = l[k] := by simp [List.getElem?_eq_getElem hlt]
      by_cases e : l.getD k 0 = x
      · have hrt : r = true := by
          rw [← HR.out, List.contains_iff_mem, ← e, hg]
          exact List.getElem_mem hlt
        subst hrt
        rw [e] at x1
        clear e hg
        go_wp2_with fail
        go_ret
        exact ⟨rfl, rfl⟩
      · have HK' : Hid ((l.take (k + 1)).contains x = false) := by
          exact take_no hlt HK.out (fun h' => e (by rw [hg, h']))
        generalize l.getD k 0 = y at x1 e
        clear hg
        go_wp2_with fail
        go_roundw
        case rel => exact ⟨k + 1, by omega, by go_num, trivial, HK'⟩
        case measure => simp [intOf]; omega
    · have hrt : r = false := by
        rw [← HR.out, ← HK.out, List.take_of_length_le (by omega)]
      subst hrt
      go_wp2_with fail
      go_ret
      exact ⟨rfl, rfl⟩

set_option maxRecDepth 100000 in
set_option maxHeartbeats 400000 in
theorem in_zero (ad : Option Addr) (c : Nat) (x : Int) (w : World) :
    Calls Try.prog 30 #[.slice ad 0 c, .int .i64 x] w fun e w' => e = .returned (.bool false) ∧ w' = w := by
  go_enter Try.func30, Try.ntmps30
  go_wp2_with fail
  go_loopw [5] (fun i wr => i = .int .i64 0 ∧ wr = w) (fun _ _ => 0)
  case atStart => exact ⟨rfl, rfl⟩
  case round =>
    obtain ⟨rfl, rfl⟩ := hrel
    go_wp2_with fail
    go_ret
    exact ⟨rfl, rfl⟩

end Go.Proofs.Ytglddgjljohkiab
