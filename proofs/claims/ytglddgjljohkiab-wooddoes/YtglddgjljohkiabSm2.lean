/- The statements' own comparisons and bounds of lists of entries: contracts, over the seat's own translation. -/
import Derived.Test.YtglddgjljohkiabSm1
namespace Go.Proofs.Ytglddgjljohkiab
open Go.RowKit W Kp Stl

set_option maxRecDepth 100000 in
set_option maxHeartbeats 1000000 in
theorem great_any (a0 a1 a2 a3 : Option Addr) (n0 n1 n2 n3 c0 c1 c2 c3 : Nat) (w : World) :
    Calls Try.prog 7 #[.slice a0 n0 c0, .slice a1 n1 c1, .slice a2 n2 c2, .slice a3 n3 c3] w fun e w' => e = .returned (.bool (decide ((60 : Int) < n0) || decide ((60 : Int) < n1) || decide ((100 : Int) < n2) || decide ((100 : Int) < n3))) ∧ w' = w := by
  go_enter Try.func7, Try.ntmps7
  go_wp2_with fail
  all_goals
    go_ret
    exact ⟨rfl, rfl⟩

/-- Words from 0 to 999. -/
def Sml (l : List En) : Prop := ∀ e ∈ l, 0 ≤ e.1 ∧ e.1 ≤ 999 ∧ 0 ≤ e.2 ∧ e.2 ≤ 999
instance (l : List En) : Decidable (Sml l) := by unfold Sml; infer_instance
/-- Are they? -/
def smB (r q : List En) : Bool := decide (Sml r ∧ Sml q)
theorem smB_yes {r q : List En} (h : smB r q = true) : Sml r ∧ Sml q := by simpa [smB] using h
theorem smB_no {l : List En} {k : Nat} (hlt : k < l.length) (hs : ¬ (0 ≤ (l.getD k (0, 0)).1 ∧ (l.getD k (0, 0)).1 ≤ 999 ∧ 0 ≤ (l.getD k (0, 0)).2 ∧ (l.getD k (0, 0)).2 ≤ 999)) : ¬ Sml l := by
  intro h
  have hd : l.getD k (0, 0) = l[k] := by simp [List.getElem?_eq_getElem hlt]
  rw [hd] at hs
  exact hs (h _ (List.getElem_mem hlt))

set_option maxRecDepth 100000 in
set_option maxHeartbeats 2000000 in
theorem small_any (a0 a1 a2 a3 : Option Addr) (r q : List En) (n2 n3 c0 c1 c2 c3 : Nat) (w : World) (hr : r.length ≤ 60) (hq : q.length ≤ 60) (h0 : Lp w a0 r) (h1 : Lp w a1 q) :
    Calls Try.prog 8 #[.slice a0 r.length c0, .slice a1 q.length c1, .slice a2 n2 c2, .slice a3 n3 c3] w fun e w' => e = .returned (.bool (smB r q)) ∧ w' = w := by
  generalize ht : smB r q = t
  have HT : Hid (smB r q = t) := ht
  clear ht
  have H0 : Hid (Lp w a0 r) := h0
  have H1 : Hid (Lp w a1 q) := h1
  clear h0 h1
  go_enter Try.func8, Try.ntmps8
  go_wp2_with fail
  go_loopw [9] (fun i wr => ∃ k : Nat, k ≤ r.length ∧ i = .int .i64 k ∧ wr = w ∧ Hid (Sml (r.take k))) (fun i _ => r.length - (intOf i).toNat)
  case atStart => exact ⟨0, Nat.zero_le _, rfl, rfl, fun e he => by simp at he⟩
  case round =>
    obtain ⟨k, hk, rfl, hw, HK⟩ := hrel
    have hw := hw.symm
    subst hw
    by_cases hlt : k < r.length
    · obtain ⟨bb, of, rfl, _, hc⟩ := H0.out (by omega)
      obtain ⟨x1, x2⟩ := hc k hlt
      clear hc
      have hd : r.getD k (0, 0) = r[k] := by simp [List.getElem?_eq_getElem hlt]
      have HD : Hid (r.getD k (0, 0) = r[k]) := hd
      clear hd
      by_cases hs : 0 ≤ (r.getD k (0, 0)).1 ∧ (r.getD k (0, 0)).1 ≤ 999 ∧ 0 ≤ (r.getD k (0, 0)).2 ∧ (r.getD k (0, 0)).2 ≤ 999
      · have HK' : Hid (Sml (r.take (k + 1))) := fun e he => by
          rw [List.take_add_one, List.getElem?_eq_getElem hlt] at he
          rcases List.mem_append.1 he with he | he
          · exact HK.out e he
          · simp at he; subst he; rw [HD.out] at hs; exact hs
        obtain ⟨s1, s2, s3, s4⟩ := hs
        clear HD
        generalize (r.getD k (0, 0)).1 = u at x1 s1 s2
        generalize (r.getD k (0, 0)).2 = v at x2 s3 s4
        go_wp2_with fail
        go_roundw
        case rel => exact ⟨k + 1, by omega, by go_num, trivial, HK'⟩
        case measure => simp [intOf]; omega
      · have hf : t = false := by rw [← HT.out]; simp [smB, smB_no hlt hs]
        subst hf
        clear HD
        generalize (r.getD k (0, 0)).1 = u at x1 hs
        generalize (r.getD k (0, 0)).2 = v at x2 hs
        go_wp2_with fail
        all_goals
          go_ret
          exact ⟨rfl, rfl⟩
    · have HR : Hid (Sml r) := by
        have := HK.out
        rw [List.take_of_length_le (by omega)] at this
        exact this
      clear HK
      go_wp2_with fail
      clear hlt hk
      go_loopw [10] (fun i wr => ∃ k : Nat, k ≤ q.length ∧ i = .int .i64 k ∧ wr = w ∧ Hid (Sml (q.take k))) (fun i _ => q.length - (intOf i).toNat)
      case atStart => exact ⟨0, Nat.zero_le _, rfl, rfl, fun e he => by simp at he⟩
      case round =>
        obtain ⟨k, hk, rfl, hw, HK⟩ := hrel
        have hw := hw.symm
        subst hw
        by_cases hlt : k < q.length
        · obtain ⟨bb, of, rfl, _, hc⟩ := H1.out (by omega)
          obtain ⟨x1, x2⟩ := hc k hlt
          clear hc
          have HD : Hid (q.getD k (0, 0) = q[k]) := by simp [Hid, List.getElem?_eq_getElem hlt]
          by_cases hs : 0 ≤ (q.getD k (0, 0)).1 ∧ (q.getD k (0, 0)).1 ≤ 999 ∧ 0 ≤ (q.getD k (0, 0)).2 ∧ (q.getD k (0, 0)).2 ≤ 999
          · have HK' : Hid (Sml (q.take (k + 1))) := fun e he => by
              rw [List.take_add_one, List.getElem?_eq_getElem hlt] at he
              rcases List.mem_append.1 he with he | he
              · exact HK.out e he
              · simp at he; subst he; rw [HD.out] at hs; exact hs
            obtain ⟨s1, s2, s3, s4⟩ := hs
            clear HD
            generalize (q.getD k (0, 0)).1 = u at x1 s1 s2
            generalize (q.getD k (0, 0)).2 = v at x2 s3 s4
            go_wp2_with fail
            go_roundw
            case rel => exact ⟨k + 1, by omega, by go_num, trivial, HK'⟩
            case measure => simp [intOf]; omega
          · have hf : t = false := by rw [← HT.out]; simp [smB, smB_no hlt hs]
            subst hf
            clear HD
            generalize (q.getD k (0, 0)).1 = u at x1 hs
            generalize (q.getD k (0, 0)).2 = v at x2 hs
            go_wp2_with fail
            all_goals
              go_ret
              exact ⟨rfl, rfl⟩
        · have HQ : Hid (Sml q) := by
            have := HK.out
            rw [List.take_of_length_le (by omega)] at this
            exact this
          clear HK
          have hf : t = true := by rw [← HT.out]; simp [smB, HR.out, HQ.out]
          subst hf
          go_wp2_with fail
          go_ret
          exact ⟨rfl, rfl⟩

end Go.Proofs.Ytglddgjljohkiab
