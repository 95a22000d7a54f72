/- The document's answer on what becomes of entries: what its two closures do: contracts, over the seat's own translation. -/
import Derived.Test.YtjleaikdinepbaaSm3
namespace Go.Proofs.Ytjleaikdinepbaa
open Go.RowKit W Kp

set_option maxRecDepth 100000 in
set_option maxHeartbeats 1000000 in
theorem is1_any {w : World} {c ca : Nat} {a : Option Addr} {A : List Int} (x : Int) (h0 : w.cell? ⟨c, 0, none⟩ = some (.slice a A.length ca)) (h : Ls w a A) (hm : A.length ≤ 100000) :
    Calls Try.prog 108 #[.int .i64 x, .pointer (some ⟨c, 0, none⟩)] w fun e w' => e = .returned (.bool (A.contains x)) ∧ w' = w := by
  have H : Hid (Ls w a A) := h
  clear h
  generalize hr : A.contains x = r
  have HR : Hid (A.contains x = r) := hr
  clear hr
  go_enter Try.func108, Try.ntmps108
  go_wp2_with fail
  go_loopw [4] (fun i wr => ∃ k : Nat, k ≤ A.length ∧ i = .int .i64 k ∧ wr = w ∧ Hid ((A.take k).contains x = false)) (fun i _ => A.length - (intOf i).toNat)
  case atStart => exact ⟨0, Nat.zero_le _, rfl, rfl, by simp [Hid]⟩
  case round =>
    obtain ⟨k, hk, rfl, rfl, HK⟩ := hrel
    by_cases hlt : k < A.length
    · obtain ⟨bb, of, rfl, _, hc⟩ := H.out (by omega)
      have x1 := hc k hlt
      have hg : A.getD k 0 = A[k] := by simp [List.getElem?_eq_getElem hlt]
      clear hc
      by_cases e : A.getD k 0 = x
      · have hrt : r = true := by
          rw [← HR.out, List.contains_iff_mem, ← e, hg]
          exact List.getElem_mem hlt
        subst hrt
        rw [e] at x1
        clear e hg
        go_wp2_with fail
        go_ret
        exact ⟨rfl, rfl⟩
      · have HK' : Hid ((A.take (k + 1)).contains x = false) := take_none hlt HK.out (fun h' => e (by rw [hg, h']))
        generalize A.getD k 0 = y at x1 e
        clear hg
        go_wp2_with fail
        go_roundw
        case rel => exact ⟨k + 1, by omega, by go_num, trivial, HK'⟩
        case measure => simp [intOf]; omega
    · have hrt : r = false := by
        rw [← HR.out, ← HK.out, List.take_of_length_le (by omega)]
      subst hrt
      go_wp2_with fail
      go_ret
      exact ⟨rfl, rfl⟩

/-- What stands around the closures: what is alive is A, in a row of its own; what leads where L, as it came; the first closure in a box of its own. -/
structure Sb2 (w : World) (ba bl bi : Nat) (A : List Int) (L : Pairs) (rowA : Option Nat) (adL : Option Addr) : Prop where
  sl : ∃ a ca, w.heap[ba]? = some (.cells #[.slice a A.length ca] 54 (0, 0)) ∧ w.ownsRow 0 2 1 (.slice a A.length ca) A.length (A.map (Value.int .i64)) ∧ (Value.slice a A.length ca).ownBlock = rowA
  ll : ∃ cl, w.heap[bl]? = some (.cells #[.slice adL L.length cl] 94 (0, 0))
  is : w.heap[bi]? = some (.cells #[.func (.func 108) #[] #[.pointer (some ⟨ba, 0, none⟩)]] 102 (0, 0))
  led : Lp w adL L
  ap : 0 < L.length → ∀ a, adL = some a → a.block ≠ ba ∧ some a.block ≠ rowA

theorem Sb2.keep {w w' : World} {ba bl bi : Nat} {A : List Int} {L : Pairs} {rowA : Option Nat} {adL : Option Addr} (h : Sb2 w ba bl bi A L rowA adL) (hs : w.heap.size ≤ w'.heap.size)
    (k1 : w'.heap[ba]? = w.heap[ba]?) (k2 : w'.heap[bl]? = w.heap[bl]?) (k3 : w'.heap[bi]? = w.heap[bi]?) (k4 : ∀ k, rowA = some k → w'.heap[k]? = w.heap[k]?) (k5 : 0 < L.length → ∀ a, adL = some a → w'.heap[a.block]? = w.heap[a.block]?) : Sb2 w' ba bl bi A L rowA adL := by
  obtain ⟨a, ca, h1, h2, h3⟩ := h.sl
  obtain ⟨cl, h4⟩ := h.ll
  exact ⟨⟨a, ca, k1.trans h1, row_keep h2 (fun k e => k4 k (by rw [← h3, e])), h3⟩, ⟨cl, k2.trans h4⟩, k3.trans h.is, h.led.keep hs k5, h.ap⟩
theorem Sb2.lts {w : World} {ba bl bi : Nat} {A : List Int} {L : Pairs} {rowA : Option Nat} {adL : Option Addr} (h : Sb2 w ba bl bi A L rowA adL) : ba < w.heap.size ∧ bl < w.heap.size ∧ bi < w.heap.size ∧ (∀ k, rowA = some k → k < w.heap.size) ∧ (0 < L.length → ∀ a, adL = some a → a.block < w.heap.size) := by
  obtain ⟨a, ca, h1, h2, h3⟩ := h.sl
  obtain ⟨cl, h4⟩ := h.ll
  refine ⟨lt_of_some h1, lt_of_some h4, lt_of_some h.is, fun k e => (row_lt h2 k (by rw [h3, e])).2, fun hp a e => ?_⟩
  obtain ⟨b, o, e2, hb, _⟩ := h.led hp
  rw [e] at e2
  cases e2
  exact hb
/-- Its blocks are apart. -/
theorem Sb2.nes {w : World} {ba bl bi : Nat} {A : List Int} {L : Pairs} {rowA : Option Nat} {adL : Option Addr} (h : Sb2 w ba bl bi A L rowA adL) : bl ≠ ba ∧ bi ≠ ba ∧ some ba ≠ rowA ∧ some bl ≠ rowA ∧ some bi ≠ rowA := by
  obtain ⟨a, ca, h1, h2, h3⟩ := h.sl
  obtain ⟨cl, h4⟩ := h.ll
  have hi := h.is
  have ht : ∀ k, some k = rowA → ∃ cur, w.heap[k]? = some (.cells cur 2 (0, 0)) := fun k e => row_type h2 k (by rw [h3, e])
  refine ⟨fun e => ?_, fun e => ?_, fun e => ?_, fun e => ?_, fun e => ?_⟩
  · rw [e, h1] at h4; simp at h4
  · rw [e, h1] at hi; simp at hi
  · obtain ⟨cur, hc⟩ := ht _ e; rw [h1] at hc; simp at hc
  · obtain ⟨cur, hc⟩ := ht _ e; rw [h4] at hc; simp at hc
  · obtain ⟨cur, hc⟩ := ht _ e; rw [hi] at hc; simp at hc
theorem Sb2.fr {w w' : World} {X : Nat → Prop} {ba bl bi : Nat} {A : List Int} {L : Pairs} {rowA : Option Nat} {adL : Option Addr} (h : Sb2 w ba bl bi A L rowA adL) (f : Fr X w w')
    (k1 : ¬ X ba) (k2 : ¬ X bl) (k3 : ¬ X bi) (k4 : ∀ k, rowA = some k → ¬ X k) (k5 : 0 < L.length → ∀ a, adL = some a → ¬ X a.block) : Sb2 w' ba bl bi A L rowA adL := by
  obtain ⟨l1, l2, l3, l4, l5⟩ := h.lts
  exact h.keep f.size (f.block _ l1 k1) (f.block _ l2 k2) (f.block _ l3 k3) (fun k e => f.block _ (l4 k e) (k4 k e)) (fun hp a e => f.block _ (l5 hp a e) (k5 hp a e))
theorem Sb2.below {w w' : World} {ba bl bi : Nat} {A : List Int} {L : Pairs} {rowA : Option Nat} {adL : Option Addr} (h : Sb2 w ba bl bi A L rowA adL) (hb : Below w.heap.size w w') : Sb2 w' ba bl bi A L rowA adL :=
  h.fr (X := fun _ => False) (Fr.of hb) id id id (fun _ _ => id) (fun _ _ _ => id)

/-- What is alive is told by the memory. -/
theorem Sb2.uniq {w : World} {ba bl bi bl' bi' : Nat} {A B : List Int} {L L' : Pairs} {rowA rowB : Option Nat} {adL adL' : Option Addr} (h : Sb2 w ba bl bi A L rowA adL) (k : Sb2 w ba bl' bi' B L' rowB adL') : A = B ∧ rowA = rowB := by
  obtain ⟨a, ca, h1, h2, h3⟩ := h.sl
  obtain ⟨b, cb, k1, k2, k3⟩ := k.sl
  rw [h1] at k1
  simp at k1
  obtain ⟨rfl, el, rfl⟩ := k1
  rw [← el] at k2 k3
  refine ⟨?_, by rw [← h3, ← k3]⟩
  have inj : A.map (Value.int .i64) = B.map (Value.int .i64) := by
    rcases h2.2 with ⟨_, h0⟩ | ⟨g, cap, cur, hv, _, hg, _, _, _, h6⟩
    · have e1 : A = [] := List.eq_nil_of_length_eq_zero h0
      have e2 : B = [] := List.eq_nil_of_length_eq_zero (by omega)
      rw [e1, e2]
    · rcases k2.2 with ⟨_, h0⟩ | ⟨g', cap', cur', hv', _, hg', _, _, _, h6'⟩
      · have e1 : A = [] := List.eq_nil_of_length_eq_zero h0
        have e2 : B = [] := List.eq_nil_of_length_eq_zero (by omega)
        rw [e1, e2]
      · simp at hv hv'
        rw [hv.1] at hv'
        simp at hv'
        obtain ⟨rfl, _⟩ := hv'
        rw [hg] at hg'
        simp at hg'
        subst hg'
        rw [← h6, ← h6']
  exact (List.map_inj_right (fun x y e => by cases e; rfl)).1 inj

/-- How many pairs lead from what is not alive, by the memory. -/
noncomputable def muOf (L : Pairs) (ba : Nat) (w : World) : Nat := by
  classical
  exact if h : ∃ (A : List Int) (bl bi : Nat) (L' : Pairs) (rowA : Option Nat) (adL : Option Addr), Sb2 w ba bl bi A L' rowA adL then mu L h.choose else 0
theorem muOf_eq {w : World} {ba bl bi : Nat} {A : List Int} {L L' : Pairs} {rowA : Option Nat} {adL : Option Addr} (h : Sb2 w ba bl bi A L' rowA adL) : muOf L ba w = mu L A := by
  have hx : ∃ (A : List Int) (bl bi : Nat) (L' : Pairs) (rowA : Option Nat) (adL : Option Addr), Sb2 w ba bl bi A L' rowA adL := ⟨A, bl, bi, L', rowA, adL, h⟩
  unfold muOf
  rw [dif_pos hx]
  obtain ⟨bl', bi', L'', rowB, adB, hc⟩ := hx.choose_spec
  rw [(hc.uniq h).1]

/-- One more is alive, by an append and a store. -/
theorem Sb2.more {w w1 : World} {ba bl bi : Nat} {A : List Int} {L : Pairs} {rowA : Option Nat} {adL : Option Addr} {x : Int} {b1 cap1 : Nat} (h : Sb2 w ba bl bi A L rowA adL)
    (ho : w1.ownsRow 0 2 1 (.slice (some ⟨b1, 0, none⟩) (A.length + 1) cap1) (A.length + 1) (A.map (Value.int .i64) ++ [.int .i64 x])) (hg : w.grownBy w1 rowA) (hl : some b1 = rowA ∨ b1 = w.heap.size) :
    Sb2 (w1.setCell ⟨ba, 0, none⟩ (.slice (some ⟨b1, 0, none⟩) (A.length + 1) cap1)) ba bl bi (A ++ [x]) L (some b1) adL ∧ Fr (fun k => k = ba ∨ some k = rowA) w (w1.setCell ⟨ba, 0, none⟩ (.slice (some ⟨b1, 0, none⟩) (A.length + 1) cap1)) := by
  obtain ⟨l1, l2, l3, l4, l5⟩ := h.lts
  obtain ⟨n1, n2, n3, n4, n5⟩ := h.nes
  obtain ⟨a, ca, h1, h2, h3⟩ := h.sl
  obtain ⟨cl, h4⟩ := h.ll
  have hc1 : w1.heap[ba]? = some (.cells #[.slice a A.length ca] 54 (0, 0)) := (hg.block ba l1 n3).trans h1
  have hne : b1 ≠ ba := fun e => by
    obtain ⟨cur, hc⟩ := row_type ho b1 rfl
    rw [e, hc1] at hc
    simp at hc
  refine ⟨⟨⟨some ⟨b1, 0, none⟩, cap1, ?_, ?_, rfl⟩, ⟨cl, ?_⟩, ?_, ?_, ?_⟩, ?_⟩
  · simp only [World.setCell, Array.getElem?_modify, if_true, hc1, Option.map_some]
    simp
  · have := row_keep (w' := w1.setCell ⟨ba, 0, none⟩ (.slice (some ⟨b1, 0, none⟩) (A.length + 1) cap1)) ho (fun k e => Below.heap_setCell _ _ _ _ (by simp [Value.ownBlock] at e; subst e; exact hne))
    simpa using this
  · exact (Below.heap_setCell _ _ _ _ n1).trans ((hg.block bl l2 n4).trans h4)
  · exact (Below.heap_setCell _ _ _ _ n2).trans ((hg.block bi l3 n5).trans h.is)
  · refine h.led.keep (by simpa [World.setCell] using hg.size) (fun hp a e => ?_)
    obtain ⟨q1, q2⟩ := h.ap hp a e
    exact (Below.heap_setCell _ _ _ _ q1).trans (hg.block _ (l5 hp a e) q2)
  · intro hp a e
    obtain ⟨q1, q2⟩ := h.ap hp a e
    refine ⟨q1, fun e' => ?_⟩
    have e' : a.block = b1 := by simpa using e'
    rcases hl with hl | hl
    · exact q2 (by rw [e', hl])
    · have := l5 hp a e; omega
  · exact ((Fr.refl _ w).grown hg (fun k e => Or.inl (Or.inr e.symm))).set ba 0 _ (Or.inl rfl)

end Go.Proofs.Ytjleaikdinepbaa
