/- At, Copy of a Side: contracts. -/
import Derived.Test.YthlfgddhkffilabSd9
namespace Go.Proofs.Ythlfgddhkffilab
open Go.RowKit W Kp Stl

/-- What waits at a guardian. -/
def atL (q : List En) (g : Int) : List Int := (q.filter (fun e => e.1 == g)).map (·.2)
theorem atL_yes (q : List En) (g : Int) (j : Nat) (h : j < q.length) (e : (q.getD j (0, 0)).1 = g) : atL (q.take (j + 1)) g = atL (q.take j) g ++ [(q.getD j (0, 0)).2] := by
  unfold atL
  rw [take_snoc q j h (0, 0), List.filter_append, List.map_append, List.filter_cons, e]
  simp
theorem atL_no (q : List En) (g : Int) (j : Nat) (h : j < q.length) (e : ¬ (q.getD j (0, 0)).1 = g) : atL (q.take (j + 1)) g = atL (q.take j) g := by
  unfold atL
  rw [take_snoc q j h (0, 0), List.filter_append, List.map_append, List.filter_cons]
  rw [if_neg (by simpa using e)]
  simp
theorem atL_len (q : List En) (g : Int) : (atL q g).length ≤ q.length := by
  unfold atL
  rw [List.length_map]
  exact List.length_filter_le _ _

set_option maxRecDepth 100000 in
set_option maxHeartbeats 1000000 in
theorem atS_any (w : World) (p : Nat) (v0 : Value) (a1 : Option Addr) (k1 : Nat) (q : List En) (g : Int) (h : w.heap[p]? = some (.cells #[v0, .slice a1 q.length k1] 29 (0, 0))) (hp : Lp w a1 q) (hm : q.length ≤ 90000) :
    Calls Try.prog 114 #[.pointer (some ⟨p, 0, none⟩), .int .i64 g] w fun e w' => ∃ ad cap, e = .returned (.slice ad (atL q g).length cap) ∧ w'.ownsRow w.heap.size 2 1 (.slice ad (atL q g).length cap) (atL q g).length ((atL q g).map (Value.int .i64)) ∧ Below w.heap.size w w' := by
  obtain ⟨i0, hi, hz0, hz1, hz2⟩ := info_parts info64
  have c1 : w.cell? ⟨p, 1, none⟩ = some (.slice a1 q.length k1) := by simp [World.cell?, h]
  have HP : Hid (Lp w a1 q) := hp
  clear h hp
  go_enter Try.func114, Try.ntmps114
  go_wp2_with fail
  go_loopw [5, 13] (fun tv iv wr => ∃ (j : Nat) (T : List Int) (at1 : Option Addr) (ct : Nat), j ≤ q.length ∧ iv = .int .i64 j ∧ Hid (T = atL (q.take j) g) ∧ tv = .slice at1 T.length ct ∧ wr.ownsRow w.heap.size 2 1 (.slice at1 T.length ct) T.length (T.map (Value.int .i64)) ∧ Below w.heap.size w wr) (fun _ iv _ => q.length - (intOf iv).toNat)
  case atStart => exact ⟨0, [], none, 0, Nat.zero_le _, rfl, rfl, rfl, World.ownsRow_nil _ _ _ _, Below.refl _ _⟩
  case round =>
    obtain ⟨j, T, at1, ct, hj, rfl, HT, rfl, hT, hb⟩ := hrel
    have hTl : T.length ≤ 90000 := by
      have := atL_len (q.take j) g
      rw [HT.out]
      simp at this
      omega
    by_cases hlt : j < q.length
    · obtain ⟨b0, o0, e0, hb0, hc⟩ := HP.out.below hb (by omega)
      obtain ⟨x1, x2⟩ := hc j hlt
      clear hc
      subst e0
      have hs := hb.size
      by_cases cq : (q.getD j (0, 0)).1 = g
      · have HT' : Hid (T ++ [(q.getD j (0, 0)).2] = atL (q.take (j + 1)) g) := by show _ = _; rw [atL_yes q g j hlt cq, HT.out]
        rw [cq] at x1
        generalize (q.getD j (0, 0)).2 = z at x2 HT'
        clear cq
        have hT1 := row_alloc hT (.cells #[.int .i64 g, .int .i64 z] 39)
        have hb1 := hb.alloc hs (.cells #[.int .i64 g, .int .i64 z] 39)
        go_wp2_with (at_builtin; refine wpList_append_own_at _ rfl _ _ 23 rfl w.heap.size 2 i0 (.int .i64 0) 1 8 Try.underlying23 hi hz0 hz1 hz2 rfl (by decide) (.slice at1 T.length ct) T.length (T.map (Value.int .i64)) rfl (row_alloc hT1 _) ⟨wr.heap.size + 1, 0, none⟩ 1 1 [.int .i64 z] rfl rfl ?_ ?_ ?_ ?_ ?_ ?_; (intro j u hj; match j, hj with | 0, hj => (simp at hj; subst hj; simp [Addr.add])); (intro u hu; simp at hu; subst hu; rfl); (unfold maxLen; omega); omega; (simp; omega); intro v' w4 hown4 hgrow4 _ hloc4; obtain ⟨b4, cap4, ev4⟩ := row_shape hown4 (Nat.succ_pos _); subst ev4)
        have hT4 : w4.ownsRow w.heap.size 2 1 (.slice (some ⟨b4, 0, none⟩) (T ++ [z]).length cap4) (T ++ [z]).length ((T ++ [z]).map (Value.int .i64)) := by simpa using hown4
        have hb4 := (hb1.alloc hb1.size _).grown hgrow4 (by simp; omega) (fun k e => (row_lt hT k e.symm).1)
        clear hown4 hgrow4 hloc4 hT hT1 hb hb1 x1 x2
        go_wp2_with fail
        go_roundw
        case rel => exact ⟨j + 1, T ++ [z], some ⟨b4, 0, none⟩, cap4, by omega, by go_num, HT', by simp, hT4, hb4⟩
        case measure => simp [intOf]; omega
      · have HT' : Hid (T = atL (q.take (j + 1)) g) := by show _ = _; rw [atL_no q g j hlt cq, HT.out]
        generalize (q.getD j (0, 0)).1 = x at x1 cq
        generalize (q.getD j (0, 0)).2 = z at x2
        have hT1 := row_alloc hT (.cells #[.int .i64 x, .int .i64 z] 39)
        have hb1 := hb.alloc hs (.cells #[.int .i64 x, .int .i64 z] 39)
        clear hT hb
        go_wp2_with fail
        go_roundw
        case rel => exact ⟨j + 1, T, at1, ct, by omega, by go_num, HT', rfl, hT1, hb1⟩
        case measure => simp [intOf]; omega
    · obtain rfl : j = q.length := by omega
      rw [List.take_length] at HT
      go_wp2_with fail
      go_ret
      rw [← HT.out]
      exact ⟨at1, ct, rfl, hT, hb⟩

end Go.Proofs.Ythlfgddhkffilab
