/- At, Copy of a Side: contracts. -/
import Derived.Test.YthlfgddhkffilaaSd9
namespace Go.Proofs.Ythlfgddhkffilaa
open Go.RowKit W Kp Stl

/-- What waits at a guardian. -/
def atL (q : List En) (g : Int) : List Int := (q.filter (fun e => e.1 == g)).map (·.2)
theorem atL_yes (q : List En) (g : Int) (j : Nat) (h : j < q.length) (e : (q.getD j (0, 0)).1 = g) : atL (q.take (j + 1)) g = atL (q.take j) g ++ [(q.getD j (0, 0)).2] := by
  unfold atL
  rw [take_snoc q j h (0, 0), List.filter_append, List.map_append, List.filter_cons, e]
  simp
theorem atL_no (q : List En) (g : Int) (j : Nat) (h : j < q.length) (e : ¬ (q.getD j (0, 0)).1 = g) : atL (q.take (j + 1)) g = atL (q.take j) g := by
  unfold atL
  rw [take_snoc q j h (0, 0), List.filter_append, List.map_append, List.filter_cons]
  rw [if_neg (by simpa using e)]
  simp
theorem atL_len (q : List En) (g : Int) : (atL q g).length ≤ q.length := by
  unfold atL
  rw [List.length_map]
  exact List.length_filter_le _ _

set_option maxRecDepth 100000 in
set_option maxHeartbeats 1000000 in
theorem atS_any (w : World) (p : Nat) (v0 : Value) (a1 : Option Addr) (k1 : Nat) (q : List En) (g : Int) (h : w.heap[p]? = some (.cells #[v0, .slice a1 q.length k1] 82 (0, 0))) (hp : Lp w a1 q) (hm : q.length ≤ 90000) :
    Calls Try.prog 70 #[.pointer (some ⟨p, 0, none⟩), .int .i64 g] w fun e w' => ∃ ad cap, e = .returned (.slice ad (atL q g).length cap) ∧ w'.ownsRow w.heap.size 2 1 (.slice ad (atL q g).length cap) (atL q g).length ((atL q g).map (Value.int .i64)) ∧ Below w.heap.size w w' := by
  obtain ⟨i0, hi, hz0, hz1, hz2⟩ := info_parts info64
  have c1 : w.cell? ⟨p, 1, none⟩ = some (.slice a1 q.length k1) := by simp [World.cell?, h]
  have HP : Hid (Lp w a1 q) := hp
  clear h hp
  go_enter Try.func70, Try.ntmps70
  go_wp2_with fail
  go_loopw [5, 13] (fun tv iv wr => ∃ (j : Nat) (T : List Int) (at1 : Option Addr) (ct : Nat), j ≤ q.length ∧ iv = .int .i64 j ∧ Hid (T = atL (q.take j) g) ∧ tv = .slice at1 T.length ct ∧ wr.ownsRow w.heap.size 2 1 (.slice at1 T.length ct) T.length (T.map (Value.int .i64)) ∧ Below w.heap.size w wr) (fun _ iv _ => q.length - (intOf iv).toNat)
  case atStart => exact ⟨0, [], none, 0, Nat.zero_le _, rfl, rfl, rfl, World.ownsRow_nil _ _ _ _, Below.refl _ _⟩
  case round =>
    obtain ⟨j, T, at1, ct, hj, rfl, HT, rfl, hT, hb⟩ := hrel
    have hTl : T.length ≤ 90000 := by
      have := atL_len (q.take j) g
      rw [HT.out]
      simp at this
      omega
    by_cases hlt : j < q.length
    · obtain ⟨b0, o0, e0, hb0, hc⟩ := HP.out.below hb (by omega)
      obtain ⟨x1, x2⟩ := hc j hlt
      clear hc
      subst e0
      have hs := hb.size
      by_cases cq : (q.getD j (0, 0)).1 = g
      · have HT' : Hid (T ++ [(q.getD j (0, 0)).2] = atL (q.take (j + 1)) g) := by show _ = _; rw [atL_yes q g j hlt cq, HT.out]
        rw [cq] at x1
        generalize (q.getD j (0, 0)).2 = z at x2 HT'
        clear cq
        have hT1 := row_alloc hT (.cells #[.int .i64 g, .int .i64 z] 84)
        have hb1 := hb.alloc hs (.cells #[.int .i64 g, .int .i64 z] 84)
        go_wp2_with (at_builtin; refine wpList_append_own_at _ rfl _ _ 54 rfl w.heap.size 2 i0 (.int .i64 0) 1 8 Try.underlying54 hi hz0 hz1 hz2 rfl (by decide) (.slice at1 T.length ct) T.length (T.map (Value.int .i64)) rfl (row_alloc hT1 _) ⟨wr.heap.size + 1, 0, none⟩ 1 1 [.int .i64 z] rfl rfl ?_ ?_ ?_ ?_ ?_ ?_; (intro j u hj; match j, hj with | 0, hj => (simp at hj; subst hj; simp [Addr.add])); (intro u hu; simp at hu; subst hu; rfl); (unfold maxLen; omega); omega; (simp; omega); intro v' w4 hown4 hgrow4 _ hloc4; obtain ⟨b4, cap4, ev4⟩ := row_shape hown4 (Nat.succ_pos _); subst ev4)
        have hT4 : w4.ownsRow w.heap.size 2 1 (.slice (some ⟨b4, 0, none⟩) (T ++ [z]).length cap4) (T ++ [z]).length ((T ++ [z]).map (Value.int .i64)) := by simpa using hown4
        have hb4 := (hb1.alloc hb1.size _).grown hgrow4 (by simp; omega) (fun k e => (row_lt hT k e.symm).1)
        clear hown4 hgrow4 hloc4 hT hT1 hb hb1 x1 x2
        go_wp2_with fail
        go_roundw
        case rel => exact ⟨j + 1, T ++ [z], some ⟨b4, 0, none⟩, cap4, by omega, by go_num, HT', by simp, hT4, hb4⟩
        case measure => simp [intOf]; omega
      · have HT' : Hid (T = atL (q.take (j + 1)) g) := by show _ = _; rw [atL_no q g j hlt cq, HT.out]
        generalize (q.getD j (0, 0)).1 = x at x1 cq
        generalize (q.getD j (0, 0)).2 = z at x2
        have hT1 := row_alloc hT (.cells #[.int .i64 x, .int .i64 z] 84)
        have hb1 := hb.alloc hs (.cells #[.int .i64 x, .int .i64 z] 84)
        clear hT hb
        go_wp2_with fail
        go_roundw
        case rel => exact ⟨j + 1, T, at1, ct, by omega, by go_num, HT', rfl, hT1, hb1⟩
        case measure => simp [intOf]; omega
    · obtain rfl : j = q.length := by omega
      rw [List.take_length] at HT
      go_wp2_with fail
      go_ret
      rw [← HT.out]
      exact ⟨at1, ct, rfl, hT, hb⟩

set_option maxRecDepth 100000 in
set_option maxHeartbeats 1000000 in
theorem copyS_any (w : World) (p : Nat) (a0 a1 : Option Addr) (k0 k1 : Nat) (r q : List En) (h : Sds w p a0 k0 a1 k1 r q) (h0 : r.length ≤ 90000) (h1 : q.length ≤ 90000) :
    Calls Try.prog 67 #[.pointer (some ⟨p, 0, none⟩)] w fun e w' => ∃ p' b0 c0 b1 c1, e = .returned (.pointer (some ⟨p', 0, none⟩)) ∧ w.heap.size ≤ p' ∧ Sds w' p' b0 c0 b1 c1 r q ∧ (∀ z, b0 = some z → w.heap.size ≤ z.block) ∧ (∀ z, b1 = some z → w.heap.size ≤ z.block) ∧ (∀ k, some k = (Value.slice b0 r.length c0).ownBlock → some k ≠ (Value.slice b1 q.length c1).ownBlock) ∧ Below w.heap.size w w' := by
  obtain ⟨c0, c1, f0, f1, lp⟩ := h.cells
  have HR : Hid (Li w a0 r k0) := row_li h.r0
  have HQ : Hid (Li w a1 q k1) := row_li h.q0
  clear h f0 f1
  go_enter Try.func67, Try.ntmps67
  go_wp2_with fail
  have hd := (Below.refl w.heap.size w).drew
  go_region_held3 (fun w' => w'.cell? ⟨p, 0, none⟩ = some (.slice a0 r.length k0) ∧ w'.cell? ⟨p, 1, none⟩ = some (.slice a1 q.length k1)) (first | exact ⟨c0, c1⟩ | exact ⟨u0, u1⟩ | exact ⟨v0, v1⟩ | go_keep)
    (first | (have hb8 := hb3; go_at_call 107; refine (cloneE_any _ a1 q k1 (HQ.out.below hb3) (by omega)).mono ?_; rintro e w5 ⟨d1, e1, rfl, hQ5, hb5⟩; have l5 := hb5.size; have v0 := (hb5.cell (p := ⟨p, 0, none⟩) (Nat.lt_of_lt_of_le lp l3)).trans u0; have v1 := (hb5.cell (p := ⟨p, 1, none⟩) (Nat.lt_of_lt_of_le lp l3)).trans u1)
           | (go_at_call 107; refine (cloneE_any _ a0 r k0 (HR.out.below hd) (by omega)).mono ?_; rintro e w3 ⟨d0, e0, rfl, hR3, hb3'⟩; have hb3 : Below w.heap.size w w3 := hd.trans hb3'; have l3 := hb3.size; have u0 := (hb3.cell (p := ⟨p, 0, none⟩) lp).trans c0; have u1 := (hb3.cell (p := ⟨p, 1, none⟩) lp).trans c1))
  go_wp2_with fail
  go_ret
  refine ⟨w5.heap.size, d0, e0, d1, e1, rfl, Nat.le_trans l3 l5, ⟨heap_alloc_new _ _, row_base (row_alloc (row_keep hR3 (fun k e => hb5.block k (row_lt hR3 k e).2)) _) (fun _ _ => Nat.zero_le _), row_base (row_alloc hQ5 _) (fun _ _ => Nat.zero_le _)⟩, fun z e => (row_lt hR3 z.block (by rw [e]; rfl)).1, fun z e => Nat.le_trans l3 (row_lt hQ5 z.block (by rw [e]; rfl)).1, fun k e e' => ?_, (hb3.trans (hb5.mono l3)).alloc (Nat.le_trans l3 l5) _⟩
  have q1 := (row_lt hR3 k e).2
  have q2 := (row_lt hQ5 k e').1
  omega

end Go.Proofs.Ythlfgddhkffilaa
