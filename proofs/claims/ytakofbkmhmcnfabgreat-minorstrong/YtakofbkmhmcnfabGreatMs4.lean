/- Size of a view: a contract. -/
import Derived.Test.YtakofbkmhmcnfabGreatMs1
import Derived.Test.YtakofbkmhmcnfabGreatWv4
namespace Go.Proofs.YtakofbkmhmcnfabGreat
open Go.RowKit W Kp Stl

theorem szV_snoc (ns : List (Int × List (Int × Int))) (i : Nat) (h : i < ns.length) : szV (ns.take (i + 1)) = szV (ns.take i) + (1 + if (ns.getD i (0, [])).1 = 5 then 0 else (ns.getD i (0, [])).2.length) := by
  have e : ns.getD i (0, []) = ns[i] := by rw [List.getD_eq_getElem?_getD, List.getElem?_eq_getElem h]; rfl
  rw [List.take_succ_eq_append_getElem h, e]
  unfold szV
  rw [List.map_append, List.sum_append]
  simp only [List.map_cons, List.map_nil, List.sum_cons, List.sum_nil, Nat.add_zero]
theorem szV_le : ∀ ns : List (Int × List (Int × Int)), (∀ nd ∈ ns, nd.2.length ≤ 1000) → szV ns ≤ ns.length * 1001
  | [], _ => Nat.le_refl _
  | nd :: ns, h => by
    have h1 := szV_le ns (fun x hx => h x (List.mem_cons_of_mem _ hx))
    have h2 := h nd (by simp)
    have e : szV (nd :: ns) = (1 + if nd.1 = 5 then 0 else nd.2.length) + szV ns := by simp [szV]
    rw [e, List.length_cons]
    split <;> omega

set_option maxRecDepth 100000 in
set_option maxHeartbeats 1000000 in
theorem size_any {ns : List (Int × List (Int × Int))} (r na : Option Addr) (rl rc nc : Nat) (w : World) (hl : ns.length ≤ 100000) (hf : ∀ nd ∈ ns, nd.2.length ≤ 1000) (h : Ln w na ns) :
    Calls Tryz.prog 23 #[.agg #[.slice r rl rc, .slice na ns.length nc]] w fun e w' => e = .returned (.int .i64 (szV ns)) ∧ Below w.heap.size w w' := by
  have hb0 := (Below.refl w.heap.size w).alloc (Nat.le_refl _) (.cells #[.slice r rl rc, .slice na ns.length nc] 50)
  have hx0 := heap_alloc_new w (.cells #[.slice r rl rc, .slice na ns.length nc] 50)
  have HL : Hid (Ln (w.alloc (.cells #[.slice r rl rc, .slice na ns.length nc] 50)) na ns) := h.below hb0
  have HF : Hid (∀ nd ∈ ns, nd.2.length ≤ 1000) := hf
  clear h hf
  go_enter Tryz.func23, Tryz.ntmps23
  go_wp2_with fail
  have HB0 : Hid (Below w.heap.size w (w.alloc (.cells #[.slice r rl rc, .slice na ns.length nc] 50))) := hb0
  clear hb0
  generalize w.alloc (.cells #[.slice r rl rc, .slice na ns.length nc] 50) = w1 at *
  obtain ⟨B, hB⟩ : ∃ B, w.heap.size = B := ⟨_, rfl⟩
  rw [hB] at hx0 ⊢
  have z1 : w1.cell? ⟨B, 1, none⟩ = some (.slice na ns.length nc) := by simp [World.cell?, hx0]
  clear hx0
  go_loopw [3, 4] (fun nv iv wr => ∃ i : Nat, i ≤ ns.length ∧ iv = .int .i64 i ∧ nv = .int .i64 (szV (ns.take i)) ∧ wr = w1) (fun _ iv _ => ns.length - (intOf iv).toNat)
  case atStart => exact ⟨0, Nat.zero_le _, rfl, rfl, rfl⟩
  case round =>
    obtain ⟨i, hi, rfl, rfl, rfl⟩ := hrel
    by_cases hlt : i < ns.length
    · obtain ⟨b, oo, fa, fc, e, lb, x1, x2, _⟩ := HL.out.at hlt
      subst e
      have hs := szV_snoc ns i hlt
      have hle := szV_le (ns.take i) (fun nd hnd => HF.out nd (List.mem_of_mem_take hnd))
      rw [List.length_take] at hle
      have hfl : (ns.getD i (0, [])).2.length ≤ 1000 := HF.out _ (by rw [List.getD_eq_getElem?_getD, List.getElem?_eq_getElem hlt]; exact List.getElem_mem hlt)
      have hle2 : szV (ns.take i) ≤ 200000000 := by omega
      have i0 : (0 : Int) ≤ (i : Int) := by omega
      have i1 : (i : Int) < (ns.length : Int) := by omega
      generalize szV (ns.take i) = z at *
      generalize (ns.getD i (0, [])).1 = kk at *
      generalize (ns.getD i (0, [])).2.length = ff at *
      clear hle
      by_cases h5 : kk = 5
      · subst h5
        rw [if_pos rfl] at hs
        have HZ : Hid (szV (ns.take (i + 1)) = z + (1 + 0)) := hs
        clear hs
        go_wp2_with fail
        go_roundw
        case rel => exact ⟨i + 1, by omega, by go_num, by rw [HZ.out]; go_num, trivial⟩
        case measure => simp [intOf]; omega
      · rw [if_neg h5] at hs
        have HZ : Hid (szV (ns.take (i + 1)) = z + (1 + ff)) := hs
        clear hs
        go_wp2_with fail
        go_roundw
        case rel => exact ⟨i + 1, by omega, by go_num, by rw [HZ.out]; go_num, trivial⟩
        case measure => simp [intOf]; omega
    · obtain rfl : i = ns.length := by omega
      rw [List.take_length]
      go_wp2_with fail
      go_ret
      exact ⟨rfl, HB0.out⟩

end Go.Proofs.YtakofbkmhmcnfabGreat
