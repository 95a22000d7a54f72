/- wholly, Settle: contracts, over whatever looks that do not panic. -/
import Derived.Test.YthlfgddhkffilaaSd5
import Derived.Tactics
import Derived.Tactics2
import Derived.Recover
import Derived.Laws.EntriesVeiled
namespace Go.Proofs.Ythlfgddhkffilaa
open Go.RowKit W Kp Stl

theorem idle_any (a b c : Addr) (w : World) :
    CallsD Try.prog 121 #[.pointer (some a), .pointer (some b), .pointer (some c)] .returning w fun e u' w' => e = .returned (.tuple #[]) ∧ u' = .returning ∧ w' = w := by
  refine callsD_of_wpS Try.func121 rfl fun c₀ cs hu => ?_
  apply wpS_seq
  apply wpS_region
  simp [wpOpsS, go_sem, recoverD, hu, Try.ntmps121, Exit.thenS]
  refine wpS_cond (t := false) (by simp [Act.eval, Array.replicate]) ?_
  simp only [Bool.false_eq_true, if_false]
  refine wpS_of_wp (wp_skip ?_)
  cases c₀
  simp_all [bodyPostS, results, Try.results121]

set_option maxRecDepth 100000 in
set_option maxHeartbeats 400000 in
theorem wholly_any (f : Nat) (b c : Array Value) (hf : Ent f) (w : World) (p : Nat) (a0 a1 : Option Addr) (n0 k0 n1 k1 : Nat) (c0 : w.cell? ⟨p, 0, none⟩ = some (.slice a0 n0 k0)) (c1 : w.cell? ⟨p, 1, none⟩ = some (.slice a1 n1 k1)) (R : Bool → World → Prop)
    (h : ∀ w1, w1 = ((w.alloc (.cells #[.pointer (some ⟨p, 0, none⟩)] 79)).alloc (.cells #[.bool false] 4)).alloc (.cells #[.slice a0 n0 k0, .slice a1 n1 k1] 82) → Calls Try.prog f (b ++ c) w1 fun r w2 => ∃ bv, r = .returned (.bool bv) ∧ R bv w2 ∧ w2.heap[w.heap.size + 1]? = some (.cells #[.bool false] 4 (0, 0))) :
    Calls Try.prog 112 #[.pointer (some ⟨p, 0, none⟩), .func (.func f) b c] w fun e w' => ∃ bv w2, e = .returned (.bool bv) ∧ R bv w2 ∧ w2.heap[w.heap.size + 1]? = some (.cells #[.bool false] 4 (0, 0)) ∧ w' = w2.setCell ⟨w.heap.size + 1, 0, none⟩ (.bool bv) := by
  have hlt := World.block_lt_of_cell? w _ c0
  have H : Hid (∀ w1, w1 = ((w.alloc (.cells #[.pointer (some ⟨p, 0, none⟩)] 79)).alloc (.cells #[.bool false] 4)).alloc (.cells #[.slice a0 n0 k0, .slice a1 n1 k1] 82) → Calls Try.prog f (b ++ c) w1 fun r w2 => ∃ bv, r = .returned (.bool bv) ∧ R bv w2 ∧ w2.heap[w.heap.size + 1]? = some (.cells #[.bool false] 4 (0, 0))) := h
  clear h
  have hcf : ∀ (args : Array Value) (w : World), (callFunc f args).run Try.prog w = .ok (.enter f args) w := hf
  clear hf
  have hmf : ∀ (fn : Fn) (first cap : Array Value) (w : World), (Instr.makeFunc fn first cap).run Try.prog w = .ok (.func fn first cap) w := fun _ _ _ _ => rfl
  go_enter_defers Try.func112, Try.ntmps112
  go_wp2_with fail
  refine (H.out _ rfl).mono ?_
  rintro e w2 ⟨bv, rfl, hR, hk⟩
  have d0 : w2.cell? ⟨w.heap.size + 1, 0, none⟩ = some (.bool false) := by simp [World.cell?, hk]
  have d1 : w2.frozen? ⟨w.heap.size + 1, 0, none⟩ = false := by simp [World.frozen?, hk]
  go_wp2_with fail
  refine leaves_cons (f := 121) (args := #[.pointer (some ⟨w.heap.size + 1 + 1, 0, none⟩), .pointer (some ⟨w.heap.size, 0, none⟩), .pointer (some ⟨w.heap.size + 1, 0, none⟩)]) (by simp) (by simp [go_sem]) ?_
  refine (idle_any _ _ _ _).mono ?_
  rintro e u' w'' ⟨rfl, rfl, rfl⟩
  have d2 : (w2.setCell ⟨w.heap.size + 1, 0, none⟩ (.bool bv)).cell? ⟨w.heap.size + 1, 0, none⟩ = some (.bool bv) := World.cell?_setCell_same _ _ _ d0
  simp [Leaves, settle, results, Try.results112, go_sem, d2]
  cases bv
  · exact Or.inl ⟨rfl, w2, hR, hk, rfl⟩
  · exact Or.inr ⟨rfl, w2, hR, hk, rfl⟩

theorem ent_settle3 : Ent 113 := ent_of Try.func113 (by kernel_rfl) rfl

set_option maxRecDepth 100000 in
set_option maxHeartbeats 400000 in
theorem settle_any {σ : Type} (o : SdOb σ) (D : Int → Prop) (fa fk fn : Fv) (is : σ → Int → Bool) (kp : σ → Int → Int × σ) (nw : σ → Int → Int) (hL : Lks o D fa fk fn is kp nw) (r : List En) (adr : Option Addr) (cr : Nat) (hvr : o.vr = .slice adr r.length cr) (hr : r.length ≤ 90000) (hD : ∀ e ∈ r, D e.1 ∧ D e.2)
    (F : Nat → Prop) (s : σ) (w : World) (hwS : ∀ e ∈ o.wt (stS o is kp s r), D e.1 ∧ D e.2) (hqr : (o.wt s).length + r.length ≤ 90000) (hJ : o.J F s w) (hlp : Lp w adr r) :
    Calls Try.prog 77 #[.pointer (some ⟨o.p, 0, none⟩), .agg #[fa.v, fk.v, fn.v]] w fun e w' => ∃ a1 c1 a2 c2 F1 wm, e = .returned (.tuple #[]) ∧ o.J F1 (stS o is kp s r) wm ∧ (∀ k, F1 k → k ≠ o.p → w'.heap[k]? = wm.heap[k]?) ∧ wm.heap.size ≤ w'.heap.size ∧
      w'.heap[o.p]? = some (.cells #[.slice a1 (stR o is kp nw s r).length c1, .slice a2 (stQ o is kp nw s r).length c2] 82 (0, 0)) ∧ w'.ownsRow w.heap.size 84 2 (.slice a1 (stR o is kp nw s r).length c1) (stR o is kp nw s r).length (ev (stR o is kp nw s r)) ∧
      w'.ownsRow w.heap.size 84 2 (.slice a2 (stQ o is kp nw s r).length c2) (stQ o is kp nw s r).length (ev (stQ o is kp nw s r)) ∧ Fr F w w' ∧ (∀ k, F1 k → F k ∨ w.heap.size ≤ k) := by
  obtain ⟨ad0, cap0, hp, _, hFp, _⟩ := o.side hJ
  rw [hvr] at hp
  have c0 : w.cell? ⟨o.p, 0, none⟩ = some (.slice adr r.length cr) := by simp [World.cell?, hp]
  have c1 : w.cell? ⟨o.p, 1, none⟩ = some (.slice ad0 (o.wt s).length cap0) := by simp [World.cell?, hp]
  have lp : o.p < w.heap.size := lt_of_some hp
  have HH : Hid (∀ w1, Below w.heap.size w w1 → Bxs w1 o.p (w.heap.size + 1) (w.heap.size + 2) w.heap.size fa fk fn → w1.heap[w.heap.size + 3]? = some (.cells #[comesV (w.heap.size + 2) (w.heap.size + 1) w.heap.size] 87 (0, 0)) → Calls Try.prog 113 #[.pointer (some ⟨w.heap.size, 0, none⟩), .pointer (some ⟨w.heap.size + 1, 0, none⟩), .pointer (some ⟨w.heap.size + 3, 0, none⟩), .pointer (some ⟨w.heap.size + 2, 0, none⟩)] w1 fun e w' => ∃ a1 c1 a2 c2 F1 wm, e = .returned (.bool true) ∧ o.J F1 (stS o is kp s r) wm ∧ Fr (fun k => k = o.p) wm w' ∧
      w'.heap[o.p]? = some (.cells #[.slice a1 (stR o is kp nw s r).length c1, .slice a2 (stQ o is kp nw s r).length c2] 82 (0, 0)) ∧ w'.ownsRow w1.heap.size 84 2 (.slice a1 (stR o is kp nw s r).length c1) (stR o is kp nw s r).length (ev (stR o is kp nw s r)) ∧
      w'.ownsRow w1.heap.size 84 2 (.slice a2 (stQ o is kp nw s r).length c2) (stQ o is kp nw s r).length (ev (stQ o is kp nw s r)) ∧ Fr F w1 w' ∧ (∀ k, F1 k → F k ∨ w1.heap.size ≤ k) ∧ (∀ k, some k = (Value.slice a1 (stR o is kp nw s r).length c1).ownBlock → ¬ F1 k) ∧ (∀ k, some k = (Value.slice a2 (stQ o is kp nw s r).length c2).ownBlock → ¬ F1 k)) := by
    intro w1 hb hB hc
    have q : ∀ k, w.heap.size ≤ k → ¬ F k := fun k hk h => by have := o.lt hJ k h; omega
    exact settle3_any o D fa fk fn is kp nw hL r adr cr hvr hr hD F s w1 hwS hqr _ _ _ _ (o.below hJ hb) hB hc (q _ (by omega)) (q _ (by omega)) (q _ (by omega)) (q _ (by omega)) ⟨by omega, by omega, by omega⟩ (hlp.below hb)
  have HJ : Hid (o.J F s w) := hJ
  clear hL hJ hp hvr hlp hFp
  go_enter Try.func77, Try.ntmps77
  go_wp2_with fail
  have hW : ∃ W4, W4 = (((w.alloc (.cells #[.pointer (some ⟨o.p, 0, none⟩)] 79)).alloc (.cells #[fa.v, fk.v, fn.v] 107)).alloc (.cells #[.func (.func 110) #[] #[.pointer (some ⟨w.heap.size + 1, 0, none⟩)]] 87)).alloc (.cells #[comesV (w.heap.size + 1 + 1) (w.heap.size + 1) w.heap.size] 87) := ⟨_, rfl⟩
  obtain ⟨W4, hW⟩ := hW
  have sz : W4.heap.size = w.heap.size + 4 := by rw [hW]; simp
  have hb4 : Below w.heap.size w W4 := by rw [hW]; exact ((((Below.refl _ w).alloc (Nat.le_refl _) _).alloc (by simp) _).alloc (by simp; omega) _).alloc (by simp; omega) _
  have g0 : W4.heap[w.heap.size]? = some (.cells #[.pointer (some ⟨o.p, 0, none⟩)] 79 (0, 0)) := by
    rw [hW, Below.heap_alloc _ _ _ (by simp; omega), Below.heap_alloc _ _ _ (by simp; omega), Below.heap_alloc _ _ _ (by simp)]
    exact heap_alloc_new _ _
  have g1 : W4.heap[w.heap.size + 1]? = some (.cells #[fa.v, fk.v, fn.v] 107 (0, 0)) := by
    rw [hW, Below.heap_alloc _ _ _ (by simp), Below.heap_alloc _ _ _ (by simp)]
    simpa using heap_alloc_new (w.alloc (.cells #[.pointer (some ⟨o.p, 0, none⟩)] 79)) (.cells #[fa.v, fk.v, fn.v] 107)
  have g2 : W4.heap[w.heap.size + 2]? = some (.cells #[.func (.func 110) #[] #[.pointer (some ⟨w.heap.size + 1, 0, none⟩)]] 87 (0, 0)) := by
    rw [hW, Below.heap_alloc _ _ _ (by simp)]
    simpa using heap_alloc_new ((w.alloc (.cells #[.pointer (some ⟨o.p, 0, none⟩)] 79)).alloc (.cells #[fa.v, fk.v, fn.v] 107)) (.cells #[.func (.func 110) #[] #[.pointer (some ⟨w.heap.size + 1, 0, none⟩)]] 87)
  have g3 : W4.heap[w.heap.size + 3]? = some (.cells #[comesV (w.heap.size + 1 + 1) (w.heap.size + 1) w.heap.size] 87 (0, 0)) := by
    rw [hW]
    simpa using heap_alloc_new (((w.alloc (.cells #[.pointer (some ⟨o.p, 0, none⟩)] 79)).alloc (.cells #[fa.v, fk.v, fn.v] 107)).alloc (.cells #[.func (.func 110) #[] #[.pointer (some ⟨w.heap.size + 1, 0, none⟩)]] 87)) (.cells #[comesV (w.heap.size + 1 + 1) (w.heap.size + 1) w.heap.size] 87)
  rw [← hW]
  have P := wholly_any 113 #[] #[.pointer (some ⟨w.heap.size, 0, none⟩), .pointer (some ⟨w.heap.size + 1, 0, none⟩), .pointer (some ⟨w.heap.size + 1 + 1 + 1, 0, none⟩), .pointer (some ⟨w.heap.size + 1 + 1, 0, none⟩)] ent_settle3 W4 o.p adr ad0 r.length cr (o.wt s).length cap0 ((hb4.cell (p := ⟨o.p, 0, none⟩) lp).trans c0) ((hb4.cell (p := ⟨o.p, 1, none⟩) lp).trans c1)
    (fun _ w2 => ∃ a1 c1 a2 c2 F1 wm, o.J F1 (stS o is kp s r) wm ∧ Fr (fun k => k = o.p) wm w2 ∧
      w2.heap[o.p]? = some (.cells #[.slice a1 (stR o is kp nw s r).length c1, .slice a2 (stQ o is kp nw s r).length c2] 82 (0, 0)) ∧ w2.ownsRow (w.heap.size + 7) 84 2 (.slice a1 (stR o is kp nw s r).length c1) (stR o is kp nw s r).length (ev (stR o is kp nw s r)) ∧
      w2.ownsRow (w.heap.size + 7) 84 2 (.slice a2 (stQ o is kp nw s r).length c2) (stQ o is kp nw s r).length (ev (stQ o is kp nw s r)) ∧ Fr F w w2 ∧ (∀ k, F1 k → F k ∨ w.heap.size + 7 ≤ k))
    (by
      intro w1 hw1
      have s1 : w1.heap.size = w.heap.size + 7 := by rw [hw1]; simp; omega
      have b1 : Below W4.heap.size W4 w1 := by rw [hw1]; exact (((Below.refl _ W4).alloc (Nat.le_refl _) _).alloc (by simp) _).alloc (by simp; omega) _
      have hk : w1.heap[W4.heap.size + 1]? = some (.cells #[.bool false] 4 (0, 0)) := by
        rw [hw1, Below.heap_alloc _ _ _ (by simp)]
        simpa using heap_alloc_new (W4.alloc (.cells #[.pointer (some ⟨o.p, 0, none⟩)] 79)) (.cells #[.bool false] 4)
      have b2 : Below w.heap.size w w1 := hb4.trans (b1.mono (by omega))
      refine (HH.out w1 b2 ⟨(b1.block _ (by omega)).trans g1, (b1.block _ (by omega)).trans g2, (b1.block _ (by omega)).trans g0⟩ ((b1.block _ (by omega)).trans g3)).mono ?_
      rintro e w2 ⟨a1, c1, a2, c2, F1, wm, rfl, q1, q2, q3, q4, q5, q6, q7, _, _⟩
      rw [s1] at q4 q5 q7
      refine ⟨true, rfl, ⟨a1, c1, a2, c2, F1, wm, q1, q2, q3, q4, q5, (Fr.of (X := F) b2).trans q6 (fun _ c => Or.inl c), q7⟩, (q6.block _ (by omega) (fun h => ?_)).trans hk⟩
      have := o.lt HJ.out _ h
      omega)
  refine P.mono ?_
  clear P
  rintro e w3 ⟨bv, w2, rfl, ⟨a1, d1, a2, d2, F1, wm, q1, q2, q3, q4, q5, q6, q7⟩, hk, rfl⟩
  obtain ⟨m, hm⟩ : ∃ m, m = W4.heap.size + 1 := ⟨_, rfl⟩
  rw [← hm]
  have Hm : Hid (m = w.heap.size + 5) := by show m = _; omega
  clear hm hk hb4 g0 g1 g2 g3 sz hW
  go_wp2_with fail
  go_end0
  have hm := Hm.out
  have kp9 : ∀ k, k ≠ m → (w2.setCell ⟨m, 0, none⟩ (.bool bv)).heap[k]? = w2.heap[k]? := fun k hk => Below.heap_setCell _ _ _ _ hk
  refine ⟨a1, d1, a2, d2, F1, wm, rfl, q1, fun k h1 h2 => ?_, ?_, (kp9 _ (by omega)).trans q3, ?_, ?_, q6.trans ((Fr.refl (fun k => k = m) w2).set _ 0 _ rfl) (fun i c => Or.inr (by omega)), fun k h => (q7 k h).imp id (fun h => by omega)⟩
  · refine (kp9 k ?_).trans (q2.block k (o.lt q1 k h1) h2)
    rcases q7 k h1 with h | h
    · have := o.lt HJ.out k h
      omega
    · omega
  · have := q2.size
    simpa [World.setCell] using this
  · exact row_base (row_keep q4 (fun k e => kp9 k (by have := (row_lt q4 k e).1; omega))) (fun k e => by have := (row_lt q4 k e).1; omega)
  · exact row_base (row_keep q5 (fun k e => kp9 k (by have := (row_lt q5 k e).1; omega))) (fun k e => by have := (row_lt q5 k e).1; omega)

end Go.Proofs.Ythlfgddhkffilaa
