/- sideBegun: a contract. -/
import Derived.Test.YthlfgddhkffilaaSda
import Derived.Test.YthlfgddhkffilaaSdb
import Derived.Test.YthlfgddhkffilaaSdc
namespace Go.Proofs.Ythlfgddhkffilaa
open Go.RowKit W Kp Stl

theorem ent_begun1 : Ent 101 := ent_of Try.func101 (by kernel_rfl) rfl
theorem ent_begun2 : Ent 102 := ent_of Try.func102 (by kernel_rfl) rfl

set_option maxRecDepth 100000 in
theorem begun1_any (w : World) (x : Int) : Calls Try.prog 101 #[.int .i64 x] w fun r w' => r = .returned (.bool (x == 1)) ∧ Below w.heap.size w w' := by
  by_cases hx : x = 1
  · subst hx
    go_enter Try.func101, Try.ntmps101
    go_wp2_with fail
    go_ret
    exact ⟨rfl, Below.refl _ _⟩
  · go_enter Try.func101, Try.ntmps101
    go_wp2_with fail
    go_ret
    exact ⟨by simp, Below.refl _ _⟩
set_option maxRecDepth 100000 in
theorem begun2_any (w : World) (x : Int) : Calls Try.prog 102 #[.int .i64 x] w fun r w' => r = .returned (.int .i64 x) ∧ Below w.heap.size w w' := by
  go_enter Try.func102, Try.ntmps102
  go_wp2_with fail
  go_ret
  exact ⟨rfl, Below.refl _ _⟩

abbrev begA : Fv := ⟨101, #[], #[]⟩
abbrev begS : Fv := ⟨102, #[], #[]⟩
theorem lks_begun (p : Nat) (vr : Value) : Lks (mkSd noOb p vr) (fun _ => True) begA begS begS (fun _ x => x == 1) (fun s x => (x, ((), s.2))) (fun _ x => x) :=
  lks_mk noOb p vr (fun _ => True) begA begS begS (fun _ x => x == 1) (fun _ x => (x, ())) (fun _ x => x) ent_begun1 ent_begun2 ent_begun2
    (fun _ _ w x _ _ => begun1_any w x)
    (fun F _ w x _ h => (begun2_any w x).mono (fun _ _ ⟨h1, h2⟩ => ⟨F, h1, h, Fr.of h2, fun _ hk => Or.inl hk⟩))
    (fun _ _ w x _ _ => begun2_any w x)

theorem begun_S (p : Nat) (vr : Value) : stS (mkSd noOb p vr) (fun _ x => x == 1) (fun s x => (x, ((), s.2))) ((), []) [(1, 5)] = ((), [(1, 5)]) := by rfl
theorem begun_R (p : Nat) (vr : Value) : stR (mkSd noOb p vr) (fun _ x => x == 1) (fun s x => (x, ((), s.2))) (fun _ x => x) ((), []) [(1, 5)] = [] := by rfl
theorem begun_Q (p : Nat) (vr : Value) : stQ (mkSd noOb p vr) (fun _ x => x == 1) (fun s x => (x, ((), s.2))) (fun _ x => x) ((), []) [(1, 5)] = [(1, 5)] := by rfl

set_option maxRecDepth 100000 in
set_option maxHeartbeats 1000000 in
theorem sideBegun_any (w : World) : Calls Try.prog 64 #[] w fun e w' => e = .returned (.bool true) ∧ Below w.heap.size w w' := by
  go_enter Try.func64, Try.ntmps64
  go_wp2_with fail
  have hb0 := (Below.refl w.heap.size w).alloc (Nat.le_refl _) (.cells #[.slice none 0 0, .slice none 0 0] 82)
  refine (reg_any _ w.heap.size none none 0 0 [] [] 1 5 ⟨heap_alloc_new _ _, World.ownsRow_nil _ _ _ _, World.ownsRow_nil _ _ _ _⟩ (by decide) (by decide)).mono ?_
  rintro e w1 ⟨rfl, ⟨h, _⟩ | ⟨_, b1, c1, hS, hb1, hfr1⟩⟩
  · exact absurd h (by decide)
  rw [show fulB (([] : List En).length + ([] : List En).length) = false from rfl]
  have hs1 := hfr1.size
  simp at hs1 hb1
  have hB1 : Below w.heap.size w w1 := hb0.trans (hfr1.below (by simp) (fun k e => by omega))
  go_wp2_with fail
  refine (full_any' _ w.heap.size (some ⟨b1, 0, none⟩) none 1 c1 0 0 hS.blk (by decide) (by decide)).mono ?_
  rintro e w2 ⟨rfl, hb2⟩
  rw [show fulB (1 + 0) = false from rfl]
  have hS2 := hS.below hb2
  have hB2 : Below w.heap.size w w2 := hB1.trans (hb2.mono (by omega))
  have hs2 := hb2.size
  clear hS hfr1
  go_wp2_with fail
  refine (settle_any (mkSd noOb w.heap.size (.slice (some ⟨b1, 0, none⟩) 1 c1)) (fun _ => True) begA begS begS (fun _ x => x == 1) (fun s x => (x, ((), s.2))) (fun _ x => x) (lks_begun _ _) [(1, 5)] (some ⟨b1, 0, none⟩) c1 rfl (by decide) (fun _ _ => ⟨trivial, trivial⟩) (fun k => k = w.heap.size) ((), []) w2 (fun _ _ => ⟨trivial, trivial⟩) (show 0 + 1 ≤ 90000 by decide)
    ⟨fun _ => False, none, 0, fun _ h => h, hS2.blk, World.ownsRow_nil _ _ _ _, fun _ h => h.elim, rfl, fun h => h, fun k e => by simp [Value.ownBlock] at e, fun k h => by omega⟩ (row_pairs hS2.r0)).mono ?_
  rw [begun_R, begun_Q]
  rintro e w3 ⟨a1, d1, a2, d2, F1, wm, rfl, _, _, _, hp3, hR3, hQ3, hfr3, _⟩
  have hS3 : Sds w3 w.heap.size a1 d1 a2 d2 [] [(1, 5)] := ⟨hp3, row_base hR3 (fun _ _ => Nat.zero_le _), row_base hQ3 (fun _ _ => Nat.zero_le _)⟩
  have hB3 : Below w.heap.size w w3 := hB2.trans (hfr3.below hB2.size (fun k e => by omega))
  clear hp3 hR3 hQ3 hfr3 hS2
  go_wp2_with fail
  refine (pop_any _ w.heap.size a1 a2 d1 d2 [] [(1, 5)] 1 hS3 (by decide)).mono ?_
  rintro e w4 (⟨rfl, hn, _⟩ | ⟨i, e1, f1, rfl, hi, _, _, hS4, _, hfr4⟩)
  · exact absurd rfl (hn (1, 5) (by simp))
  obtain rfl : i = 0 := by simp at hi; omega
  have hB4 : Below w.heap.size w w4 := hB3.trans (hfr4.below hB3.size (fun k e => by omega))
  clear hfr4 hS3
  go_wp2_with fail
  refine (pop_any _ w.heap.size a1 e1 d1 f1 [] [] 1 hS4 (by decide)).mono ?_
  rintro e w5 (⟨rfl, hn, hb5⟩ | ⟨i, _, _, rfl, hi, _⟩)
  · have hS5 := hS4.below hb5
    have hB5 : Below w.heap.size w w5 := hB4.trans (hb5.mono hB4.size)
    have c0 := hS5.cells.1
    clear hS4 hb5 hS5 hn
    go_wp2_with fail
    go_ret
    exact ⟨rfl, hB5⟩
  · exact absurd hi (by simp)

end Go.Proofs.Ythlfgddhkffilaa
