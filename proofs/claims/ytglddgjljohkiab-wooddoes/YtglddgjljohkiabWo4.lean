/- A wood: Set: a contract. -/
import Derived.Test.YtglddgjljohkiabWo3
import Derived.Test.YtglddgjljohkiabCd1
namespace Go.Proofs.Ytglddgjljohkiab
open Go.RowKit W

/-- A wood's own block, its arena, its cards. -/
structure Wod (w : World) (pw p q pc pq N O y g : Nat) (ws : List Int) (c : Int) (M : List Int) (vs vr : Value) : Prop where
  blk : w.heap[pw]? = some (.cells #[.pointer (some ⟨p, 0, none⟩), .pointer (some ⟨pc, 0, none⟩), vs, vr] 58 (0, 0))
  ar : At w p q N O y g ws
  cd : Cd w pc pq N c M

section
variable {w w' : World} {pw p q pc pq N O y g : Nat} {ws : List Int} {c : Int} {M : List Int} {vs vr : Value}

theorem Wod.cells (h : Wod w pw p q pc pq N O y g ws c M vs vr) : w.cell? ⟨pw, 0, none⟩ = some (.pointer (some ⟨p, 0, none⟩)) ∧ w.cell? ⟨pw, 1, none⟩ = some (.pointer (some ⟨pc, 0, none⟩)) ∧ w.cell? ⟨pw, 2, none⟩ = some vs ∧ w.cell? ⟨pw, 3, none⟩ = some vr ∧ pw < w.heap.size :=
  ⟨by simp [World.cell?, h.blk], by simp [World.cell?, h.blk], by simp [World.cell?, h.blk], by simp [World.cell?, h.blk], lt_of_some h.blk⟩
/-- Its blocks are apart. -/
theorem Wod.apart (h : Wod w pw p q pc pq N O y g ws c M vs vr) : pw ≠ p ∧ pw ≠ q ∧ pw ≠ pc ∧ pw ≠ pq ∧ p ≠ pc ∧ p ≠ pq ∧ q ≠ pc ∧ q ≠ pq := by
  obtain ⟨D, ⟨es, clock, hb, _⟩, _⟩ := h.cd.hq
  have h1 := h.blk
  have h2 := h.ar.hp
  have h3 := h.ar.hq
  have h4 := h.cd.hp
  refine ⟨fun e => ?_, fun e => ?_, fun e => ?_, fun e => ?_, fun e => ?_, fun e => ?_, fun e => ?_, fun e => ?_⟩
  · rw [e, h2] at h1; simp at h1
  · rw [e, h3] at h1; simp at h1
  · rw [e, h4] at h1; simp at h1
  · rw [e, hb] at h1; simp at h1
  · rw [e, h4] at h2; simp at h2
  · rw [e, hb] at h2; simp at h2
  · rw [e, h4] at h3; simp at h3
  · rw [e, hb] at h3; simp at h3
theorem Wod.below (h : Wod w pw p q pc pq N O y g ws c M vs vr) (hb : Below w.heap.size w w') : Wod w' pw p q pc pq N O y g ws c M vs vr :=
  ⟨(hb.block pw (lt_of_some h.blk)).trans h.blk, h.ar.below hb (Nat.le_refl _), h.cd.below hb (Nat.le_refl _)⟩
/-- The arena alone turns. -/
theorem Wod.arena (h : Wod w pw p q pc pq N O y g ws c M vs vr) {y' g' : Nat} {ws' : List Int} (ha : At w' p q N O y' g' ws') (s : Sv p q w w') : Wod w' pw p q pc pq N O y' g' ws' c M vs vr := by
  obtain ⟨a1, a2, a3, a4, a5, a6, a7, a8⟩ := h.apart
  exact ⟨(s.block pw (lt_of_some h.blk) a1 a2).trans h.blk, ha, h.cd.same (s.block pc h.cd.ltp (Ne.symm a5) (Ne.symm a7)) (s.block pq h.cd.ltq (Ne.symm a6) (Ne.symm a8))⟩
/-- The cards alone turn. -/
theorem Wod.cards (h : Wod w pw p q pc pq N O y g ws c M vs vr) {M' : List Int} (hc : Cd w' pc pq N c M') (s : Sv pc pq w w') : Wod w' pw p q pc pq N O y g ws c M' vs vr := by
  obtain ⟨a1, a2, a3, a4, a5, a6, a7, a8⟩ := h.apart
  exact ⟨(s.block pw (lt_of_some h.blk) a3 a4).trans h.blk, h.ar.same (s.block p h.ar.ltp a5 a6) (s.block q h.ar.ltq a7 a8), hc⟩

/-- What Set makes of the words. -/
def stW (N y g : Nat) (ws : List Int) (x i z : Int) : List Int := if fcC N y g ws x i = 0 then (if iB N y g (aV x + 1 + i) = true then ws.set (aV x + 1 + i).toNat z else ws) else ws
/-- Does Set mark a card? -/
def stB (N y g : Nat) (ws : List Int) (x i z : Int) : Bool := decide (fcC N y g ws x i = 0) && (aB z && hB 0 y (aV z) && hB N g (aV x))
/-- What Set makes of the marks. -/
def stM (N y g : Nat) (ws : List Int) (x i z c : Int) (M : List Int) : List Int := if stB N y g ws x i z = true then mkM N c (aV x) M else M

set_option maxRecDepth 100000 in
set_option maxHeartbeats 1000000 in
theorem set_any (x i z : Int) (h : Wod w pw p q pc pq N O y g ws c M vs vr) (hM : M.length ≤ 100000) :
    Calls Try.prog 27 #[.pointer (some ⟨pw, 0, none⟩), .int .i64 x, .int .i64 i, .int .i64 z] w fun e w' => e = .returned (.int .i64 (fcC N y g ws x i)) ∧ Wod w' pw p q pc pq N O y g (stW N y g ws x i z) c (stM N y g ws x i z c M) vs vr ∧ Fr (fun k => k = p ∨ k = q ∨ k = pc ∨ k = pq) w w' := by
  have H : Hid (Wod w pw p q pc pq N O y g ws c M vs vr) := h
  obtain ⟨c0, c1, _, _, lpw⟩ := h.cells
  have P := fieldAt_any x i w c0 h.ar
  have k1 := h.ar.hN'
  have k2 := h.ar.hy
  have k3 := h.ar.hO
  have k4 := h.ar.hg
  have frA : ∀ {a b : World}, Sv p q a b → Fr (fun k => k = p ∨ k = q ∨ k = pc ∨ k = pq) a b := fun s => ⟨s.os, s.tape, s.output, s.size, fun k hk hn => s.block k hk (fun e => hn (Or.inl e)) (fun e => hn (Or.inr (Or.inl e)))⟩
  have frC : ∀ {a b : World}, Sv pc pq a b → Fr (fun k => k = p ∨ k = q ∨ k = pc ∨ k = pq) a b := fun s => ⟨s.os, s.tape, s.output, s.size, fun k hk hn => s.block k hk (fun e => hn (Or.inr (Or.inr (Or.inl e)))) (fun e => hn (Or.inr (Or.inr (Or.inr e))))⟩
  clear h
  by_cases h0 : fcC N y g ws x i = 0
  · have ht : tB N y g ws x = true := by
      cases e : tB N y g ws x
      · unfold fcC at h0
        rw [e, if_neg (by simp)] at h0
        omega
      · rfl
    obtain ⟨b0, b1⟩ := tB_bd (O := O) ht k1 k2 k3 k4
    have eW : stW N y g ws x i z = if iB N y g (aV x + 1 + i) = true then ws.set (aV x + 1 + i).toNat z else ws := by unfold stW; rw [if_pos h0]
    have eM : stM N y g ws x i z c M = if (aB z && hB 0 y (aV z) && hB N g (aV x)) = true then mkM N c (aV x) M else M := by unfold stM stB; rw [decide_eq_true h0, Bool.true_and]
    rw [h0, if_pos rfl, if_pos rfl] at P
    rw [h0, eW, eM]
    clear eW eM h0 ht
    generalize aV x + 1 + i = fl at P ⊢
    generalize aV x = v at P b0 b1 ⊢
    have KS : Hid (∀ w1, Below w.heap.size w w1 → Calls Try.prog 71 #[.pointer (some ⟨p, 0, none⟩), .int .i64 fl, .int .i64 z] w1 fun e w' => e = .returned (.bool (iB N y g fl)) ∧ Hid (Wod w' pw p q pc pq N O y g (if iB N y g fl = true then ws.set fl.toNat z else ws) c M vs vr) ∧ Hid (Fr (fun k => k = p ∨ k = q ∨ k = pc ∨ k = pq) w w')) := fun w1 hb => by
      have hW := H.out.below hb
      refine (store_any fl z w1 hW.ar).mono ?_
      rintro e w2 ⟨rfl, ha2, s2⟩
      exact ⟨rfl, hW.arena ha2 s2, (Fr.of (X := fun k => k = p ∨ k = q ∨ k = pc ∨ k = pq) hb).trans (frA s2) (fun _ c => Or.inl c)⟩
    have KA : Hid (∀ w2, Calls Try.prog 22 #[.int .i64 z] w2 fun e w' => e = .returned (.tuple #[.int .i64 (aV z), .bool (aB z)]) ∧ Below w2.heap.size w2 w') := fun w2 => at_any z w2
    generalize (if iB N y g fl = true then ws.set fl.toNat z else ws) = ws2 at KS ⊢
    generalize iB N y g fl = ib at KS
    obtain ⟨b1', hb1'⟩ : ∃ b, aB z = b := ⟨_, rfl⟩
    rw [hb1'] at KA ⊢
    clear hb1'
    generalize aV z = u at KA ⊢
    cases hb2 : hB 0 y u
    · rw [Bool.and_false, Bool.false_and, if_neg (by simp)]
      cases b1'
      · go_enter Try.func27, Try.ntmps27
        go_wp2_with fail
        refine P.mono ?_
        clear P
        rintro e w1 ⟨rfl, hb1⟩
        have y1 := (hb1.cell (p := ⟨pw, 0, none⟩) lpw).trans c0
        go_wp2_with fail
        refine (KS.out w1 hb1).mono ?_
        rintro e w2 ⟨rfl, W2, F2⟩
        clear y1
        go_wp2_with fail
        refine (KA.out w2).mono ?_
        rintro e w3 ⟨rfl, hb3⟩
        have W3 := W2.out.below hb3
        have F3 := F2.out.trans (Fr.of (X := fun k => k = p ∨ k = q ∨ k = pc ∨ k = pq) hb3) (fun _ c => Or.inl c)
        obtain ⟨y0, y1, _, _, l3⟩ := W3.cells
        clear y0 y1
        go_wp2_with fail
        go_ret
        exact ⟨rfl, W3, F3⟩
      · go_enter Try.func27, Try.ntmps27
        go_wp2_with fail
        refine P.mono ?_
        clear P
        rintro e w1 ⟨rfl, hb1⟩
        have y1 := (hb1.cell (p := ⟨pw, 0, none⟩) lpw).trans c0
        go_wp2_with fail
        refine (KS.out w1 hb1).mono ?_
        rintro e w2 ⟨rfl, W2, F2⟩
        clear y1
        go_wp2_with fail
        refine (KA.out w2).mono ?_
        rintro e w3 ⟨rfl, hb3⟩
        have W3 := W2.out.below hb3
        have F3 := F2.out.trans (Fr.of (X := fun k => k = p ∨ k = q ∨ k = pc ∨ k = pq) hb3) (fun _ c => Or.inl c)
        obtain ⟨y0, y1, _, _, l3⟩ := W3.cells
        have KY := young_any u w3 W3.ar
        rw [hb2] at KY
        go_wp2_with fail
        refine KY.mono ?_
        clear KY
        rintro e w4 ⟨rfl, hb4⟩
        have W4 := W3.below hb4
        have F4 := F3.trans (Fr.of (X := fun k => k = p ∨ k = q ∨ k = pc ∨ k = pq) hb4) (fun _ c => Or.inl c)
        obtain ⟨z0, z1, _, _, l4⟩ := W4.cells
        clear y0 y1
        clear z0 z1
        go_wp2_with fail
        go_ret
        exact ⟨rfl, W4, F4⟩
    · rw [Bool.and_true]
      cases hb3' : hB N g v
      · rw [Bool.and_false, if_neg (by simp)]
        cases b1'
        · go_enter Try.func27, Try.ntmps27
          go_wp2_with fail
          refine P.mono ?_
          clear P
          rintro e w1 ⟨rfl, hb1⟩
          have y1 := (hb1.cell (p := ⟨pw, 0, none⟩) lpw).trans c0
          go_wp2_with fail
          refine (KS.out w1 hb1).mono ?_
          rintro e w2 ⟨rfl, W2, F2⟩
          clear y1
          go_wp2_with fail
          refine (KA.out w2).mono ?_
          rintro e w3 ⟨rfl, hb3⟩
          have W3 := W2.out.below hb3
          have F3 := F2.out.trans (Fr.of (X := fun k => k = p ∨ k = q ∨ k = pc ∨ k = pq) hb3) (fun _ c => Or.inl c)
          obtain ⟨y0, y1, _, _, l3⟩ := W3.cells
          clear y0 y1
          go_wp2_with fail
          go_ret
          exact ⟨rfl, W3, F3⟩
        · go_enter Try.func27, Try.ntmps27
          go_wp2_with fail
          refine P.mono ?_
          clear P
          rintro e w1 ⟨rfl, hb1⟩
          have y1 := (hb1.cell (p := ⟨pw, 0, none⟩) lpw).trans c0
          go_wp2_with fail
          refine (KS.out w1 hb1).mono ?_
          rintro e w2 ⟨rfl, W2, F2⟩
          clear y1
          go_wp2_with fail
          refine (KA.out w2).mono ?_
          rintro e w3 ⟨rfl, hb3⟩
          have W3 := W2.out.below hb3
          have F3 := F2.out.trans (Fr.of (X := fun k => k = p ∨ k = q ∨ k = pc ∨ k = pq) hb3) (fun _ c => Or.inl c)
          obtain ⟨y0, y1, _, _, l3⟩ := W3.cells
          have KY := young_any u w3 W3.ar
          rw [hb2] at KY
          go_wp2_with fail
          refine KY.mono ?_
          clear KY
          rintro e w4 ⟨rfl, hb4⟩
          have W4 := W3.below hb4
          have F4 := F3.trans (Fr.of (X := fun k => k = p ∨ k = q ∨ k = pc ∨ k = pq) hb4) (fun _ c => Or.inl c)
          obtain ⟨z0, z1, _, _, l4⟩ := W4.cells
          clear y0 y1
          have KO := old_any v w4 W4.ar
          rw [hb3'] at KO
          go_wp2_with fail
          refine KO.mono ?_
          clear KO
          rintro e w5 ⟨rfl, hb5⟩
          have W5 := W4.below hb5
          have F5 := F4.trans (Fr.of (X := fun k => k = p ∨ k = q ∨ k = pc ∨ k = pq) hb5) (fun _ c => Or.inl c)
          obtain ⟨x0, x1, _, _, l5⟩ := W5.cells
          clear z0 z1
          clear x0 x1
          go_wp2_with fail
          go_ret
          exact ⟨rfl, W5, F5⟩
      · rw [Bool.and_true]
        cases b1'
        · rw [if_neg (by simp)]
          go_enter Try.func27, Try.ntmps27
          go_wp2_with fail
          refine P.mono ?_
          clear P
          rintro e w1 ⟨rfl, hb1⟩
          have y1 := (hb1.cell (p := ⟨pw, 0, none⟩) lpw).trans c0
          go_wp2_with fail
          refine (KS.out w1 hb1).mono ?_
          rintro e w2 ⟨rfl, W2, F2⟩
          clear y1
          go_wp2_with fail
          refine (KA.out w2).mono ?_
          rintro e w3 ⟨rfl, hb3⟩
          have W3 := W2.out.below hb3
          have F3 := F2.out.trans (Fr.of (X := fun k => k = p ∨ k = q ∨ k = pc ∨ k = pq) hb3) (fun _ c => Or.inl c)
          obtain ⟨y0, y1, _, _, l3⟩ := W3.cells
          clear y0 y1
          go_wp2_with fail
          go_ret
          exact ⟨rfl, W3, F3⟩
        · rw [if_pos rfl]
          go_enter Try.func27, Try.ntmps27
          go_wp2_with fail
          refine P.mono ?_
          clear P
          rintro e w1 ⟨rfl, hb1⟩
          have y1 := (hb1.cell (p := ⟨pw, 0, none⟩) lpw).trans c0
          go_wp2_with fail
          refine (KS.out w1 hb1).mono ?_
          rintro e w2 ⟨rfl, W2, F2⟩
          clear y1
          go_wp2_with fail
          refine (KA.out w2).mono ?_
          rintro e w3 ⟨rfl, hb3⟩
          have W3 := W2.out.below hb3
          have F3 := F2.out.trans (Fr.of (X := fun k => k = p ∨ k = q ∨ k = pc ∨ k = pq) hb3) (fun _ c => Or.inl c)
          obtain ⟨y0, y1, _, _, l3⟩ := W3.cells
          have KY := young_any u w3 W3.ar
          rw [hb2] at KY
          go_wp2_with fail
          refine KY.mono ?_
          clear KY
          rintro e w4 ⟨rfl, hb4⟩
          have W4 := W3.below hb4
          have F4 := F3.trans (Fr.of (X := fun k => k = p ∨ k = q ∨ k = pc ∨ k = pq) hb4) (fun _ c => Or.inl c)
          obtain ⟨z0, z1, _, _, l4⟩ := W4.cells
          clear y0 y1
          have KO := old_any v w4 W4.ar
          rw [hb3'] at KO
          go_wp2_with fail
          refine KO.mono ?_
          clear KO
          rintro e w5 ⟨rfl, hb5⟩
          have W5 := W4.below hb5
          have F5 := F4.trans (Fr.of (X := fun k => k = p ∨ k = q ∨ k = pc ∨ k = pq) hb5) (fun _ c => Or.inl c)
          obtain ⟨x0, x1, _, _, l5⟩ := W5.cells
          clear z0 z1
          go_wp2_with fail
          refine (mark_any v w5 W5.cd (by omega) (by omega) (by omega) hM).mono ?_
          rintro e w6 ⟨rfl, hc6, s6⟩
          have W6 := W5.cards hc6 s6
          have F6 := F5.trans (frC s6) (fun _ c => Or.inl c)
          clear x0 x1
          go_wp2_with fail
          go_ret
          exact ⟨rfl, W6, F6⟩
  · have eW : stW N y g ws x i z = ws := by unfold stW; rw [if_neg h0]
    have eM : stM N y g ws x i z c M = M := by unfold stM stB; rw [decide_eq_false h0]; rfl
    rw [if_neg h0, if_neg h0] at P
    rw [eW, eM]
    generalize fcC N y g ws x i = cd at P h0 ⊢
    go_enter Try.func27, Try.ntmps27
    go_wp2_with fail
    refine P.mono ?_
    clear P
    rintro e w1 ⟨rfl, hb1⟩
    have hW := H.out.below hb1
    clear c0 c1
    go_wp2_with fail
    go_ret
    exact ⟨rfl, hW, Fr.of hb1⟩
end

end Go.Proofs.Ytglddgjljohkiab
