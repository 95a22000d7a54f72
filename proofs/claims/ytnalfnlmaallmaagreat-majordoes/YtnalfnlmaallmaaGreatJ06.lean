/- Joined: Wo4, Opens, Apart2, Wl2, Sd2, Sd3. -/
import Derived.Test.YtnalfnlmaallmaaGreatJ05
import Derived.Test.YtnalfnlmaallmaaGreatJ03
import Derived.Deep.Slices
import Derived.Lib.SmallJoins
import Derived.Test.YtnalfnlmaallmaaGreatJ04
import Derived.Deep.AppendLies
namespace Go.Proofs.YtnalfnlmaallmaaGreat
set_option maxRecDepth 100000
set_option maxHeartbeats 1000000
open Go.RowKit W
structure Wod (w : World) (pw p q pc pq N O y g : Nat) (ws : List Int) (c : Int) (M : List Int) (vs vr : Value) : Prop where
  blk : w.heap[pw]? = some (.cells #[.pointer (some ⟨p, 0, none⟩), .pointer (some ⟨pc, 0, none⟩), vs, vr] 44 (0, 0))
  ar : At w p q N O y g ws
  cd : Cd w pc pq N c M
section
variable {w w' : World} {pw p q pc pq N O y g : Nat} {ws : List Int} {c : Int} {M : List Int} {vs vr : Value}
theorem Wod.cells (h : Wod w pw p q pc pq N O y g ws c M vs vr) : w.cell? ⟨pw, 0, none⟩ = some (.pointer (some ⟨p, 0, none⟩)) /\ w.cell? ⟨pw, 1, none⟩ = some (.pointer (some ⟨pc, 0, none⟩)) /\ w.cell? ⟨pw, 2, none⟩ = some vs /\ w.cell? ⟨pw, 3, none⟩ = some vr /\ pw < w.heap.size :=
 ⟨by simp [World.cell?, h.blk], by simp [World.cell?, h.blk], by simp [World.cell?, h.blk], by simp [World.cell?, h.blk], lt_of_some h.blk⟩
theorem Wod.apart (h : Wod w pw p q pc pq N O y g ws c M vs vr) : pw ≠ p /\ pw ≠ q /\ pw ≠ pc /\ pw ≠ pq /\ p ≠ pc /\ p ≠ pq /\ q ≠ pc /\ q ≠ pq := by
 obtain ⟨D, ⟨es, clock, hb, _⟩, _⟩ := h.cd.hq
 have h1 := h.blk
 have h2 := h.ar.hp
 have h3 := h.ar.hq
 have h4 := h.cd.hp
 refine ⟨fun e => ?_, fun e => ?_, fun e => ?_, fun e => ?_, fun e => ?_, fun e => ?_, fun e => ?_, fun e => ?_⟩
 ·rw [e, h2] at h1; simp at h1
 ·rw [e, h3] at h1; simp at h1
 ·rw [e, h4] at h1; simp at h1
 ·rw [e, hb] at h1; simp at h1
 ·rw [e, h4] at h2; simp at h2
 ·rw [e, hb] at h2; simp at h2
 ·rw [e, h4] at h3; simp at h3
 ·rw [e, hb] at h3; simp at h3
theorem Wod.below (h : Wod w pw p q pc pq N O y g ws c M vs vr) (hb : Below w.heap.size w w') : Wod w' pw p q pc pq N O y g ws c M vs vr :=
 ⟨(hb.block pw (lt_of_some h.blk)).trans h.blk, h.ar.below hb (Nat.le_refl _), h.cd.below hb (Nat.le_refl _)⟩
theorem Wod.arena (h : Wod w pw p q pc pq N O y g ws c M vs vr) {y' g' : Nat} {ws' : List Int} (ha : At w' p q N O y' g' ws') (s : Sv p q w w') : Wod w' pw p q pc pq N O y' g' ws' c M vs vr := by
 obtain ⟨a1, a2, a3, a4, a5, a6, a7, a8⟩ := h.apart
 exact ⟨(s.block pw (lt_of_some h.blk) a1 a2).trans h.blk, ha, h.cd.same (s.block pc h.cd.ltp (Ne.symm a5) (Ne.symm a7)) (s.block pq h.cd.ltq (Ne.symm a6) (Ne.symm a8))⟩
theorem Wod.cards (h : Wod w pw p q pc pq N O y g ws c M vs vr) {M' : List Int} (hc : Cd w' pc pq N c M') (s : Sv pc pq w w') : Wod w' pw p q pc pq N O y g ws c M' vs vr := by
 obtain ⟨a1, a2, a3, a4, a5, a6, a7, a8⟩ := h.apart
 exact ⟨(s.block pw (lt_of_some h.blk) a3 a4).trans h.blk, h.ar.same (s.block p h.ar.ltp a5 a6) (s.block q h.ar.ltq a7 a8), hc⟩
def stW (N y g : Nat) (ws : List Int) (x i z : Int) : List Int := if fcC N y g ws x i = 0 then (if iB N y g (aV x + 1 + i) = true then ws.set (aV x + 1 + i).toNat z else ws) else ws
def stB (N y g : Nat) (ws : List Int) (x i z : Int) : Bool := decide (fcC N y g ws x i = 0) && (aB z && hB 0 y (aV z) && hB N g (aV x))
def stM (N y g : Nat) (ws : List Int) (x i z c : Int) (M : List Int) : List Int := if stB N y g ws x i z = true then mkM N c (aV x) M else M
theorem set_any (x i z : Int) (h : Wod w pw p q pc pq N O y g ws c M vs vr) (hM : M.length <= 100000) :
  Calls Tryz.prog 53 #[.pointer (some ⟨pw, 0, none⟩), .int .i64 x, .int .i64 i, .int .i64 z] w fun e w' => e = .returned (.int .i64 (fcC N y g ws x i)) /\ Wod w' pw p q pc pq N O y g (stW N y g ws x i z) c (stM N y g ws x i z c M) vs vr /\ Fr (fun k => k = p \/ k = q \/ k = pc \/ k = pq) w w' := by
 have H : Hid (Wod w pw p q pc pq N O y g ws c M vs vr) := h
 obtain ⟨c0, c1, _, _, lpw⟩ := h.cells
 have P := fieldAt_any x i w c0 h.ar
 have k1 := h.ar.hN'
 have k2 := h.ar.hy
 have k3 := h.ar.hO
 have k4 := h.ar.hg
 have frA : ∀ {a b : World}, Sv p q a b -> Fr (fun k => k = p \/ k = q \/ k = pc \/ k = pq) a b := fun s => ⟨s.os, s.tape, s.output, s.size, fun k hk hn => s.block k hk (fun e => hn (Or.inl e)) (fun e => hn (Or.inr (Or.inl e)))⟩
 have frC : ∀ {a b : World}, Sv pc pq a b -> Fr (fun k => k = p \/ k = q \/ k = pc \/ k = pq) a b := fun s => ⟨s.os, s.tape, s.output, s.size, fun k hk hn => s.block k hk (fun e => hn (Or.inr (Or.inr (Or.inl e)))) (fun e => hn (Or.inr (Or.inr (Or.inr e))))⟩
 clear h
 by_cases h0 : fcC N y g ws x i = 0
 ·have ht : tB N y g ws x = true := by
   cases e : tB N y g ws x
   ·unfold fcC at h0
    rw [e, if_neg (by simp)] at h0
    omega
   ·rfl
  obtain ⟨b0, b1⟩ := tB_bd (O := O) ht k1 k2 k3 k4
  have eW : stW N y g ws x i z = if iB N y g (aV x + 1 + i) = true then ws.set (aV x + 1 + i).toNat z else ws := by unfold stW; rw [if_pos h0]
  have eM : stM N y g ws x i z c M = if (aB z && hB 0 y (aV z) && hB N g (aV x)) = true then mkM N c (aV x) M else M := by unfold stM stB; rw [decide_eq_true h0, Bool.true_and]
  rw [h0, if_pos rfl, if_pos rfl] at P
  rw [h0, eW, eM]
  clear eW eM h0 ht
  generalize aV x + 1 + i = fl at P ⊢
  generalize aV x = v at P b0 b1 ⊢
  have KS : Hid (∀ w1, Below w.heap.size w w1 -> Calls Tryz.prog 111 #[.pointer (some ⟨p, 0, none⟩), .int .i64 fl, .int .i64 z] w1 fun e w' => e = .returned (.bool (iB N y g fl)) /\ Hid (Wod w' pw p q pc pq N O y g (if iB N y g fl = true then ws.set fl.toNat z else ws) c M vs vr) /\ Hid (Fr (fun k => k = p \/ k = q \/ k = pc \/ k = pq) w w')) := fun w1 hb => by
   have hW := H.out.below hb
   refine (store_any fl z w1 hW.ar).mono ?_
   rintro e w2 ⟨rfl, ha2, s2⟩
   exact ⟨rfl, hW.arena ha2 s2, (Fr.of (X := fun k => k = p \/ k = q \/ k = pc \/ k = pq) hb).trans (frA s2) (fun _ c => Or.inl c)⟩
  have KA : Hid (∀ w2, Calls Tryz.prog 112 #[.int .i64 z] w2 fun e w' => e = .returned (.tuple #[.int .i64 (aV z), .bool (aB z)]) /\ Below w2.heap.size w2 w') := fun w2 => at_any z w2
  generalize (if iB N y g fl = true then ws.set fl.toNat z else ws) = ws2 at KS ⊢
  generalize iB N y g fl = ib at KS
  obtain ⟨b1', hb1'⟩ : ∃ b, aB z = b := ⟨_, rfl⟩
  rw [hb1'] at KA ⊢
  clear hb1'
  generalize aV z = u at KA ⊢
  cases hb2 : hB 0 y u
  ·rw [Bool.and_false, Bool.false_and, if_neg (by simp)]
   cases b1'
   ·go_enter Tryz.func53, Tryz.ntmps53
    go_wp2_with fail
    refine P.mono ?_
    clear P
    rintro e w1 ⟨rfl, hb1⟩
    have y1 := (hb1.cell (p := ⟨pw, 0, none⟩) lpw).trans c0
    go_wp2_with fail
    refine (KS.out w1 hb1).mono ?_
    rintro e w2 ⟨rfl, W2, F2⟩
    clear y1
    go_wp2_with fail
    refine (KA.out w2).mono ?_
    rintro e w3 ⟨rfl, hb3⟩
    have W3 := W2.out.below hb3
    have F3 := F2.out.trans (Fr.of (X := fun k => k = p \/ k = q \/ k = pc \/ k = pq) hb3) (fun _ c => Or.inl c)
    obtain ⟨y0, y1, _, _, l3⟩ := W3.cells
    clear y0 y1
    go_wp2_with fail
    go_ret
    exact ⟨rfl, W3, F3⟩
   ·go_enter Tryz.func53, Tryz.ntmps53
    go_wp2_with fail
    refine P.mono ?_
    clear P
    rintro e w1 ⟨rfl, hb1⟩
    have y1 := (hb1.cell (p := ⟨pw, 0, none⟩) lpw).trans c0
    go_wp2_with fail
    refine (KS.out w1 hb1).mono ?_
    rintro e w2 ⟨rfl, W2, F2⟩
    clear y1
    go_wp2_with fail
    refine (KA.out w2).mono ?_
    rintro e w3 ⟨rfl, hb3⟩
    have W3 := W2.out.below hb3
    have F3 := F2.out.trans (Fr.of (X := fun k => k = p \/ k = q \/ k = pc \/ k = pq) hb3) (fun _ c => Or.inl c)
    obtain ⟨y0, y1, _, _, l3⟩ := W3.cells
    have KY := young_any u w3 W3.ar
    rw [hb2] at KY
    go_wp2_with fail
    refine KY.mono ?_
    clear KY
    rintro e w4 ⟨rfl, hb4⟩
    have W4 := W3.below hb4
    have F4 := F3.trans (Fr.of (X := fun k => k = p \/ k = q \/ k = pc \/ k = pq) hb4) (fun _ c => Or.inl c)
    obtain ⟨z0, z1, _, _, l4⟩ := W4.cells
    clear y0 y1
    clear z0 z1
    go_wp2_with fail
    go_ret
    exact ⟨rfl, W4, F4⟩
  ·rw [Bool.and_true]
   cases hb3' : hB N g v
   ·rw [Bool.and_false, if_neg (by simp)]
    cases b1'
    ·go_enter Tryz.func53, Tryz.ntmps53
     go_wp2_with fail
     refine P.mono ?_
     clear P
     rintro e w1 ⟨rfl, hb1⟩
     have y1 := (hb1.cell (p := ⟨pw, 0, none⟩) lpw).trans c0
     go_wp2_with fail
     refine (KS.out w1 hb1).mono ?_
     rintro e w2 ⟨rfl, W2, F2⟩
     clear y1
     go_wp2_with fail
     refine (KA.out w2).mono ?_
     rintro e w3 ⟨rfl, hb3⟩
     have W3 := W2.out.below hb3
     have F3 := F2.out.trans (Fr.of (X := fun k => k = p \/ k = q \/ k = pc \/ k = pq) hb3) (fun _ c => Or.inl c)
     obtain ⟨y0, y1, _, _, l3⟩ := W3.cells
     clear y0 y1
     go_wp2_with fail
     go_ret
     exact ⟨rfl, W3, F3⟩
    ·go_enter Tryz.func53, Tryz.ntmps53
     go_wp2_with fail
     refine P.mono ?_
     clear P
     rintro e w1 ⟨rfl, hb1⟩
     have y1 := (hb1.cell (p := ⟨pw, 0, none⟩) lpw).trans c0
     go_wp2_with fail
     refine (KS.out w1 hb1).mono ?_
     rintro e w2 ⟨rfl, W2, F2⟩
     clear y1
     go_wp2_with fail
     refine (KA.out w2).mono ?_
     rintro e w3 ⟨rfl, hb3⟩
     have W3 := W2.out.below hb3
     have F3 := F2.out.trans (Fr.of (X := fun k => k = p \/ k = q \/ k = pc \/ k = pq) hb3) (fun _ c => Or.inl c)
     obtain ⟨y0, y1, _, _, l3⟩ := W3.cells
     have KY := young_any u w3 W3.ar
     rw [hb2] at KY
     go_wp2_with fail
     refine KY.mono ?_
     clear KY
     rintro e w4 ⟨rfl, hb4⟩
     have W4 := W3.below hb4
     have F4 := F3.trans (Fr.of (X := fun k => k = p \/ k = q \/ k = pc \/ k = pq) hb4) (fun _ c => Or.inl c)
     obtain ⟨z0, z1, _, _, l4⟩ := W4.cells
     clear y0 y1
     have KO := old_any v w4 W4.ar
     rw [hb3'] at KO
     go_wp2_with fail
     refine KO.mono ?_
     clear KO
     rintro e w5 ⟨rfl, hb5⟩
     have W5 := W4.below hb5
     have F5 := F4.trans (Fr.of (X := fun k => k = p \/ k = q \/ k = pc \/ k = pq) hb5) (fun _ c => Or.inl c)
     obtain ⟨x0, x1, _, _, l5⟩ := W5.cells
     clear z0 z1
     clear x0 x1
     go_wp2_with fail
     go_ret
     exact ⟨rfl, W5, F5⟩
   ·rw [Bool.and_true]
    cases b1'
    ·rw [if_neg (by simp)]
     go_enter Tryz.func53, Tryz.ntmps53
     go_wp2_with fail
     refine P.mono ?_
     clear P
     rintro e w1 ⟨rfl, hb1⟩
     have y1 := (hb1.cell (p := ⟨pw, 0, none⟩) lpw).trans c0
     go_wp2_with fail
     refine (KS.out w1 hb1).mono ?_
     rintro e w2 ⟨rfl, W2, F2⟩
     clear y1
     go_wp2_with fail
     refine (KA.out w2).mono ?_
     rintro e w3 ⟨rfl, hb3⟩
     have W3 := W2.out.below hb3
     have F3 := F2.out.trans (Fr.of (X := fun k => k = p \/ k = q \/ k = pc \/ k = pq) hb3) (fun _ c => Or.inl c)
     obtain ⟨y0, y1, _, _, l3⟩ := W3.cells
     clear y0 y1
     go_wp2_with fail
     go_ret
     exact ⟨rfl, W3, F3⟩
    ·rw [if_pos rfl]
     go_enter Tryz.func53, Tryz.ntmps53
     go_wp2_with fail
     refine P.mono ?_
     clear P
     rintro e w1 ⟨rfl, hb1⟩
     have y1 := (hb1.cell (p := ⟨pw, 0, none⟩) lpw).trans c0
     go_wp2_with fail
     refine (KS.out w1 hb1).mono ?_
     rintro e w2 ⟨rfl, W2, F2⟩
     clear y1
     go_wp2_with fail
     refine (KA.out w2).mono ?_
     rintro e w3 ⟨rfl, hb3⟩
     have W3 := W2.out.below hb3
     have F3 := F2.out.trans (Fr.of (X := fun k => k = p \/ k = q \/ k = pc \/ k = pq) hb3) (fun _ c => Or.inl c)
     obtain ⟨y0, y1, _, _, l3⟩ := W3.cells
     have KY := young_any u w3 W3.ar
     rw [hb2] at KY
     go_wp2_with fail
     refine KY.mono ?_
     clear KY
     rintro e w4 ⟨rfl, hb4⟩
     have W4 := W3.below hb4
     have F4 := F3.trans (Fr.of (X := fun k => k = p \/ k = q \/ k = pc \/ k = pq) hb4) (fun _ c => Or.inl c)
     obtain ⟨z0, z1, _, _, l4⟩ := W4.cells
     clear y0 y1
     have KO := old_any v w4 W4.ar
     rw [hb3'] at KO
     go_wp2_with fail
     refine KO.mono ?_
     clear KO
     rintro e w5 ⟨rfl, hb5⟩
     have W5 := W4.below hb5
     have F5 := F4.trans (Fr.of (X := fun k => k = p \/ k = q \/ k = pc \/ k = pq) hb5) (fun _ c => Or.inl c)
     obtain ⟨x0, x1, _, _, l5⟩ := W5.cells
     clear z0 z1
     go_wp2_with fail
     refine (mark_any v w5 W5.cd (by omega) (by omega) (by omega) hM).mono ?_
     rintro e w6 ⟨rfl, hc6, s6⟩
     have W6 := W5.cards hc6 s6
     have F6 := F5.trans (frC s6) (fun _ c => Or.inl c)
     clear x0 x1
     go_wp2_with fail
     go_ret
     exact ⟨rfl, W6, F6⟩
 ·have eW : stW N y g ws x i z = ws := by unfold stW; rw [if_neg h0]
  have eM : stM N y g ws x i z c M = M := by unfold stM stB; rw [decide_eq_false h0]; rfl
  rw [if_neg h0, if_neg h0] at P
  rw [eW, eM]
  generalize fcC N y g ws x i = cd at P h0 ⊢
  go_enter Tryz.func53, Tryz.ntmps53
  go_wp2_with fail
  refine P.mono ?_
  clear P
  rintro e w1 ⟨rfl, hb1⟩
  have hW := H.out.below hb1
  clear c0 c1
  go_wp2_with fail
  go_ret
  exact ⟨rfl, hW, Fr.of hb1⟩
end
end Go.Proofs.YtnalfnlmaallmaaGreat

namespace Go.Proofs.YtnalfnlmaallmaaGreat
open Go.ChangeShapes Go.WideShapes Go.ChangeAt Go.RowKit Go.Joins Go.Deep W
end Go.Proofs.YtnalfnlmaallmaaGreat

namespace Go.Proofs.YtnalfnlmaallmaaGreat.Apart2
open Go.RowKit W
theorem splice_get (ws : List Int) (t f n i : Nat) (h1 : t + n <= ws.length) (h2 : f + n <= ws.length) :
  (splice ws t ((ws.drop f).take n)).getD i 0 = if t <= i /\ i < t + n then ws.getD (f + i - t) 0 else ws.getD i 0 := by
 have hl : ((ws.drop f).take n).length = n := by simp; omega
 unfold splice
 rw [hl]
 simp only [List.getD_eq_getElem?_getD]
 by_cases c : i < t
 ·rw [List.getElem?_append_left (by simp; omega), if_neg (by omega), List.getElem?_take_of_lt c]
 ·have e1 : (ws.take t).length = t := by simp; omega
  rw [List.getElem?_append_right (by omega), e1]
  by_cases c2 : i < t + n
  ·rw [if_pos (by omega), List.getElem?_append_left (by omega), List.getElem?_take_of_lt (by omega), List.getElem?_drop, show f + (i - t) = f + i - t by omega]
  ·rw [if_neg (by omega), List.getElem?_append_right (by omega), hl, List.getElem?_drop, show t + n + (i - t - n) = i by omega]
theorem copied {N O y g : Nat} {ws : List Int} {a : Nat} (hl : ws.length = N + O) (hy : y <= N) (hi : iB N y g a = true) (n : Nat) (h1 : 1 + (n : Int) <= endA N y g a - a) (h2 : 1 + (n : Int) <= (O : Int) - g) (j : Nat) (hj : j <= n) :
  ld N y (g + (1 + n)) (splice ws (N + g) ((ws.drop a).take (1 + n))) ((N : Int) + g + j) = ws.getD (a + j) 0 /\ ld N y (g + (1 + n)) (splice ws (N + g) ((ws.drop a).take (1 + n))) ((a : Int) + j) = ws.getD (a + j) 0 := by
 have he : endA N y g a <= (N : Int) + g := by unfold endA; split <;> omega
 constructor
 ·have hh : hB N ((g + (1 + n) : Nat) : Int) ((N : Int) + g + j) = true := by simp [hB]; omega
  have hi : iB N y (g + (1 + n)) ((N : Int) + g + j) = true := by unfold iB; rw [hh]; simp
  unfold ld
  rw [if_pos hi, show ((N : Int) + g + j).toNat = N + g + j by omega, splice_get _ _ _ _ _ (by omega) (by omega), if_pos (by omega), show a + (N + g + j) - (N + g) = a + j by omega]
 ·have hi2 : iB N y (g + (1 + n)) ((a : Int) + j) = true := by
   unfold endA at h1
   split at h1
   ·rename_i c
    have c := hB_yes c
    have hh : hB 0 y ((a : Int) + j) = true := by simp [hB]; omega
    unfold iB; rw [hh]; rfl
   ·rename_i c
    have c1 : hB N g a = true := by
     unfold iB at hi
     simp only [Bool.not_eq_true] at c
     rw [c] at hi
     simpa using hi
    have c2 := hB_yes c1
    have hh : hB N ((g + (1 + n) : Nat) : Int) ((a : Int) + j) = true := by simp [hB]; omega
    unfold iB; rw [hh]; simp
  unfold ld
  rw [if_pos hi2, show ((a : Int) + j).toNat = a + j by omega, splice_get _ _ _ _ _ (by omega) (by omega), if_neg (by omega)]
end Go.Proofs.YtnalfnlmaallmaaGreat.Apart2

namespace Go.Proofs.YtnalfnlmaallmaaGreat
open Go.RowKit W Apart2
theorem ld_in {N y g : Nat} {ws : List Int} {a : Int} (h : iB N y g a = true) : ld N y g ws a = ws.getD a.toNat 0 := by unfold ld; rw [if_pos h]
theorem iB_y {N y g : Nat} {a : Int} (h0 : 0 <= a) (h1 : a < y) : iB N y g a = true := by
 unfold iB hB
 rw [decide_eq_true (⟨h0, by omega⟩ : (0 : Int) <= a /\ a < 0 + (y : Int))]
 rfl
theorem iB_o {N y g : Nat} {a : Int} (h0 : (N : Int) <= a) (h1 : a < (N : Int) + g) : iB N y g a = true := by
 unfold iB hB
 rw [decide_eq_true (⟨h0, h1⟩ : (N : Int) <= a /\ a < (N : Int) + g), Bool.or_true]
section
variable {N O y g : Nat} {ws : List Int} {Y G : List Int}
theorem Full2.iy (h : Full2 N y g ws Y G) : ∀ x ∈ Y, 0 <= x /\ x < y := fun x hx => by
 have h1 := h.ty.mem x hx
 have h2 := pf_bd (ld N y g ws x)
 omega
theorem Full2.io (h : Full2 N y g ws Y G) : ∀ x ∈ G, (N : Int) <= x /\ x < (N : Int) + g := fun x hx => by
 have h1 := h.to.mem x hx
 have h2 := pf_bd (ld N y g ws x)
 omega
theorem Full2.make (h : Full2 N y g ws Y G) (hl : ws.length = N + O) {k f : Int} (hm : mkB N y k f = true) : Full2 N (mkY N y k f) g (mkW N y k f ws) (Y ++ [(y : Int)]) G := by
 obtain ⟨h1, h2⟩ := mkB_yes hm
 have hf := hc_bd k f h1
 have eY : mkY N y k f = y + 1 + f.toNat := by unfold mkY; rw [if_pos hm]
 have eW : mkW N y k f ws = fil ws y (hw k f) f.toNat := by unfold mkW; rw [if_pos hm]
 rw [eY, eW]
 have hlt : y + f.toNat < ws.length := by omega
 have hh : ld N (y + 1 + f.toNat) g (fil ws y (hw k f) f.toNat) y = hw k f := ld_head _ _ hlt
 have hp := parts_head k f h1
 refine ⟨h.ty.snoc (fun x hx => ?_) (by rw [hh]; exact hp.2.2) (by rw [hh, hp.2.1]; omega), h.to.heads (fun x hx => ?_)⟩
 ·have hi := h.iy x hx
  rw [ld_in (iB_y hi.1 (by omega)), ld_in (iB_y hi.1 hi.2), fil_get _ _ _ _ _ hlt, if_neg (by omega), if_neg (by omega)]
 ·have hi := h.io x hx
  rw [ld_in (iB_o hi.1 hi.2), ld_in (iB_o hi.1 hi.2), fil_get _ _ _ _ _ hlt, if_neg (by omega), if_neg (by omega)]
theorem Full2.copy (h : Full2 N y g ws Y G) (hl : ws.length = N + O) (hy : y <= N) (hg : g <= O) {a : Int} (hm : cpB N O y g ws a = true) (ha : a ∈ Y \/ a ∈ G) : Full2 N y (cpG N O y g ws a) (cpW N O y g ws a) Y (G ++ [((N + g : Nat) : Int)]) /\ ld N y (cpG N O y g ws a) (cpW N O y g ws a) ((N + g : Nat) : Int) = ld N y g ws a := by
 obtain ⟨h1, h2, h3⟩ := cpB_yes hm
 have hp := pf_bd (ld N y g ws a)
 have eG : cpG N O y g ws a = g + (1 + (pf (ld N y g ws a)).toNat) := by unfold cpG; rw [if_pos hm]
 have eW : cpW N O y g ws a = splice ws (N + g) ((ws.drop a.toNat).take (1 + (pf (ld N y g ws a)).toNat)) := by unfold cpW; rw [if_pos hm]
 have hia : 0 <= a /\ a + (1 + pf (ld N y g ws a)) <= (N : Int) + g /\ iB N y g a = true := by
  rcases ha with ha | ha
  ·have h4 := h.ty.mem a ha
   have h5 := h.iy a ha
   exact ⟨h5.1, by omega, iB_y h5.1 h5.2⟩
  ·have h4 := h.to.mem a ha
   have h5 := h.io a ha
   exact ⟨by omega, by omega, iB_o h5.1 h5.2⟩
 rw [eG, eW]
 obtain ⟨n, hn⟩ : ∃ n, n = (pf (ld N y g ws a)).toNat := ⟨_, rfl⟩
 rw [<- hn]
 have sg : ∀ i : Nat, (splice ws (N + g) ((ws.drop a.toNat).take (1 + n))).getD i 0 = if N + g <= i /\ i < N + g + (1 + n) then ws.getD (a.toNat + i - (N + g)) 0 else ws.getD i 0 := fun i => splice_get ws (N + g) a.toNat (1 + n) i (by omega) (by omega)
 have hh : ld N y (g + (1 + n)) (splice ws (N + g) ((ws.drop a.toNat).take (1 + n))) ((N + g : Nat) : Int) = ld N y g ws a := by
  rw [ld_in (iB_o (by omega) (by omega)), Int.toNat_natCast, sg, if_pos (by omega), Nat.add_sub_cancel, ld_in hia.2.2]
 refine ⟨⟨h.ty.heads (fun x hx => ?_), ?_⟩, hh⟩
 ·have hi := h.iy x hx
  rw [ld_in (iB_y hi.1 hi.2), ld_in (iB_y hi.1 hi.2), sg, if_neg (by omega)]
 ·have ht := h.to
  rw [show (N : Int) + g = ((N + g : Nat) : Int) by omega] at ht
  refine ht.snoc (fun x hx => ?_) (by rw [hh]; exact h1) (by rw [hh]; omega)
  have hi := h.io x hx
  rw [ld_in (iB_o hi.1 (by omega)), ld_in (iB_o hi.1 hi.2), sg, if_neg (by omega)]
theorem Full2.set (h : Full2 N y g ws Y G) (hl : ws.length = N + O) (hy : y <= N) (hg : g <= O) {v i z : Int} (hv : v ∈ Y \/ v ∈ G) (i0 : 0 <= i) (i1 : i < pf (ld N y g ws v)) : Full2 N y g (ws.set (v + 1 + i).toNat z) Y G /\ ∀ x, (x ∈ Y \/ x ∈ G) -> ld N y g (ws.set (v + 1 + i).toNat z) x = ld N y g ws x := by
 have hb : 0 <= v /\ v + 1 + i < (N : Int) + g := by
  rcases hv with hv | hv
  ·have h4 := h.ty.mem v hv
   have h5 := h.iy v hv
   omega
  ·have h4 := h.to.mem v hv
   have h5 := h.io v hv
   omega
 have key : ∀ x, (x ∈ Y \/ x ∈ G) -> ld N y g (ws.set (v + 1 + i).toNat z) x = ld N y g ws x := fun x hx => by
  have hne : x ≠ v + 1 + i := by
   intro e
   rcases hv with hv | hv <;> rcases hx with hx | hx
   ·exact h.ty.field hv i0 i1 (by rw [<- e]; exact hx)
   ·have h4 := h.ty.mem v hv
    have h5 := h.io x hx
    omega
   ·have h4 := h.io v hv
    have h5 := h.iy x hx
    omega
   ·exact h.to.field hv i0 i1 (by rw [<- e]; exact hx)
  have hi : iB N y g x = true /\ 0 <= x := by
   rcases hx with hx | hx
   ·have h5 := h.iy x hx
    exact ⟨iB_y h5.1 h5.2, h5.1⟩
   ·have h5 := h.io x hx
    exact ⟨iB_o h5.1 h5.2, by omega⟩
  rw [ld_in hi.1, ld_in hi.1, getD_set _ _ _ _ (by omega), if_neg (by omega)]
 exact ⟨⟨h.ty.heads (fun x hx => key x (Or.inl hx)), h.to.heads (fun x hx => key x (Or.inr hx))⟩, key⟩
end
end Go.Proofs.YtnalfnlmaallmaaGreat

namespace Go.Proofs.YtnalfnlmaallmaaGreat
set_option maxRecDepth 100000
set_option maxHeartbeats 1000000
open Go.RowKit W Kp Stl
def Tells {τ : Type} (o : Ob τ) (D : Int -> Prop) (f : Nat) (b c : Array Value) (nw : τ -> Int -> Int) : Prop :=
 ∀ F t w (x : Int), D x -> o.J F t w -> Calls Tryz.prog f (b.push (.int .i64 x) ++ c) w fun r w' => r = .returned (.int .i64 (nw t x)) /\ Below w.heap.size w w'
def Alives {τ : Type} (o : Ob τ) (D : Int -> Prop) (f : Nat) (b c : Array Value) (is : τ -> Int -> Bool) : Prop :=
 ∀ F t w (x : Int), D x -> o.J F t w -> Calls Tryz.prog f (b.push (.int .i64 x) ++ c) w fun r w' => r = .returned (.bool (is t x)) /\ Below w.heap.size w w'
def Keeps {τ : Type} (o : Ob τ) (D : Int -> Prop) (f : Nat) (b c : Array Value) (kp : τ -> Int -> Int × τ) : Prop :=
 ∀ F t w (x : Int), D x -> o.J F t w -> Calls Tryz.prog f (b.push (.int .i64 x) ++ c) w fun r w' => ∃ F', r = .returned (.int .i64 (kp t x).1) /\ o.J F' (kp t x).2 w' /\ Fr F w w' /\ ∀ k, F' k -> F k \/ w.heap.size <= k
theorem told_any {τ : Type} (o : Ob τ) (D : Int -> Prop) (f : Nat) (b c : Array Value) (nw : τ -> Int -> Int) (hf : Ent f) (ht : Tells o D f b c nw) (l : List En) (ad : Option Addr) (cap : Nat) (F : Nat -> Prop) (t : τ) (w : World)
    (hD : ∀ e ∈ l, D e.1 /\ D e.2) (hm : l.length <= 100000) (hJ : o.J F t w) (hp : Lp w ad l) :
    Calls Tryz.prog 140 #[.slice ad l.length cap, .func (.func f) b c] w fun r w' => ∃ a1 c1, r = .returned (.slice a1 l.length c1) /\ w'.ownsRow w.heap.size 106 2 (.slice a1 l.length c1) l.length (ev (l.map fun e => (nw t e.1, nw t e.2))) /\ Below w.heap.size w w' := by
  obtain ⟨i0, hi, hz0, hz1, hz2⟩ := info_parts infoEn
  have HT : Hid (Tells o D f b c nw) := ht
  have HP : Hid (Lp w ad l) := hp
  have HJ : Hid (o.J F t w) := hJ
  clear hp ht hJ
  have hcf : ∀ (args : Array Value) (w : World), (callFunc f args).run Tryz.prog w = .ok (.enter f args) w := hf
  clear hf
  go_enter Tryz.func140, Tryz.ntmps140
  go_wp2_with fail
  go_loopw [5, 10] (fun vt iv wr => ∃ (j : Nat) (T : List En) (at1 : Option Addr) (ct : Nat), j <= l.length /\ iv = .int .i64 j /\ Hid (T = (l.take j).map fun e => (nw t e.1, nw t e.2)) /\ vt = .slice at1 T.length ct /\
      wr.ownsRow w.heap.size 106 2 (.slice at1 T.length ct) T.length (ev T) /\ Below w.heap.size w wr) (fun _ iv _ => l.length - (intOf iv).toNat)
  case atStart => exact ⟨0, [], none, 0, Nat.zero_le _, rfl, rfl, rfl, World.ownsRow_nil _ _ _ _, Below.refl _ _⟩
  case round =>
    obtain ⟨j, T, at1, ct, hj, rfl, HE, rfl, hT, hb⟩ := hrel
    have hTl : T.length <= 100000 := by rw [HE.out]; simp; omega
    by_cases hlt : j < l.length
    · obtain ⟨b0, o0, e0, hb0, hc⟩ := HP.out.below hb (by omega)
      obtain ⟨x1, x2⟩ := hc j hlt
      clear hc
      obtain ⟨hdg, hdz⟩ := hD (l.getD j (0, 0)) (by rw [List.getD_eq_getElem?_getD, List.getElem?_eq_getElem hlt]; exact List.getElem_mem hlt)
      have HS : Hid (T ++ [(nw t (l.getD j (0, 0)).1, nw t (l.getD j (0, 0)).2)] = (l.take (j + 1)).map fun e => (nw t e.1, nw t e.2)) := by
        show _ = _
        rw [take_snoc l j hlt (0, 0), List.map_append, HE.out]
        rfl
      generalize (l.getD j (0, 0)).1 = g at x1 HS hdg
      generalize (l.getD j (0, 0)).2 = z at x2 HS hdz
      subst e0
      have hsz := hb.size
      have hB0 : Below w.heap.size w (wr.alloc (.cells #[.int .i64 g, .int .i64 z] 106)) := hb.alloc hsz _
      have hT0 := row_alloc hT (.cells #[.int .i64 g, .int .i64 z] 106)
      go_wp2_with fail
      go_region_held3 (fun w' => w'.cell? ⟨wr.heap.size, 0, none⟩ = some (.int .i64 g) /\ w'.cell? ⟨wr.heap.size, 1, none⟩ = some (.int .i64 z)) (go_keep)
        (first | (refine (HT.out F t _ g hdg (o.below HJ.out hB0.drew)).mono ?_; rintro e w3 ⟨rfl, hb3⟩; have hB3 : Below w.heap.size w w3 := hB0.drew.trans (hb3.mono (by simp; omega)); have hT3 := row_keep hT0 (fun k e => hb3.block k (row_lt hT0 k e).2); have hs3 := hb3.size; simp at hs3; have y1 : w3.cell? ⟨wr.heap.size, 0, none⟩ = some (.int .i64 g) := (hb3.cell (by simp)).trans (by simp); have y2 : w3.cell? ⟨wr.heap.size, 1, none⟩ = some (.int .i64 z) := (hb3.cell (by simp)).trans (by simp); have hl3 : wr.heap.size < w3.heap.size := (by omega))
                 | (refine (HT.out F t _ z hdz (o.below HJ.out hB3)).mono ?_; rintro e w5 ⟨rfl, hb5⟩; have hB5 : Below w.heap.size w w5 := hB3.trans (hb5.mono (by omega)); have hT5 := row_keep hT3 (fun k e => hb5.block k (row_lt hT3 k e).2); have hs5 := hb5.size; have y3 : w5.cell? ⟨wr.heap.size, 0, none⟩ = some (.int .i64 g) := (hb5.cell hl3).trans y1; have y4 : w5.cell? ⟨wr.heap.size, 1, none⟩ = some (.int .i64 z) := (hb5.cell hl3).trans y2; have hl5 : wr.heap.size < w5.heap.size := (by omega))
                 | (refine step_append_lies _ rfl (.tmp 14) (.tmp 24) 151 rfl w.heap.size 106 i0 (.agg #[.int .i64 0, .int .i64 0]) 2 16 Tryz.underlying151 hi hz0 hz1 hz2 rfl (by decide) (.slice at1 T.length ct) T.length (ev T) (by simp [Act.eval]) (row_alloc hT5 _) ⟨w5.heap.size, 0, none⟩ 1 1 [.int .i64 (nw t g), .int .i64 (nw t z)] (by simp [Act.eval]) rfl ?_ ?_ (by decide) (by unfold maxLen; omega) (by omega) (by simp; omega) _ rfl ?_; (intro j u hj; match j, hj with | 0, hj => (simp at hj; subst hj; simp [Addr.add]) | 1, hj => (simp at hj; subst hj; simp [Addr.add])); (intro u hu; simp at hu; rcases hu with hu | hu <;> (subst hu; rfl)); intro b6 cap6 w6 hown6 hgrow6 hat6 hlt6; have y5 : w6.cell? ⟨wr.heap.size, 0, none⟩ = some (.int .i64 g) := hgrow6.cell ((((Below.refl w5.heap.size w5).alloc (Nat.le_refl _) _).cell hl5).trans y3) (fun e => absurd (row_lt hT _ e).2 (Nat.lt_irrefl _)); have y6 : w6.cell? ⟨wr.heap.size, 1, none⟩ = some (.int .i64 z) := hgrow6.cell ((((Below.refl w5.heap.size w5).alloc (Nat.le_refl _) _).cell hl5).trans y4) (fun e => absurd (row_lt hT _ e).2 (Nat.lt_irrefl _))))
      have hT6 : w6.ownsRow w.heap.size 106 2 (.slice (some ⟨b6, 0, none⟩) (T ++ [(nw t g, nw t z)]).length cap6) (T ++ [(nw t g, nw t z)]).length (ev (T ++ [(nw t g, nw t z)])) := by
        rw [ev_append]
        simpa [ev] using hown6
      have hB6 := (hB5.alloc hB5.size _).grown hgrow6 (by simp; omega) (fun k e => (row_lt hT k e.symm).1)
      clear hown6 hgrow6 hat6 hlt6 hT0 hT3 hT5 hB0 hB3 hB5 hT hb hb3 hb5 y1 y2 y3 y4 y5 y6 x1 x2
      go_wp2_with fail
      go_roundw
      case rel => exact ⟨j + 1, T ++ [(nw t g, nw t z)], some ⟨b6, 0, none⟩, cap6, by omega, by go_num, HS, by simp, hT6, hB6⟩
      case measure => simp [intOf]; omega
    · obtain rfl : j = l.length := by omega
      rw [List.take_length] at HE
      have hl : T.length = l.length := by rw [HE.out, List.length_map]
      rw [hl] at hT
      have hT : wr.ownsRow w.heap.size 106 2 (.slice at1 l.length ct) l.length (ev (l.map fun e => (nw t e.1, nw t e.2))) := by rw [<- HE.out]; exact hT
      clear hTl
      go_wp2_with fail
      go_ret
      exact ⟨at1, ct, by rw [hl]; rfl, hT, hb⟩
end Go.Proofs.YtnalfnlmaallmaaGreat

namespace Go.Proofs.YtnalfnlmaallmaaGreat
set_option maxRecDepth 100000
set_option maxHeartbeats 1000000
open Go.RowKit W Kp Stl
structure SdOb (σ : Type) extends Ob σ where
  p : Nat
  vr : Value
  wt : σ -> List En
  put : σ -> List En -> σ
  side : ∀ {F s w}, J F s w -> ∃ ad cap, w.heap[p]? = some (.cells #[vr, .slice ad (wt s).length cap] 153 (0, 0)) /\ Li w ad (wt s) cap /\ F p /\ (0 < (wt s).length -> ∀ z, ad = some z -> F z.block)
  set : ∀ {F s w}, J F s w -> ∀ {w1 : World} {q : List En} {b1 cap1 : Nat}, Below w.heap.size w w1 -> w1.ownsRow w.heap.size 106 2 (.slice (some ⟨b1, 0, none⟩) q.length cap1) q.length (ev q) ->
    J (fun k => F k \/ k = b1) (put s q) (w1.setCell ⟨p, 1, none⟩ (.slice (some ⟨b1, 0, none⟩) q.length cap1))
  wt_put : ∀ s q, wt (put s q) = q
theorem Li.keep {w w' : World} {ad : Option Addr} {l : List En} {cap : Nat} (h : Li w ad l cap) (hs : w.heap.size <= w'.heap.size) (hk : 0 < l.length -> ∀ a, ad = some a -> w'.heap[a.block]? = w.heap[a.block]?) : Li w' ad l cap := ⟨h.lp.keep hs hk, h.le, h.nil⟩
theorem Li.below {w w' : World} {ad : Option Addr} {l : List En} {cap : Nat} (h : Li w ad l cap) (hb : Below w.heap.size w w') : Li w' ad l cap := ⟨h.lp.below hb, h.le, h.nil⟩
def KeepsW {σ : Type} (o : SdOb σ) (D : Int -> Prop) (f : Nat) (b c : Array Value) (kp : σ -> Int -> Int × σ) : Prop :=
 ∀ F t w (x : Int), D x -> (o.wt (kp t x).2).length <= 90000 -> o.J F t w -> Calls Tryz.prog f (b.push (.int .i64 x) ++ c) w fun r w' => ∃ F', r = .returned (.int .i64 (kp t x).1) /\ o.J F' (kp t x).2 w' /\ Fr F w w' /\ ∀ k, F' k -> F k \/ w.heap.size <= k
structure Fv where
  f : Nat
  b : Array Value
  c : Array Value
abbrev Fv.v (x : Fv) : Value := .func (.func x.f) x.b x.c
structure Bxs (w : World) (p bl bg bs : Nat) (fa fk fn : Fv) : Prop where
  l : w.heap[bl]? = some (.cells #[fa.v, fk.v, fn.v] 116 (0, 0))
  g : w.heap[bg]? = some (.cells #[.func (.func 134) #[] #[.pointer (some ⟨bl, 0, none⟩)]] 104 (0, 0))
  s : w.heap[bs]? = some (.cells #[.pointer (some ⟨p, 0, none⟩)] 41 (0, 0))
theorem guarded_any {σ : Type} (o : Ob σ) (D : Int -> Prop) (fa : Fv) (is : σ -> Int -> Bool) (he : Ent fa.f) (ha : Alives o D fa.f fa.b fa.c is) (F : Nat -> Prop) (s : σ) (w : World) (bl : Nat) (e : En) (hD : D e.1) (hJ : o.J F s w) (hc : w.cell? ⟨bl, 0, none⟩ = some fa.v) :
  Calls Tryz.prog 134 #[en e, .pointer (some ⟨bl, 0, none⟩)] w fun r w' => r = .returned (.bool (is s e.1)) /\ Below w.heap.size w w' := by
 obtain ⟨g, z⟩ := e
 obtain ⟨f, b, c⟩ := fa
 have HA : Hid (Alives o D f b c is) := ha
 have HJ : Hid (o.J F s w) := hJ
 have hlt := World.block_lt_of_cell? w _ hc
 have hcf : ∀ (args : Array Value) (w : World), (callFunc f args).run Tryz.prog w = .ok (.enter f args) w := he
 clear he ha hJ
 go_enter Tryz.func134, Tryz.ntmps134
 go_wp2_with fail
 have hb1 := (Below.refl w.heap.size w).alloc (Nat.le_refl _) (.cells #[.int .i64 g, .int .i64 z] 106)
 refine (HA.out F s _ g hD (o.below HJ.out hb1)).mono ?_
 rintro r w1 ⟨rfl, hb⟩
 go_wp2_with fail
 go_ret
 exact ⟨rfl, hb1.trans (hb.mono (by simp))⟩
theorem lives_any {σ : Type} (o : Ob σ) (D : Int -> Prop) (fa : Fv) (is : σ -> Int -> Bool) (he : Ent fa.f) (ha : Alives o D fa.f fa.b fa.c is) (F : Nat -> Prop) (s : σ) (w : World) (bl : Nat) (e : En) (hD : D e.2) (hJ : o.J F s w) (hc : w.cell? ⟨bl, 0, none⟩ = some fa.v) :
  Calls Tryz.prog 139 #[en e, .pointer (some ⟨bl, 0, none⟩)] w fun r w' => r = .returned (.bool (is s e.2)) /\ Below w.heap.size w w' := by
 obtain ⟨g, z⟩ := e
 obtain ⟨f, b, c⟩ := fa
 have HA : Hid (Alives o D f b c is) := ha
 have HJ : Hid (o.J F s w) := hJ
 have hlt := World.block_lt_of_cell? w _ hc
 have hcf : ∀ (args : Array Value) (w : World), (callFunc f args).run Tryz.prog w = .ok (.enter f args) w := he
 clear he ha hJ
 go_enter Tryz.func139, Tryz.ntmps139
 go_wp2_with fail
 have hb1 := (Below.refl w.heap.size w).alloc (Nat.le_refl _) (.cells #[.int .i64 g, .int .i64 z] 106)
 refine (HA.out F s _ z hD (o.below HJ.out hb1)).mono ?_
 rintro r w1 ⟨rfl, hb⟩
 go_wp2_with fail
 go_ret
 exact ⟨rfl, hb1.trans (hb.mono (by simp))⟩
def cm {σ : Type} (o : SdOb σ) (is : σ -> Int -> Bool) (kp : σ -> Int -> Int × σ) (s : σ) (e : En) : Bool × σ :=
 if is s e.1 then (true, o.put (kp s e.2).2 (o.wt (kp s e.2).2 ++ [(e.1, (kp s e.2).1)])) else (false, s)
theorem cm_no {σ : Type} {o : SdOb σ} {is : σ -> Int -> Bool} {kp : σ -> Int -> Int × σ} {s : σ} {e : En} (h : is s e.1 = false) : cm o is kp s e = (false, s) := by simp [cm, h]
theorem cm_yes {σ : Type} {o : SdOb σ} {is : σ -> Int -> Bool} {kp : σ -> Int -> Int × σ} {s : σ} {e : En} (h : is s e.1 = true) : cm o is kp s e = (true, o.put (kp s e.2).2 (o.wt (kp s e.2).2 ++ [(e.1, (kp s e.2).1)])) := by simp [cm, h]
theorem comes_any {σ : Type} (o : SdOb σ) (D : Int -> Prop) (fa fk fn : Fv) (is : σ -> Int -> Bool) (kp : σ -> Int -> Int × σ) (he : Ent fa.f) (hek : Ent fk.f) (ha : Alives o.toOb D fa.f fa.b fa.c is) (hk : KeepsW o D fk.f fk.b fk.c kp)
  (F : Nat -> Prop) (s : σ) (w : World) (bl bg bs : Nat) (e : En) (hD : D e.1 /\ D e.2) (hn : (o.wt (kp s e.2).2).length <= 90000) (hJ : o.J F s w) (hB : Bxs w o.p bl bg bs fa fk fn) (hs : ¬ F bs) :
  Calls Tryz.prog 135 #[en e, .pointer (some ⟨bg, 0, none⟩), .pointer (some ⟨bl, 0, none⟩), .pointer (some ⟨bs, 0, none⟩)] w fun r w' => ∃ F', r = .returned (.bool (cm o is kp s e).1) /\ o.J F' (cm o is kp s e).2 w' /\ Fr F w w' /\ ∀ k, F' k -> F k \/ w.heap.size <= k := by
 obtain ⟨g, z⟩ := e
 have HA : Hid (Alives o.toOb D fa.f fa.b fa.c is) := ha
 have HK : Hid (KeepsW o D fk.f fk.b fk.c kp) := hk
 have HN : Hid ((o.wt (kp s z).2).length <= 90000) := hn
 have HE : Hid (Ent fa.f) := he
 have HJ : Hid (o.J F s w) := hJ
 have c0 : w.cell? ⟨bl, 0, none⟩ = some fa.v := by simp [World.cell?, hB.l]
 have c1 : w.cell? ⟨bl, 1, none⟩ = some (.func (.func fk.f) fk.b fk.c) := by simp [World.cell?, hB.l]
 have c2 : w.cell? ⟨bg, 0, none⟩ = some (.func (.func 134) #[] #[.pointer (some ⟨bl, 0, none⟩)]) := by simp [World.cell?, hB.g]
 have c3 : w.cell? ⟨bs, 0, none⟩ = some (.pointer (some ⟨o.p, 0, none⟩)) := by simp [World.cell?, hB.s]
 have l1 : bl < w.heap.size := lt_of_some hB.l
 have l2 : bg < w.heap.size := lt_of_some hB.g
 have l3 : bs < w.heap.size := lt_of_some hB.s
 have hcf : ∀ (args : Array Value) (w : World), (callFunc fk.f args).run Tryz.prog w = .ok (.enter fk.f args) w := hek
 clear he ha hJ hk hek hn hB
 go_enter Tryz.func135, Tryz.ntmps135
 go_wp2_with fail
 have hb1 := (Below.refl w.heap.size w).alloc (Nat.le_refl _) (.cells #[.int .i64 g, .int .i64 z] 106)
 refine (guarded_any o.toOb D fa is HE.out HA.out F s _ bl (g, z) hD.1 (o.below HJ.out hb1) ((hb1.cell l1).trans c0)).mono ?_
 rintro r w1 ⟨rfl, hb⟩
 have hb2 := hb1.trans (hb.mono (by simp))
 have hl0 : w.heap.size < w1.heap.size := by have := hb.size; simp at this; omega
 have y0 : w1.cell? ⟨w.heap.size, 0, none⟩ = some (.int .i64 g) := (hb.cell (by simp)).trans (by simp)
 have y1 : w1.cell? ⟨w.heap.size, 1, none⟩ = some (.int .i64 z) := (hb.cell (by simp)).trans (by simp)
 have y2 : w1.cell? ⟨bl, 1, none⟩ = some (.func (.func fk.f) fk.b fk.c) := (hb2.cell l1).trans c1
 have y3 : w1.cell? ⟨bs, 0, none⟩ = some (.pointer (some ⟨o.p, 0, none⟩)) := (hb2.cell l3).trans c3
 have yf : w1.frozen? ⟨w.heap.size, 1, none⟩ = false := (hb.frozen (by simp)).trans (by simp)
 clear hb hb1
 cases hg : is s g
 ·have HC : Hid (cm o is kp s (g, z) = (false, s)) := cm_no hg
  go_wp2_with fail
  go_ret
  rw [HC.out]
  exact ⟨F, rfl, o.below HJ.out hb2, Fr.of hb2, fun k h => Or.inl h⟩
 ·have HC : Hid (cm o is kp s (g, z) = (true, o.put (kp s z).2 (o.wt (kp s z).2 ++ [(g, (kp s z).1)]))) := cm_yes hg
  go_wp2_with fail
  refine (HK.out F s _ z hD.2 HN.out (o.below HJ.out hb2)).mono ?_
  rintro r w3 ⟨F1, rfl, hJ1, hfr, hF1⟩
  generalize (kp s z).1 = y at HC ⊢
  generalize (kp s z).2 = s1 at HC hJ1 HN
  have hFw : ¬ F w.heap.size := fun h => by have := o.lt HJ.out _ h; omega
  have hF1w : ¬ F1 w.heap.size := fun h => (hF1 _ h).elim hFw (fun h => by omega)
  have hs3 := hfr.size
  have hb2s := hb2.size
  obtain ⟨ad, cap, hp, hLi, hFp, hFa⟩ := o.side hJ1
  have hpw : o.p ≠ w.heap.size := fun e => hF1w (by rw [<- e]; exact hFp)
  have hlp : o.p < w3.heap.size := lt_of_some hp
  have hbp : bs ≠ o.p := fun e => (hF1 bs (by rw [e]; exact hFp)).elim hs (fun h => by omega)
  have hql := HN.out
  have kb := hfr.block _ hl0 hFw
  have ks := hfr.block bs (by omega) hs
  have z0 : w3.cell? ⟨w.heap.size, 0, none⟩ = some (.int .i64 g) := (World.cell?_of_block (a := ⟨w.heap.size, 0, none⟩) kb).trans y0
  have z1 : w3.cell? ⟨w.heap.size, 1, none⟩ = some (.int .i64 z) := (World.cell?_of_block (a := ⟨w.heap.size, 1, none⟩) kb).trans y1
  have zf : w3.frozen? ⟨w.heap.size, 1, none⟩ = false := (World.frozen?_of_block (a := ⟨w.heap.size, 1, none⟩) kb).trans yf
  have z3 : w3.cell? ⟨bs, 0, none⟩ = some (.pointer (some ⟨o.p, 0, none⟩)) := (World.cell?_of_block (a := ⟨bs, 0, none⟩) ks).trans y3
  have bw : bs ≠ w.heap.size := by omega
  have keep4 : ∀ k : Nat, k ≠ w.heap.size -> (w3.setCell ⟨w.heap.size, 1, none⟩ (.int .i64 y)).heap[k]? = w3.heap[k]? := fun k hk => Below.heap_setCell _ _ _ _ hk
  have sz4 : (w3.setCell ⟨w.heap.size, 1, none⟩ (.int .i64 y)).heap.size = w3.heap.size := by simp [World.setCell]
  have d0 : (w3.setCell ⟨w.heap.size, 1, none⟩ (.int .i64 y)).cell? ⟨w.heap.size, 0, none⟩ = some (.int .i64 g) := (World.cell?_setCell_other w3 ⟨w.heap.size, 1, none⟩ ⟨w.heap.size, 0, none⟩ (.int .i64 y) (by simp)).trans z0
  have d1 : (w3.setCell ⟨w.heap.size, 1, none⟩ (.int .i64 y)).cell? ⟨w.heap.size, 1, none⟩ = some (.int .i64 y) := World.cell?_setCell_same _ _ _ z1
  have d3 : (w3.setCell ⟨w.heap.size, 1, none⟩ (.int .i64 y)).cell? ⟨bs, 0, none⟩ = some (.pointer (some ⟨o.p, 0, none⟩)) := (World.cell?_of_block (a := ⟨bs, 0, none⟩) (keep4 bs bw)).trans z3
  have d4 : (w3.setCell ⟨w.heap.size, 1, none⟩ (.int .i64 y)).cell? ⟨o.p, 1, none⟩ = some (.slice ad (o.wt s1).length cap) := (World.cell?_of_block (a := ⟨o.p, 1, none⟩) (keep4 o.p hpw)).trans (by simp [World.cell?, hp])
  have df : (w3.setCell ⟨w.heap.size, 1, none⟩ (.int .i64 y)).frozen? ⟨o.p, 1, none⟩ = false := (World.frozen?_of_block (a := ⟨o.p, 1, none⟩) (keep4 o.p hpw)).trans (by simp [World.frozen?, hp])
  have hJ4 : o.J F1 s1 (w3.setCell ⟨w.heap.size, 1, none⟩ (.int .i64 y)) := o.keep hJ1 (by rw [sz4]; exact Nat.le_refl _) (fun k hk => keep4 k (fun e => hF1w (by rw [<- e]; exact hk)))
  have hLi4 : Li (w3.setCell ⟨w.heap.size, 1, none⟩ (.int .i64 y)) ad (o.wt s1) cap := hLi.keep (by rw [sz4]; exact Nat.le_refl _) (fun hq a e => keep4 _ (fun e' => hF1w (by rw [<- e']; exact hFa hq a e)))
  have hfr4 : Fr F w (w3.setCell ⟨w.heap.size, 1, none⟩ (.int .i64 y)) := ((Fr.of (X := F) hb2).trans hfr (fun _ c => Or.inl c)).trans ((Fr.refl (fun k => k = w.heap.size) w3).set _ 1 _ rfl) (fun i c => Or.inr (by omega))
  have HF1 : Hid (∀ k, F1 k -> F k \/ w.heap.size <= k) := fun k h => (hF1 k h).imp id (fun h => by omega)
  have HFp : Hid (F1 o.p) := hFp
  have lo : bs < (w3.setCell ⟨w.heap.size, 1, none⟩ (.int .i64 y)).heap.size := by omega
  have lp : o.p < (w3.setCell ⟨w.heap.size, 1, none⟩ (.int .i64 y)).heap.size := by omega
  have lw : w.heap.size < (w3.setCell ⟨w.heap.size, 1, none⟩ (.int .i64 y)).heap.size := by omega
  clear hFw hF1w hp hLi hFp hFa kb ks z3 keep4 hfr hJ1 hF1 y0 y1 y2 y3 yf sz4
  go_wp2_with fail
  generalize w3.setCell ⟨w.heap.size, 1, none⟩ (.int .i64 y) = w4 at *
  clear z0 z1 zf
  go_region_with (go_at_call 122; refine (with_any _ ad (o.wt s1) cap g y (hLi4.below ((Below.refl _ _).drew)) (by omega)).mono ?_; rintro e w5 ⟨b1, cap1, rfl, hown, hb5⟩; have e0 := (hb5.cell (p := ⟨w.heap.size, 0, none⟩) lw).trans d0; have e1 := (hb5.cell (p := ⟨w.heap.size, 1, none⟩) lw).trans d1; have e3 := (hb5.cell (p := ⟨bs, 0, none⟩) lo).trans d3; have e4 := (hb5.cell (p := ⟨o.p, 1, none⟩) lp).trans d4; have e5 := (hb5.frozen (p := ⟨o.p, 1, none⟩) lp).trans df)
  all_goals
   go_wp2_with fail
   go_ret
   rw [HC.out]
   have hJ5 := o.set (q := o.wt s1 ++ [(g, y)]) (b1 := b1) (cap1 := cap1) (o.below hJ4 (Below.refl _ _).drew) hb5 (by simpa using hown)
   refine ⟨fun k => F1 k \/ k = b1, rfl, by simpa using hJ5, (hfr4.drew.trans (Fr.of (X := F) hb5) (fun _ c => Or.inl c)).trans ((Fr.refl (fun k => k = o.p) w5).set o.p 1 _ rfl) (fun i c => by rw [c]; exact HF1.out _ HFp.out), fun k h => h.elim (HF1.out k) (fun h => Or.inr (by have := (row_lt hown b1 rfl).1; simp at this; omega))⟩
end Go.Proofs.YtnalfnlmaallmaaGreat
