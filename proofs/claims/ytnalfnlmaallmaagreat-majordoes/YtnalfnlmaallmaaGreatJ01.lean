/- Joined: Words, Words2, Ar, Ar1. -/
import Derived.Test.YtnalfnlmaallmaaGreatChecked
import Derived.Test.YtnalfnlmaallmaaGreatJ00
import Derived.WalkKit
import Derived.WalkSpells
import Derived.Deep.QuietTactic
import Derived.BigQuiet
import Derived.WalkSmall
import Derived.Laws.CopyOwn
namespace Go.Proofs.YtnalfnlmaallmaaGreat
set_option maxRecDepth 100000
set_option maxHeartbeats 400000
open Go.RowKit W
theorem rangeCode_any (n low : Int) (w : World) :
  Calls Tryz.prog 186 #[.int .i64 n, .int .i64 low] w fun e w' => e = .returned (.int .i64 (rc n low)) /\ w' = w := by
 by_cases c1 : n < low
 ·have e : rc n low = 1 := by unfold rc; rw [if_pos c1]
  rw [e]
  go_enter Tryz.func186, Tryz.ntmps186
  go_wp2
  go_ret
  exact ⟨rfl, rfl⟩
 ·by_cases c2 : 1152921504606846976 <= n
  ·have e : rc n low = 1 := by unfold rc; rw [if_neg c1, if_pos c2]
   rw [e]
   go_enter Tryz.func186, Tryz.ntmps186
   go_wp2
   go_ret
   exact ⟨rfl, rfl⟩
  ·have e : rc n low = 0 := by unfold rc; rw [if_neg c1, if_neg c2]
   rw [e]
   go_enter Tryz.func186, Tryz.ntmps186
   go_wp2
   go_ret
   exact ⟨rfl, rfl⟩
theorem tagOf_any (k : Int) (w : World) :
  Calls Tryz.prog 118 #[.int .i64 k] w fun e w' => e = .returned (.int .i64 (tg k)) /\ w' = w := by
 by_cases c1 : k = 1
 ·subst c1
  go_enter Tryz.func118, Tryz.ntmps118
  go_wp2
  go_ret
  exact ⟨rfl, rfl⟩
 ·by_cases c3 : k = 3
  ·subst c3
   go_enter Tryz.func118, Tryz.ntmps118
   go_wp2
   go_ret
   exact ⟨rfl, rfl⟩
  ·by_cases c0 : k = 0
   ·subst c0
    go_enter Tryz.func118, Tryz.ntmps118
    go_wp2
    go_ret
    exact ⟨rfl, rfl⟩
   ·have e : tg k = 3 := by unfold tg; rw [if_neg c1, if_neg c3, if_neg c0]
    rw [e]
    go_enter Tryz.func118, Tryz.ntmps118
    go_wp2
    go_ret
    exact ⟨rfl, rfl⟩
theorem kindOf_any (t : Int) (w : World) :
  Calls Tryz.prog 231 #[.int .i64 t] w fun e w' => e = .returned (.int .i64 (ko t)) /\ w' = w := by
 by_cases c1 : t = 0
 ·subst c1
  go_enter Tryz.func231, Tryz.ntmps231
  go_wp2
  go_ret
  exact ⟨rfl, rfl⟩
 ·by_cases c3 : t = 1
  ·subst c3
   go_enter Tryz.func231, Tryz.ntmps231
   go_wp2
   go_ret
   exact ⟨rfl, rfl⟩
  ·by_cases c0 : t = 2
   ·subst c0
    go_enter Tryz.func231, Tryz.ntmps231
    go_wp2
    go_ret
    exact ⟨rfl, rfl⟩
   ·have e : ko t = 2 := by unfold ko; rw [if_neg c1, if_neg c3, if_neg c0]
    rw [e]
    go_enter Tryz.func231, Tryz.ntmps231
    go_wp2
    go_ret
    exact ⟨rfl, rfl⟩
theorem vc0 (n : Int) : vc 0 n = if n = 0 then 0 else 7 := by simp [vc]
theorem vc2 (n : Int) : vc 2 n = if n = 0 then 0 else 7 := by simp [vc]
theorem vc1 (n : Int) : vc 1 n = rc n (-1152921504606846976) := by simp [vc]
theorem vc3 (n : Int) : vc 3 n = rc n 0 := by simp [vc]
theorem valueCode_any (k n : Int) (w : World) :
  Calls Tryz.prog 117 #[.agg #[.int .i64 k, .int .i64 n]] w fun e w' => e = .returned (.int .i64 (vc k n)) /\ Below w.heap.size w w' := by
 by_cases c0 : k = 0
 ·subst c0
  rw [vc0]
  by_cases c : n = 0
  ·subst c
   go_enter Tryz.func117, Tryz.ntmps117
   go_wp2
   go_ret
   exact ⟨rfl, (Below.refl _ _).alloc (Nat.le_refl _) _⟩
  ·rw [if_neg c]
   go_enter Tryz.func117, Tryz.ntmps117
   go_wp2
   go_ret
   exact ⟨rfl, (Below.refl _ _).alloc (Nat.le_refl _) _⟩
 ·by_cases c2 : k = 2
  ·subst c2
   rw [vc2]
   by_cases c : n = 0
   ·subst c
    go_enter Tryz.func117, Tryz.ntmps117
    go_wp2
    go_ret
    exact ⟨rfl, (Below.refl _ _).alloc (Nat.le_refl _) _⟩
   ·rw [if_neg c]
    go_enter Tryz.func117, Tryz.ntmps117
    go_wp2
    go_ret
    exact ⟨rfl, (Below.refl _ _).alloc (Nat.le_refl _) _⟩
  ·by_cases c1 : k = 1
   ·subst c1
    rw [vc1]
    go_enter Tryz.func117, Tryz.ntmps117
    go_wp2_with (go_at_call 186; refine (rangeCode_any _ _ _).mono ?_; rintro e w' ⟨rfl, rfl⟩)
    go_ret
    exact ⟨rfl, (Below.refl _ _).alloc (Nat.le_refl _) _⟩
   ·by_cases c3 : k = 3
    ·subst c3
     rw [vc3]
     go_enter Tryz.func117, Tryz.ntmps117
     go_wp2_with (go_at_call 186; refine (rangeCode_any _ _ _).mono ?_; rintro e w' ⟨rfl, rfl⟩)
     go_ret
     exact ⟨rfl, (Below.refl _ _).alloc (Nat.le_refl _) _⟩
    ·have e : vc k n = 2 := by unfold vc; rw [if_neg c0, if_neg c2, if_neg c1, if_neg c3]
     rw [e]
     go_enter Tryz.func117, Tryz.ntmps117
     go_wp2
     go_ret
     exact ⟨rfl, (Below.refl _ _).alloc (Nat.le_refl _) _⟩
theorem bcell {B : Nat} {W w1 : World} (hb : Below B W w1) : (∀ b o, b < B -> w1.cell? ⟨b, o, none⟩ = W.cell? ⟨b, o, none⟩) /\ (∀ b o, b < B -> w1.frozen? ⟨b, o, none⟩ = W.frozen? ⟨b, o, none⟩) :=
 ⟨fun b o h => hb.cell (p := ⟨b, o, none⟩) h, fun b o h => hb.frozen (p := ⟨b, o, none⟩) h⟩
theorem cells4 {w w1 : World} {a b c d : Value} {s t : TypeId} (hb : Below ((w.alloc (.cells #[a, b] s)).alloc (.cells #[c, d] t)).heap.size ((w.alloc (.cells #[a, b] s)).alloc (.cells #[c, d] t)) w1) :
  w1.cell? ⟨w.heap.size, 0, none⟩ = some a /\ w1.cell? ⟨w.heap.size, 1, none⟩ = some b /\ w1.cell? ⟨w.heap.size + 1, 0, none⟩ = some c /\ w1.cell? ⟨w.heap.size + 1, 1, none⟩ = some d /\ w1.frozen? ⟨w.heap.size, 0, none⟩ = false /\ w1.frozen? ⟨w.heap.size, 1, none⟩ = false /\ w.heap.size + 2 <= w1.heap.size := by
 obtain ⟨hc, hf⟩ := bcell hb
 have hz := hb.size
 refine ⟨?_, ?_, ?_, ?_, ?_, ?_, by simpa using hz⟩
 ·rw [hc _ _ (by simp; omega)]; simp [go_sem]
 ·rw [hc _ _ (by simp; omega)]; simp [go_sem]
 ·rw [hc _ _ (by simp)]; simp [go_sem]
 ·rw [hc _ _ (by simp)]; simp [go_sem]
 ·rw [hf _ _ (by simp; omega)]; simp [go_sem]
 ·rw [hf _ _ (by simp; omega)]; simp [go_sem]
theorem cells2 {w w1 : World} {a b : Value} {t : TypeId} (hb : Below (w.alloc (.cells #[a, b] t)).heap.size (w.alloc (.cells #[a, b] t)) w1) :
  w1.cell? ⟨w.heap.size, 0, none⟩ = some a /\ w1.cell? ⟨w.heap.size, 1, none⟩ = some b /\ w.heap.size + 1 <= w1.heap.size := by
 obtain ⟨hc, _⟩ := bcell hb
 have hz := hb.size
 refine ⟨?_, ?_, by simpa using hz⟩
 ·rw [hc _ _ (by simp)]; simp [go_sem]
 ·rw [hc _ _ (by simp)]; simp [go_sem]
theorem ret_two {a b : Int} {c : Value} (h : a = b) : Ending.returned (.tuple #[.int .i64 a, c]) = .returned (.tuple #[.int .i64 b, c]) := by rw [h]
theorem encode_any (k n : Int) (w : World) :
  Calls Tryz.prog 55 #[.agg #[.int .i64 k, .int .i64 n]] w fun e w' => e = .returned (.tuple #[.int .i64 (ew k n), .int .i64 (vc k n)]) /\ Below w.heap.size w w' := by
 by_cases h : vc k n = 0
 ·rw [ew_yes k n h]
  have hn := vc_bd k n h
  have H : Hid (vc k n = 0) := h
  clear h
  rw [H.out]
  have E : Hid (bits .or .i64 (n * 4) (tg k) = 4 * n + tg k) := enc_or k n hn.1 hn.2
  go_enter Tryz.func55, Tryz.ntmps55
  go_wp2_with fail
  refine (valueCode_any k n _).mono ?_
  rintro e w1 ⟨rfl, hb⟩
  rw [H.out]
  obtain ⟨hc, hf⟩ := bcell hb
  go_wp2_with fail
  go_quiet ((go_at_call 118; exact Calls.quiet_of_same (tagOf_any _ _)))
  go_wp2_with fail
  go_ret2
  exact ⟨ret_two E.out, below_drewN (((Below.refl _ _).alloc (Nat.le_refl _) _).trans (hb.mono (by simp))) _⟩
 ·rw [ew_no k n h]
  have hc : (vc k n != 0) = true := by simpa using h
  go_enter Tryz.func55, Tryz.ntmps55
  go_wp2_with fail
  refine (valueCode_any k n _).mono ?_
  rintro e w1 ⟨rfl, hb⟩
  go_wp2_with fail
  go_ret2
  exact ⟨rfl, ((Below.refl _ _).alloc (Nat.le_refl _) _).trans (hb.mono (by simp))⟩
theorem decode_any (x : Int) (w : World) :
  Calls Tryz.prog 183 #[.int .i64 x] w fun e w' => e = .returned (.tuple #[.agg #[.int .i64 (dk x), .int .i64 (dn x)], .int .i64 (dc x)]) /\ Below w.heap.size w w' := by
 have h3 := and3 x
 by_cases h : dc x = 0
 ·have e1 : dk x = ko (x % 4) := by unfold dk; rw [if_pos h]
  have e2 : dn x = x / 4 := by unfold dn; rw [if_pos h]
  have H : Hid (vc (ko (x % 4)) (x / 4) = 0) := h
  rw [h, e1, e2]
  clear h e1 e2
  go_enter Tryz.func183, Tryz.ntmps183
  go_wp2_with fail
  refine (kindOf_any _ _).mono ?_
  rintro e w' ⟨rfl, rfl⟩
  go_wp2_with fail
  refine (valueCode_any (ko (x % 4)) (x / 4) _).mono ?_
  rintro e w1 ⟨rfl, hb⟩
  rw [H.out]
  obtain ⟨c0, c1, c2, c3, f0, f1, hz⟩ := cells4 hb
  go_wp2_with fail
  exact bodyPost_ret (v := .tuple #[.agg #[.int .i64 (ko (x % 4)), .int .i64 (x / 4)], .int .i64 0]) (by simp [results, Tryz.results183, go_sem, c0, c1]) rfl ⟨rfl, (((((Below.refl _ _).alloc (Nat.le_refl _) _).alloc (by simp) _).trans (hb.mono (by simp; omega))).setCell (Nat.le_refl _) _).setCell (Nat.le_refl _) _⟩
 ·have e1 : dk x = 0 := by unfold dk; rw [if_neg h]
  have e2 : dn x = 0 := by unfold dn; rw [if_neg h]
  rw [e1, e2]
  have hn : (vc (ko (x % 4)) (x / 4) != 0) = true := by simpa [dc] using h
  have E : Hid (dc x = vc (ko (x % 4)) (x / 4)) := rfl
  rw [E.out]
  clear h e1 e2
  go_enter Tryz.func183, Tryz.ntmps183
  go_wp2_with fail
  refine (kindOf_any _ _).mono ?_
  rintro e w' ⟨rfl, rfl⟩
  go_wp2_with fail
  refine (valueCode_any (ko (x % 4)) (x / 4) _).mono ?_
  rintro e w1 ⟨rfl, hb⟩
  obtain ⟨c0, c1, c2, c3, f0, f1, hz⟩ := cells4 hb
  go_wp2_with fail
  exact bodyPost_ret (v := .tuple #[.agg #[.int .i64 0, .int .i64 0], .int .i64 (vc (ko (x % 4)) (x / 4))]) (by simp [results, Tryz.results183, go_sem, c0, c1]) rfl ⟨rfl, (((((Below.refl _ _).alloc (Nat.le_refl _) _).alloc (by simp) _).trans (hb.mono (by simp; omega))).setCell (Nat.le_refl _) _).setCell (Nat.le_refl _) _⟩
end Go.Proofs.YtnalfnlmaallmaaGreat

namespace Go.Proofs.YtnalfnlmaallmaaGreat
set_option maxRecDepth 100000
set_option maxHeartbeats 400000
open Go.RowKit W
theorem nil_any (w : World) : Calls Tryz.prog 56 #[] w fun e w' => e = .returned (.int .i64 2) /\ w' = w := by
 go_enter Tryz.func56, Tryz.ntmps56
 go_wp2
 go_ret
 exact ⟨rfl, rfl⟩
theorem gone_any (w : World) : Calls Tryz.prog 144 #[] w fun e w' => e = .returned (.int .i64 3) /\ w' = w := by
 go_enter Tryz.func144, Tryz.ntmps144
 go_wp2
 go_ret
 exact ⟨rfl, rfl⟩
theorem ref_any (n : Int) (w : World) :
  Calls Tryz.prog 51 #[.int .i64 n] w fun e w' => e = .returned (.int .i64 (ew 3 n)) /\ Below w.heap.size w w' := by
 go_enter Tryz.func51, Tryz.ntmps51
 go_wp2_with fail
 refine (encode_any 3 n _).mono ?_
 rintro e w1 ⟨rfl, hb⟩
 go_wp2_with fail
 go_ret
 exact ⟨rfl, hb⟩
theorem at_any (x : Int) (w : World) :
  Calls Tryz.prog 112 #[.int .i64 x] w fun e w' => e = .returned (.tuple #[.int .i64 (aV x), .bool (aB x)]) /\ Below w.heap.size w w' := by
 by_cases h0 : dc x = 0
 ·have t0 : (dc x != 0) = false := by simpa using h0
  by_cases h3 : dk x = 3
  ·have eb : aB x = true := by unfold aB; rw [h0, h3]; rfl
   rw [aV_yes x eb, eb]
   have t3 : (dk x != 3) = false := by simpa using h3
   clear h0 h3 eb
   go_enter Tryz.func112, Tryz.ntmps112
   go_wp2_with fail
   refine (decode_any x _).mono ?_
   rintro e w1 ⟨rfl, hb⟩
   go_wp2_with fail
   go_ret2
   exact ⟨rfl, hb.alloc hb.size _⟩
  ·have eb : aB x = false := by unfold aB; rw [beq_eq_false_iff_ne.2 h3]; simp
   rw [aV_no x eb, eb]
   have t3 : (dk x != 3) = true := by simpa using h3
   clear h0 h3 eb
   go_enter Tryz.func112, Tryz.ntmps112
   go_wp2_with fail
   refine (decode_any x _).mono ?_
   rintro e w1 ⟨rfl, hb⟩
   go_wp2_with fail
   go_ret2
   exact ⟨rfl, hb.alloc hb.size _⟩
 ·have t0 : (dc x != 0) = true := by simpa using h0
  have eb : aB x = false := by unfold aB; rw [beq_eq_false_iff_ne.2 h0]; simp
  rw [aV_no x eb, eb]
  clear h0 eb
  go_enter Tryz.func112, Tryz.ntmps112
  go_wp2_with fail
  refine (decode_any x _).mono ?_
  rintro e w1 ⟨rfl, hb⟩
  go_wp2_with fail
  go_ret2
  exact ⟨rfl, hb.alloc hb.size _⟩
theorem fieldBounds_any (k : Int) (w : World) :
  Calls Tryz.prog 179 #[.int .i64 k] w fun e w' => e = .returned (.tuple #[.int .i64 (fl k), .int .i64 (fm k), .bool (fk k)]) /\ w' = w := by
 by_cases c1 : k = 1
 ·subst c1
  go_enter Tryz.func179, Tryz.ntmps179
  go_wp2
  go_ret3
  exact ⟨rfl, rfl⟩
 by_cases c2 : k = 2
 ·subst c2
  go_enter Tryz.func179, Tryz.ntmps179
  go_wp2
  go_ret3
  exact ⟨rfl, rfl⟩
 by_cases c3 : k = 3
 ·subst c3
  go_enter Tryz.func179, Tryz.ntmps179
  go_wp2
  go_ret3
  exact ⟨rfl, rfl⟩
 by_cases c4 : k = 4
 ·subst c4
  go_enter Tryz.func179, Tryz.ntmps179
  go_wp2
  go_ret3
  exact ⟨rfl, rfl⟩
 by_cases c5 : k = 5
 ·subst c5
  go_enter Tryz.func179, Tryz.ntmps179
  go_wp2
  go_ret3
  exact ⟨rfl, rfl⟩
 have e1 : fl k = 0 := by simp [fl, c1, c3, c4]
 have e2 : fm k = 0 := by simp [fm, c1, c2, c3, c4]
 have e3 : fk k = false := by simp [fk, c1, c2, c3, c4, c5]
 rw [e1, e2, e3]
 clear e1 e2 e3
 go_enter Tryz.func179, Tryz.ntmps179
 go_wp2
 go_ret3
 exact ⟨rfl, rfl⟩
theorem head_yes (k f : Int) (w : World) (h : hc k f = 0) :
  Calls Tryz.prog 107 #[.int .i64 k, .int .i64 f] w fun e w' => e = .returned (.tuple #[.int .i64 (16 * f + k), .int .i64 0]) /\ w' = w := by
 rcases hc_yes k f h with ⟨rfl, rfl⟩ | ⟨rfl, rfl⟩ | ⟨rfl, rfl⟩ | ⟨rfl, h1, h2⟩ | ⟨rfl, rfl⟩
 ·clear h
  go_enter Tryz.func107, Tryz.ntmps107
  go_wp2_with fail
  refine (fieldBounds_any _ _).mono ?_
  rintro e w1 ⟨rfl, rfl⟩
  rw [show fl 1 = 2 from rfl, show fm 1 = 2 from rfl, show fk 1 = true from rfl]
  go_wp2
  go_ret2
  exact ⟨ret_two (by decide +kernel), rfl⟩
 ·clear h
  go_enter Tryz.func107, Tryz.ntmps107
  go_wp2_with fail
  refine (fieldBounds_any _ _).mono ?_
  rintro e w1 ⟨rfl, rfl⟩
  rw [show fl 3 = 2 from rfl, show fm 3 = 2 from rfl, show fk 3 = true from rfl]
  go_wp2
  go_ret2
  exact ⟨ret_two (by decide +kernel), rfl⟩
 ·clear h
  go_enter Tryz.func107, Tryz.ntmps107
  go_wp2_with fail
  refine (fieldBounds_any _ _).mono ?_
  rintro e w1 ⟨rfl, rfl⟩
  rw [show fl 4 = 2 from rfl, show fm 4 = 2 from rfl, show fk 4 = true from rfl]
  go_wp2
  go_ret2
  exact ⟨ret_two (by decide +kernel), rfl⟩
 ·have E : Hid (bits .or .i64 (f * 16) 2 = 16 * f + 2) := head_or 2 f h
  clear h
  go_enter Tryz.func107, Tryz.ntmps107
  go_wp2_with fail
  refine (fieldBounds_any _ _).mono ?_
  rintro e w1 ⟨rfl, rfl⟩
  rw [show fl 2 = 0 from rfl, show fm 2 = 12 from rfl, show fk 2 = true from rfl]
  go_wp2
  go_ret2
  exact ⟨ret_two E.out, rfl⟩
 ·clear h
  go_enter Tryz.func107, Tryz.ntmps107
  go_wp2_with fail
  refine (fieldBounds_any _ _).mono ?_
  rintro e w1 ⟨rfl, rfl⟩
  rw [show fl 5 = 0 from rfl, show fm 5 = 0 from rfl, show fk 5 = true from rfl]
  go_wp2
  go_ret2
  exact ⟨ret_two (by decide +kernel), rfl⟩
theorem head_no1 (k f : Int) (w : World) (h : (k = 1 /\ f < 2) \/ (k = 1 /\ 2 < f) \/ (k = 3 /\ f < 2) \/ (k = 3 /\ 2 < f) \/ (k = 4 /\ f < 2) \/ (k = 4 /\ 2 < f) \/ (k = 2 /\ f < 0) \/ (k = 2 /\ 12 < f) \/ (k = 5 /\ f < 0) \/ (k = 5 /\ 0 < f)) :
  Calls Tryz.prog 107 #[.int .i64 k, .int .i64 f] w fun e w' => e = .returned (.tuple #[.int .i64 0, .int .i64 1]) /\ w' = w := by
 rcases h with ⟨rfl, h⟩ | ⟨rfl, h⟩ | ⟨rfl, h⟩ | ⟨rfl, h⟩ | ⟨rfl, h⟩ | ⟨rfl, h⟩ | ⟨rfl, h⟩ | ⟨rfl, h⟩ | ⟨rfl, h⟩ | ⟨rfl, h⟩
 ·go_enter Tryz.func107, Tryz.ntmps107
  go_wp2_with fail
  refine (fieldBounds_any _ _).mono ?_
  rintro e w1 ⟨rfl, rfl⟩
  rw [show fl 1 = 2 from rfl, show fm 1 = 2 from rfl, show fk 1 = true from rfl]
  go_wp2
  go_ret2
  exact ⟨rfl, rfl⟩
 ·go_enter Tryz.func107, Tryz.ntmps107
  go_wp2_with fail
  refine (fieldBounds_any _ _).mono ?_
  rintro e w1 ⟨rfl, rfl⟩
  rw [show fl 1 = 2 from rfl, show fm 1 = 2 from rfl, show fk 1 = true from rfl]
  go_wp2
  go_ret2
  exact ⟨rfl, rfl⟩
 ·go_enter Tryz.func107, Tryz.ntmps107
  go_wp2_with fail
  refine (fieldBounds_any _ _).mono ?_
  rintro e w1 ⟨rfl, rfl⟩
  rw [show fl 3 = 2 from rfl, show fm 3 = 2 from rfl, show fk 3 = true from rfl]
  go_wp2
  go_ret2
  exact ⟨rfl, rfl⟩
 ·go_enter Tryz.func107, Tryz.ntmps107
  go_wp2_with fail
  refine (fieldBounds_any _ _).mono ?_
  rintro e w1 ⟨rfl, rfl⟩
  rw [show fl 3 = 2 from rfl, show fm 3 = 2 from rfl, show fk 3 = true from rfl]
  go_wp2
  go_ret2
  exact ⟨rfl, rfl⟩
 ·go_enter Tryz.func107, Tryz.ntmps107
  go_wp2_with fail
  refine (fieldBounds_any _ _).mono ?_
  rintro e w1 ⟨rfl, rfl⟩
  rw [show fl 4 = 2 from rfl, show fm 4 = 2 from rfl, show fk 4 = true from rfl]
  go_wp2
  go_ret2
  exact ⟨rfl, rfl⟩
 ·go_enter Tryz.func107, Tryz.ntmps107
  go_wp2_with fail
  refine (fieldBounds_any _ _).mono ?_
  rintro e w1 ⟨rfl, rfl⟩
  rw [show fl 4 = 2 from rfl, show fm 4 = 2 from rfl, show fk 4 = true from rfl]
  go_wp2
  go_ret2
  exact ⟨rfl, rfl⟩
 ·go_enter Tryz.func107, Tryz.ntmps107
  go_wp2_with fail
  refine (fieldBounds_any _ _).mono ?_
  rintro e w1 ⟨rfl, rfl⟩
  rw [show fl 2 = 0 from rfl, show fm 2 = 12 from rfl, show fk 2 = true from rfl]
  go_wp2
  go_ret2
  exact ⟨rfl, rfl⟩
 ·go_enter Tryz.func107, Tryz.ntmps107
  go_wp2_with fail
  refine (fieldBounds_any _ _).mono ?_
  rintro e w1 ⟨rfl, rfl⟩
  rw [show fl 2 = 0 from rfl, show fm 2 = 12 from rfl, show fk 2 = true from rfl]
  go_wp2
  go_ret2
  exact ⟨rfl, rfl⟩
 ·go_enter Tryz.func107, Tryz.ntmps107
  go_wp2_with fail
  refine (fieldBounds_any _ _).mono ?_
  rintro e w1 ⟨rfl, rfl⟩
  rw [show fl 5 = 0 from rfl, show fm 5 = 0 from rfl, show fk 5 = true from rfl]
  go_wp2
  go_ret2
  exact ⟨rfl, rfl⟩
 ·go_enter Tryz.func107, Tryz.ntmps107
  go_wp2_with fail
  refine (fieldBounds_any _ _).mono ?_
  rintro e w1 ⟨rfl, rfl⟩
  rw [show fl 5 = 0 from rfl, show fm 5 = 0 from rfl, show fk 5 = true from rfl]
  go_wp2
  go_ret2
  exact ⟨rfl, rfl⟩
theorem head_no2 (k f : Int) (w : World) (h1 : k ≠ 1) (h2 : k ≠ 2) (h3 : k ≠ 3) (h4 : k ≠ 4) (h5 : k ≠ 5) :
  Calls Tryz.prog 107 #[.int .i64 k, .int .i64 f] w fun e w' => e = .returned (.tuple #[.int .i64 0, .int .i64 2]) /\ w' = w := by
 have e3 : fk k = false := by simp [fk, h1, h2, h3, h4, h5]
 go_enter Tryz.func107, Tryz.ntmps107
 go_wp2_with fail
 refine (fieldBounds_any _ _).mono ?_
 rintro e w1 ⟨rfl, rfl⟩
 go_wp2
 go_ret2
 exact ⟨rfl, rfl⟩
theorem head_any (k f : Int) (w : World) :
  Calls Tryz.prog 107 #[.int .i64 k, .int .i64 f] w fun e w' => e = .returned (.tuple #[.int .i64 (hw k f), .int .i64 (hc k f)]) /\ w' = w := by
 by_cases h : hc k f = 0
 ·rw [hw_yes k f h, h]; exact head_yes k f w h
 ·rw [hw_no k f h]
  rcases hc_no k f h with e | ⟨h1, h2, h3, h4, h5⟩
  ·rw [hc_1 k f e]
   exact head_no1 k f w e
  ·rw [hc_2 k f h1 h2 h3 h4 h5]
   exact head_no2 k f w h1 h2 h3 h4 h5
theorem parts_any (h : Int) (w : World) :
  Calls Tryz.prog 188 #[.int .i64 h] w fun e w' => e = .returned (.tuple #[.int .i64 (pk h), .int .i64 (pf h), .int .i64 (pc h)]) /\ w' = w := by
 have ha := and15 h
 by_cases c : hc (h % 16) (h / 16) = 0
 ·have e1 : pk h = h % 16 := by unfold pk; rw [if_pos c]
  have e2 : pf h = h / 16 := by unfold pf; rw [if_pos c]
  have e3 : pc h = 0 := by unfold pc; rw [if_pos c]
  rw [e1, e2, e3]
  clear e1 e2 e3
  have t : (hc (h % 16) (h / 16) != 0) = false := by simpa using c
  clear c
  go_enter Tryz.func188, Tryz.ntmps188
  go_wp2_with fail
  refine (head_any _ _ _).mono ?_
  rintro e w1 ⟨rfl, rfl⟩
  go_wp2_with fail
  go_ret3
  exact ⟨rfl, rfl⟩
 ·have e1 : pk h = 0 := by unfold pk; rw [if_neg c]
  have e2 : pf h = 0 := by unfold pf; rw [if_neg c]
  have e3 : pc h = 7 := by unfold pc; rw [if_neg c]
  rw [e1, e2, e3]
  clear e1 e2 e3
  have t : (hc (h % 16) (h / 16) != 0) = true := by simpa using c
  clear c
  go_enter Tryz.func188, Tryz.ntmps188
  go_wp2_with fail
  refine (head_any _ _ _).mono ?_
  rintro e w1 ⟨rfl, rfl⟩
  go_wp2_with fail
  go_ret3
  exact ⟨rfl, rfl⟩
end Go.Proofs.YtnalfnlmaallmaaGreat

namespace Go.Proofs.YtnalfnlmaallmaaGreat
open Go.RowKit W
structure At (w : World) (p q N O y g : Nat) (ws : List Int) : Prop where
  hp : w.heap[p]? = some (.cells #[.slice (some ⟨q, 0, none⟩) (N + O) (N + O), .int .i64 0, .int .i64 N, .int .i64 y, .int .i64 N, .int .i64 O, .int .i64 g] 142 (0, 0))
  hq : w.heap[q]? = some (.cells (ws.map (Value.int .i64)).toArray 2 (0, 0))
  hl : ws.length = N + O
  hN : 16 <= N
  hN' : N <= 256
  hO : O <= 1024
  hy : y <= N
  hg : g <= O
structure Sv (p q : Nat) (w w' : World) : Prop where
  os : w'.os = w.os
  tape : w'.tape = w.tape
  output : w'.output = w.output
  size : w.heap.size <= w'.heap.size
  block : ∀ k, k < w.heap.size -> k ≠ p -> k ≠ q -> w'.heap[k]? = w.heap[k]?
theorem lt_of_some {w : World} {k : Nat} {o : Obj} (h : w.heap[k]? = some o) : k < w.heap.size := (Array.getElem?_eq_some_iff.1 h).1
theorem Sv.refl (p q : Nat) (w : World) : Sv p q w w := ⟨rfl, rfl, rfl, Nat.le_refl _, fun _ _ _ _ => rfl⟩
theorem Sv.trans {p q : Nat} {a b c : World} (h : Sv p q a b) (k : Sv p q b c) : Sv p q a c :=
 ⟨k.os.trans h.os, k.tape.trans h.tape, k.output.trans h.output, Nat.le_trans h.size k.size, fun i hi h1 h2 => (k.block i (Nat.lt_of_lt_of_le hi h.size) h1 h2).trans (h.block i hi h1 h2)⟩
theorem Sv.of {p q : Nat} {w w' : World} (h : Below w.heap.size w w') : Sv p q w w' := ⟨h.os, h.tape, h.output, h.size, fun k hk _ _ => h.block k hk⟩
theorem Sv.setp {p q : Nat} {w : World} (o : Nat) (v : Value) : Sv p q w (w.setCell ⟨p, o, none⟩ v) :=
 ⟨rfl, rfl, rfl, by simp [World.setCell], fun k _ h1 _ => Below.heap_setCell _ _ _ _ h1⟩
theorem Sv.setq {p q : Nat} {w : World} (o : Nat) (v : Value) : Sv p q w (w.setCell ⟨q, o, none⟩ v) :=
 ⟨rfl, rfl, rfl, by simp [World.setCell], fun k _ _ h2 => Below.heap_setCell _ _ _ _ h2⟩
theorem Sv.rowq {p q : Nat} {w : World} (cs : Array Value) : Sv p q w (w.setRow q cs) :=
 ⟨rfl, rfl, rfl, by simp [World.setRow], fun k _ _ h2 => setRow_other w q k cs h2⟩
theorem Sv.drew {p q : Nat} {a w : World} (h : Sv p q a w) : Sv p q a w.drew := ⟨h.os, h.tape, h.output, h.size, h.block⟩
theorem Sv.below {p q B : Nat} {w w' : World} (h : Sv p q w w') (hB : B <= w.heap.size) (hp : B <= p) (hq : B <= q) : Below B w w' :=
 ⟨h.os, h.tape, h.output, h.size, fun k hk => h.block k (by omega) (by omega) (by omega)⟩
theorem At.ltp {w : World} {p q N O y g : Nat} {ws : List Int} (h : At w p q N O y g ws) : p < w.heap.size := lt_of_some h.hp
theorem At.ltq {w : World} {p q N O y g : Nat} {ws : List Int} (h : At w p q N O y g ws) : q < w.heap.size := lt_of_some h.hq
theorem At.ne {w : World} {p q N O y g : Nat} {ws : List Int} (h : At w p q N O y g ws) : p ≠ q := by
 intro e
 have h1 := h.hp
 rw [e, h.hq] at h1
 simp at h1
theorem At.same {w w' : World} {p q N O y g : Nat} {ws : List Int} (h : At w p q N O y g ws) (ep : w'.heap[p]? = w.heap[p]?) (eq : w'.heap[q]? = w.heap[q]?) : At w' p q N O y g ws :=
 ⟨ep.trans h.hp, eq.trans h.hq, h.hl, h.hN, h.hN', h.hO, h.hy, h.hg⟩
theorem At.below {w w' : World} {p q N O y g B : Nat} {ws : List Int} (h : At w p q N O y g ws) (hb : Below B w w') (hB : w.heap.size <= B) : At w' p q N O y g ws :=
 h.same (hb.block p (Nat.lt_of_lt_of_le h.ltp hB)) (hb.block q (Nat.lt_of_lt_of_le h.ltq hB))
theorem At.alloc {w : World} {p q N O y g : Nat} {ws : List Int} (h : At w p q N O y g ws) (o : Obj) : At (w.alloc o) p q N O y g ws :=
 h.same (Below.heap_alloc _ _ _ h.ltp) (Below.heap_alloc _ _ _ h.ltq)
theorem At.drew {w : World} {p q N O y g : Nat} {ws : List Int} (h : At w p q N O y g ws) : At w.drew p q N O y g ws := h.same rfl rfl
theorem At.cells {w : World} {p q N O y g : Nat} {ws : List Int} (h : At w p q N O y g ws) :
  w.cell? ⟨p, 0, none⟩ = some (.slice (some ⟨q, 0, none⟩) (N + O) (N + O)) /\ w.cell? ⟨p, 1, none⟩ = some (.int .i64 0) /\ w.cell? ⟨p, 2, none⟩ = some (.int .i64 N) /\ w.cell? ⟨p, 3, none⟩ = some (.int .i64 y) /\
  w.cell? ⟨p, 4, none⟩ = some (.int .i64 N) /\ w.cell? ⟨p, 5, none⟩ = some (.int .i64 O) /\ w.cell? ⟨p, 6, none⟩ = some (.int .i64 g) := by
 have hp := h.hp
 refine ⟨?_, ?_, ?_, ?_, ?_, ?_, ?_⟩ <;> simp [World.cell?, hp]
theorem At.frozen {w : World} {p q N O y g : Nat} {ws : List Int} (h : At w p q N O y g ws) (o : Nat) : w.frozen? ⟨p, o, none⟩ = false := by
 have hp := h.hp
 simp [World.frozen?, hp]
theorem At.frozenq {w : World} {p q N O y g : Nat} {ws : List Int} (h : At w p q N O y g ws) (o : Nat) : w.frozen? ⟨q, o, none⟩ = false := by
 have hq := h.hq
 simp [World.frozen?, hq]
theorem At.word {w : World} {p q N O y g : Nat} {ws : List Int} (h : At w p q N O y g ws) (i : Nat) (hi : i < N + O) : w.cell? ⟨q, i, none⟩ = some (.int .i64 (ws.getD i 0)) := by
 have hq := h.hq
 have hl := h.hl
 simp [World.cell?, hq, List.getElem?_map, List.getElem?_eq_getElem (show i < ws.length by omega), List.getD_eq_getElem?_getD]
theorem At.set {w : World} {p q N O y g : Nat} {ws : List Int} (h : At w p q N O y g ws) (i : Nat) (x : Int) : At (w.setCell ⟨q, i, none⟩ (.int .i64 x)) p q N O y g (ws.set i x) := by
 refine ⟨(Below.heap_setCell _ _ _ _ h.ne).trans h.hp, ?_, by rw [List.length_set]; exact h.hl, h.hN, h.hN', h.hO, h.hy, h.hg⟩
 have hq := h.hq
 simp only [World.setCell, Array.getElem?_modify, if_true, hq, Option.map_some]
 simp [List.map_set]
theorem At.row {w : World} {p q N O y g : Nat} {ws us : List Int} (h : At w p q N O y g ws) (hu : us.length = N + O) : At (w.setRow q (us.map (Value.int .i64)).toArray) p q N O y g us :=
 ⟨(setRow_other w q p _ h.ne).trans h.hp, setRow_heap w q _ _ _ _ h.hq, hu, h.hN, h.hN', h.hO, h.hy, h.hg⟩
theorem At.setY {w : World} {p q N O y g : Nat} {ws : List Int} (h : At w p q N O y g ws) (z : Nat) (hz : z <= N) : At (w.setCell ⟨p, 3, none⟩ (.int .i64 z)) p q N O z g ws := by
 refine ⟨?_, (Below.heap_setCell _ _ _ _ h.ne.symm).trans h.hq, h.hl, h.hN, h.hN', h.hO, hz, h.hg⟩
 have hp := h.hp
 simp only [World.setCell, Array.getElem?_modify, if_true, hp, Option.map_some]
 simp
theorem At.setG {w : World} {p q N O y g : Nat} {ws : List Int} (h : At w p q N O y g ws) (z : Nat) (hz : z <= O) : At (w.setCell ⟨p, 6, none⟩ (.int .i64 z)) p q N O y z ws := by
 refine ⟨?_, (Below.heap_setCell _ _ _ _ h.ne.symm).trans h.hq, h.hl, h.hN, h.hN', h.hO, h.hy, hz⟩
 have hp := h.hp
 simp only [World.setCell, Array.getElem?_modify, if_true, hp, Option.map_some]
 simp
end Go.Proofs.YtnalfnlmaallmaaGreat

namespace Go.Proofs.YtnalfnlmaallmaaGreat
set_option maxRecDepth 100000
set_option maxHeartbeats 400000
open Go.RowKit W
def hB (b u a : Int) : Bool := decide (b <= a /\ a < b + u)
theorem hB_yes {b u a : Int} (h : hB b u a = true) : b <= a /\ a < b + u := by simpa [hB] using h
def iB (N y g : Nat) (a : Int) : Bool := hB 0 y a || hB N g a
def ld (N y g : Nat) (ws : List Int) (a : Int) : Int := if iB N y g a = true then ws.getD a.toNat 0 else 0
theorem iB_bd {N O y g : Nat} {a : Int} (h : iB N y g a = true) (hy : y <= N) (hg : g <= O) : 0 <= a /\ a < (N : Int) + O := by
 unfold iB at h
 rcases Bool.or_eq_true _ _ ▸ h with h | h
 ·have := hB_yes h; omega
 ·have := hB_yes h; omega
theorem end_any (b s u : Int) (w : World) (hb : 0 <= b) (hb' : b <= 100000) (hu : 0 <= u) (hu' : u <= 100000) :
  Calls Tryz.prog 180 #[.agg #[.int .i64 b, .int .i64 s, .int .i64 u]] w fun e w' => e = .returned (.int .i64 (b + u)) /\ Below w.heap.size w w' := by
 go_enter Tryz.func180, Tryz.ntmps180
 go_wp2
 go_ret
 exact ⟨rfl, (Below.refl _ _).alloc (Nat.le_refl _) _⟩
theorem free_any (b s u : Int) (w : World) (hb : 0 <= s) (hb' : s <= 100000) (hu : 0 <= u) (hu' : u <= 100000) :
  Calls Tryz.prog 123 #[.agg #[.int .i64 b, .int .i64 s, .int .i64 u]] w fun e w' => e = .returned (.int .i64 (s - u)) /\ Below w.heap.size w w' := by
 go_enter Tryz.func123, Tryz.ntmps123
 go_wp2
 go_ret
 exact ⟨rfl, (Below.refl _ _).alloc (Nat.le_refl _) _⟩
theorem holds_any (b s u a : Int) (w : World) (hb : 0 <= b) (hb' : b <= 100000) (hu : 0 <= u) (hu' : u <= 100000) :
  Calls Tryz.prog 184 #[.agg #[.int .i64 b, .int .i64 s, .int .i64 u], .int .i64 a] w fun e w' => e = .returned (.bool (hB b u a)) /\ Below w.heap.size w w' := by
 by_cases h : b <= a
 ·have e : hB b u a = decide (a < b + u) := by simp [hB, h]
  rw [e]
  clear e
  go_enter Tryz.func184, Tryz.ntmps184
  go_wp2_with fail
  refine (end_any b s u _ hb hb' hu hu').mono ?_
  rintro e w1 ⟨rfl, hb1⟩
  go_wp2_with fail
  go_ret
  exact ⟨rfl, ((Below.refl _ _).alloc (Nat.le_refl _) _).trans (hb1.mono (by simp))⟩
 ·have e : hB b u a = false := by simp [hB, h]
  rw [e]
  clear e
  go_enter Tryz.func184, Tryz.ntmps184
  go_wp2_with fail
  go_ret
  exact ⟨rfl, (Below.refl _ _).alloc (Nat.le_refl _) _⟩
theorem young_any {p q N O y g : Nat} {ws : List Int} (a : Int) (w : World) (h : At w p q N O y g ws) :
  Calls Tryz.prog 113 #[.pointer (some ⟨p, 0, none⟩), .int .i64 a] w fun e w' => e = .returned (.bool (hB 0 y a)) /\ Below w.heap.size w w' := by
 obtain ⟨c0, c1, c2, c3, c4, c5, c6⟩ := h.cells
 have k1 := h.hN'
 have k2 := h.hy
 go_enter Tryz.func113, Tryz.ntmps113
 go_wp2_with fail
 refine (holds_any 0 N y a _ (by omega) (by omega) (by omega) (by omega)).mono ?_
 rintro e w1 ⟨rfl, hb1⟩
 go_wp2_with fail
 go_ret
 exact ⟨rfl, hb1⟩
theorem old_any {p q N O y g : Nat} {ws : List Int} (a : Int) (w : World) (h : At w p q N O y g ws) :
  Calls Tryz.prog 114 #[.pointer (some ⟨p, 0, none⟩), .int .i64 a] w fun e w' => e = .returned (.bool (hB N g a)) /\ Below w.heap.size w w' := by
 obtain ⟨c0, c1, c2, c3, c4, c5, c6⟩ := h.cells
 have k1 := h.hN'
 have k2 := h.hO
 have k3 := h.hg
 go_enter Tryz.func114, Tryz.ntmps114
 go_wp2_with fail
 refine (holds_any N O g a _ (by omega) (by omega) (by omega) (by omega)).mono ?_
 rintro e w1 ⟨rfl, hb1⟩
 go_wp2_with fail
 go_ret
 exact ⟨rfl, hb1⟩
theorem inUse_any {p q N O y g : Nat} {ws : List Int} (a : Int) (w : World) (h : At w p q N O y g ws) :
  Calls Tryz.prog 182 #[.pointer (some ⟨p, 0, none⟩), .int .i64 a] w fun e w' => e = .returned (.bool (iB N y g a)) /\ Below w.heap.size w w' := by
 cases hy : hB 0 y a
 ·have e : iB N y g a = hB N g a := by simp [iB, hy]
  rw [e]
  clear e
  have HY : Hid (hB 0 y a = false) := hy
  clear hy
  go_enter Tryz.func182, Tryz.ntmps182
  go_wp2_with fail
  refine (young_any a _ h).mono ?_
  rintro e w1 ⟨rfl, hb1⟩
  rw [HY.out]
  go_wp2_with fail
  refine (old_any a _ (h.below hb1 (Nat.le_refl _))).mono ?_
  rintro e w2 ⟨rfl, hb2⟩
  go_wp2_with fail
  go_ret
  exact ⟨rfl, hb1.trans (hb2.mono hb1.size)⟩
 ·have e : iB N y g a = true := by simp [iB, hy]
  rw [e]
  clear e
  have HY : Hid (hB 0 y a = true) := hy
  clear hy
  go_enter Tryz.func182, Tryz.ntmps182
  go_wp2_with fail
  refine (young_any a _ h).mono ?_
  rintro e w1 ⟨rfl, hb1⟩
  rw [HY.out]
  go_wp2_with fail
  go_ret
  exact ⟨rfl, hb1⟩
theorem load_any {p q N O y g : Nat} {ws : List Int} (a : Int) (w : World) (h : At w p q N O y g ws) :
  Calls Tryz.prog 116 #[.pointer (some ⟨p, 0, none⟩), .int .i64 a] w fun e w' => e = .returned (.int .i64 (ld N y g ws a)) /\ Below w.heap.size w w' := by
 cases hi : iB N y g a
 ·have e : ld N y g ws a = 0 := by simp [ld, hi]
  rw [e]
  clear e
  have HI : Hid (iB N y g a = false) := hi
  clear hi
  go_enter Tryz.func116, Tryz.ntmps116
  go_wp2_with fail
  refine (inUse_any a _ h).mono ?_
  rintro e w1 ⟨rfl, hb1⟩
  rw [HI.out]
  go_wp2_with fail
  go_ret
  exact ⟨rfl, hb1⟩
 ·have e : ld N y g ws a = ws.getD a.toNat 0 := by simp [ld, hi]
  rw [e]
  clear e
  obtain ⟨d1, d2⟩ := iB_bd hi h.hy h.hg
  have HI : Hid (iB N y g a = true) := hi
  clear hi
  go_enter Tryz.func116, Tryz.ntmps116
  go_wp2_with fail
  refine (inUse_any a _ h).mono ?_
  rintro e w1 ⟨rfl, hb1⟩
  rw [HI.out]
  have h1 := h.below hb1 (Nat.le_refl _)
  obtain ⟨c0, c1, c2, c3, c4, c5, c6⟩ := h1.cells
  have cw := h1.word a.toNat (by omega)
  have d3 : a < ((N + O : Nat) : Int) := by omega
  go_wp2_with fail
  go_ret
  exact ⟨rfl, hb1⟩
theorem store_any {p q N O y g : Nat} {ws : List Int} (a x : Int) (w : World) (h : At w p q N O y g ws) :
  Calls Tryz.prog 111 #[.pointer (some ⟨p, 0, none⟩), .int .i64 a, .int .i64 x] w fun e w' => e = .returned (.bool (iB N y g a)) /\ At w' p q N O y g (if iB N y g a = true then ws.set a.toNat x else ws) /\ Sv p q w w' := by
 cases hi : iB N y g a
 ·rw [if_neg (by simp)]
  have HI : Hid (iB N y g a = false) := hi
  clear hi
  go_enter Tryz.func111, Tryz.ntmps111
  go_wp2_with fail
  refine (inUse_any a _ h).mono ?_
  rintro e w1 ⟨rfl, hb1⟩
  rw [HI.out]
  go_wp2_with fail
  go_ret
  exact ⟨rfl, h.below hb1 (Nat.le_refl _), Sv.of hb1⟩
 ·rw [if_pos rfl]
  obtain ⟨d1, d2⟩ := iB_bd hi h.hy h.hg
  have HI : Hid (iB N y g a = true) := hi
  clear hi
  go_enter Tryz.func111, Tryz.ntmps111
  go_wp2_with fail
  refine (inUse_any a _ h).mono ?_
  rintro e w1 ⟨rfl, hb1⟩
  rw [HI.out]
  have h1 := h.below hb1 (Nat.le_refl _)
  obtain ⟨c0, c1, c2, c3, c4, c5, c6⟩ := h1.cells
  have cw := h1.word a.toNat (by omega)
  have cf := h1.frozenq a.toNat
  have d3 : a < ((N + O : Nat) : Int) := by omega
  go_wp2_with fail
  go_ret
  exact ⟨rfl, h1.set a.toNat x, (Sv.of hb1).trans (Sv.setq _ _)⟩
theorem thing_any {p q N O y g : Nat} {ws : List Int} (a : Int) (w : World) (h : At w p q N O y g ws) :
  Calls Tryz.prog 120 #[.pointer (some ⟨p, 0, none⟩), .int .i64 a] w fun e w' => e = .returned (.tuple #[.int .i64 (pk (ld N y g ws a)), .int .i64 (pf (ld N y g ws a)), .int .i64 (pc (ld N y g ws a))]) /\ Below w.heap.size w w' := by
 go_enter Tryz.func120, Tryz.ntmps120
 go_wp2_with fail
 refine (load_any a _ h).mono ?_
 rintro e w1 ⟨rfl, hb1⟩
 go_wp2_with fail
 refine (parts_any _ _).mono ?_
 rintro e w2 ⟨rfl, rfl⟩
 go_wp2_with fail
 go_ret3
 exact ⟨rfl, hb1⟩
theorem used_any {p q N O y g : Nat} {ws : List Int} (w : World) (h : At w p q N O y g ws) :
  Calls Tryz.prog 27 #[.pointer (some ⟨p, 0, none⟩)] w fun e w' => e = .returned (.tuple #[.int .i64 y, .int .i64 g]) /\ Below w.heap.size w w' := by
 obtain ⟨c0, c1, c2, c3, c4, c5, c6⟩ := h.cells
 go_enter Tryz.func27, Tryz.ntmps27
 go_wp2_with fail
 go_quiet (fail)
 go_wp2_with fail
 go_ret2
 exact ⟨rfl, below_drewN (Below.refl _ _) _⟩
theorem bounds_any {p q N O y g : Nat} {ws : List Int} (w : World) (h : At w p q N O y g ws) :
  Calls Tryz.prog 104 #[.pointer (some ⟨p, 0, none⟩)] w fun e w' => e = .returned (.tuple #[.int .i64 0, .int .i64 N]) /\ Below w.heap.size w w' := by
 obtain ⟨c0, c1, c2, c3, c4, c5, c6⟩ := h.cells
 go_enter Tryz.func104, Tryz.ntmps104
 go_wp2_with fail
 go_quiet (fail)
 go_wp2_with fail
 go_ret2
 exact ⟨rfl, below_drewN (Below.refl _ _) _⟩
end Go.Proofs.YtnalfnlmaallmaaGreat
