/- Joined: Wr4, Wr6, Wr7, Wr10. -/
import Derived.Test.YtalgochmjddodaaGreatJ25
import Derived.Test.YtalgochmjddodaaGreatJ11
import Derived.Test.YtalgochmjddodaaGreatJ13
import Derived.Deep.RegionHeld3
import Derived.Deep.AppendLies
namespace Go.Proofs.YtalgochmjddodaaGreat
set_option maxRecDepth 100000
set_option maxHeartbeats 1000000
open Go.RowKit W Kp Stl
section
variable {rp rb : Nat} {most grow : Int} {F : Nat -> Prop} {s : Wrs} {w : World}
def Wrs.th (s : Wrs) (i : Nat) : Int := if (s.rs.getD i (0, 0)).1 = 3 then (s.rs.getD i (0, 0)).2 else -1
def Wrs.gd (s : Wrs) (i : Nat) : Int := if s.th i < 0 then -1 else if (s.T.getD (s.th i).toNat (0, [], false, false)).1 = 5 then s.th i else -1
theorem thingW_any (h : (wrO rp rb most grow).J F s w) (i : Nat) (hi : i < 12) :
  Calls Tryz.prog 90 #[.pointer (some ⟨rp, 0, none⟩), .int .i64 i] w fun e w' => e = .returned (.int .i64 (s.th i)) /\ w' = w := by
 obtain ⟨c1, _, _, _, _, _, _, cr⟩ := wr_cells h
 obtain ⟨x0, x1, _⟩ := cr i hi
 have E : Hid (s.th i = if (s.rs.getD i (0, 0)).1 = 3 then (s.rs.getD i (0, 0)).2 else -1) := rfl
 generalize s.th i = z at E ⊢
 generalize (s.rs.getD i (0, 0)).1 = k at x0 E
 generalize (s.rs.getD i (0, 0)).2 = n at x1 E
 have i0 : (0 : Int) <= (i : Int) := by omega
 have i1 : (i : Int) < 12 := by omega
 clear h cr
 by_cases hk : k = 3
 ·subst hk
  have E2 : Hid (z = n) := E.out
  go_enter Tryz.func90, Tryz.ntmps90
  go_wp2_with fail
  go_ret
  rw [E2.out]
  exact ⟨rfl, rfl⟩
 ·have E2 : Hid (z = -1) := E.out.trans (if_neg hk)
  have hk2 : ¬ 3 = k := fun e => hk e.symm
  go_enter Tryz.func90, Tryz.ntmps90
  go_wp2_with fail
  go_ret
  rw [E2.out]
  exact ⟨rfl, rfl⟩
theorem guardW_any (h : (wrO rp rb most grow).J F s w) (i : Nat) (hi : i < 12) (hr : 0 <= s.th i -> s.th i < s.T.length) :
  Calls Tryz.prog 91 #[.pointer (some ⟨rp, 0, none⟩), .int .i64 i] w fun e w' => e = .returned (.int .i64 (s.gd i)) /\ w' = w := by
 have P := thingW_any h i hi
 obtain ⟨aT, cT, c0, _, cx⟩ := wr_things h
 have E : Hid (s.gd i = if s.th i < 0 then -1 else if (s.T.getD (s.th i).toNat (0, [], false, false)).1 = 5 then s.th i else -1) := rfl
 generalize s.gd i = z at E ⊢
 generalize s.th i = a at P E hr
 clear h
 by_cases ha : a < 0
 ·have E2 : Hid (z = -1) := E.out.trans (if_pos ha)
  clear cx
  go_enter Tryz.func91, Tryz.ntmps91
  go_wp2_with fail
  refine P.mono ?_
  rintro e w1 ⟨rfl, rfl⟩
  go_wp2_with fail
  go_ret
  rw [E2.out]
  exact ⟨rfl, rfl⟩
 ·obtain ⟨j, rfl⟩ : ∃ j : Nat, a = j := ⟨a.toNat, by omega⟩
  have hj := hr (by omega)
  have hlt : j < s.T.length := by omega
  obtain ⟨t, ht⟩ : ∃ t, s.T[j]? = some t := ⟨_, List.getElem?_eq_getElem hlt⟩
  obtain ⟨b, ad, cp, rfl, x0, _⟩ := cx j t ht
  have E2 : Hid (z = if t.1 = 5 then (j : Int) else -1) := by
   show _ = _
   rw [E.out, if_neg ha, Int.toNat_natCast, List.getD_eq_getElem?_getD, ht]
   rfl
  generalize t.1 = k at x0 E2
  have j0 : (0 : Int) <= (j : Int) := by omega
  have jn : decide ((j : Int) < 0) = false := by simp
  clear cx ht E hr
  by_cases hk : k = 5
  ·subst hk
   have E3 : Hid (z = j) := E2.out
   go_enter Tryz.func91, Tryz.ntmps91
   go_wp2_with fail
   refine P.mono ?_
   rintro e w1 ⟨rfl, hw1⟩
   have hw1 := hw1.symm
   subst hw1
   go_wp2_with fail
   go_ret
   rw [E3.out]
   exact ⟨rfl, rfl⟩
  ·have E3 : Hid (z = -1) := E2.out.trans (if_neg hk)
   have hk2 : (k != 5) = true := by simpa using hk
   go_enter Tryz.func91, Tryz.ntmps91
   go_wp2_with fail
   refine P.mono ?_
   rintro e w1 ⟨rfl, hw1⟩
   have hw1 := hw1.symm
   subst hw1
   go_wp2_with fail
   go_ret
   rw [E3.out]
   exact ⟨rfl, rfl⟩
end
theorem fits_any (k f : Int) (w : World) : Calls Tryz.prog 112 #[.int .i64 k, .int .i64 f] w fun e w' => e = .returned (.int .i64 (hc k f)) /\ w' = w := by
 by_cases h1 : k = 1
 ·subst h1
  by_cases h2 : f = 2
  ·subst h2
   go_enter Tryz.func112, Tryz.ntmps112
   go_wp2_with fail
   go_ret
   exact ⟨rfl, rfl⟩
  ·have e : hc 1 f = 1 := by simp [hc, h2]
   rw [e]
   go_enter Tryz.func112, Tryz.ntmps112
   go_wp2_with fail
   go_ret
   exact ⟨rfl, rfl⟩
 by_cases h3 : k = 3
 ·subst h3
  by_cases h2 : f = 2
  ·subst h2
   go_enter Tryz.func112, Tryz.ntmps112
   go_wp2_with fail
   go_ret
   exact ⟨rfl, rfl⟩
  ·have e : hc 3 f = 1 := by simp [hc, h2]
   rw [e]
   go_enter Tryz.func112, Tryz.ntmps112
   go_wp2_with fail
   go_ret
   exact ⟨rfl, rfl⟩
 by_cases h4 : k = 4
 ·subst h4
  by_cases h2 : f = 2
  ·subst h2
   go_enter Tryz.func112, Tryz.ntmps112
   go_wp2_with fail
   go_ret
   exact ⟨rfl, rfl⟩
  ·have e : hc 4 f = 1 := by simp [hc, h2]
   rw [e]
   go_enter Tryz.func112, Tryz.ntmps112
   go_wp2_with fail
   go_ret
   exact ⟨rfl, rfl⟩
 by_cases h5 : k = 5
 ·subst h5
  by_cases h2 : f = 0
  ·subst h2
   go_enter Tryz.func112, Tryz.ntmps112
   go_wp2_with fail
   go_ret
   exact ⟨rfl, rfl⟩
  ·have e : hc 5 f = 1 := by simp [hc, h2]
   rw [e]
   go_enter Tryz.func112, Tryz.ntmps112
   go_wp2_with fail
   go_ret
   exact ⟨rfl, rfl⟩
 by_cases h2 : k = 2
 ·subst h2
  by_cases a : f < 0
  ·have e : hc 2 f = 1 := by simp [hc, a]
   rw [e]
   go_enter Tryz.func112, Tryz.ntmps112
   go_wp2_with fail
   go_ret
   exact ⟨rfl, rfl⟩
  ·by_cases b : 12 < f
   ·have e : hc 2 f = 1 := by simp [hc, b]
    rw [e]
    go_enter Tryz.func112, Tryz.ntmps112
    go_wp2_with fail
    go_ret
    exact ⟨rfl, rfl⟩
   ·have e : hc 2 f = 0 := by simp [hc, a, b]
    rw [e]
    go_enter Tryz.func112, Tryz.ntmps112
    go_wp2_with fail
    go_ret
    exact ⟨rfl, rfl⟩
 have e : hc k f = 2 := by simp [hc, h1, h2, h3, h4, h5]
 rw [e]
 have g1 : (k == 1) = false := by simpa using h1
 have g2 : (k == 2) = false := by simpa using h2
 have g3 : (k == 3) = false := by simpa using h3
 have g4 : (k == 4) = false := by simpa using h4
 have g5 : (k == 5) = false := by simpa using h5
 go_enter Tryz.func112, Tryz.ntmps112
 go_wp2_with fail
 go_ret
 exact ⟨rfl, rfl⟩
theorem row_whole {w : World} {b k n size : Nat} {T : TypeId} {xs : List Value} (h : w.ownsRow b T size (.slice (some ⟨k, 0, none⟩) n n) n xs) : w.heap[k]? = some (.cells xs.toArray T (0, 0)) := by
 obtain ⟨h1, h2⟩ := h
 rcases h2 with ⟨e, _⟩ | ⟨k', cap, cur, hv, hb, hh, h3, h4, h5, h6⟩
 ·cases e
 ·cases hv
  rw [hh]
  have : cur.toList = xs := by
   rw [<- List.take_of_length_le (l := cur.toList) (i := n * size) (by simp; omega), h6]
  rw [<- this]
theorem newWorld_any (n o : Int) (w : World) : Calls Tryz.prog 29 #[.int .i64 n, .int .i64 o] w fun e w' => ∃ rp rb F, e = .returned (.pointer (some ⟨rp, 0, none⟩)) /\ (wrO rp rb n o).J F ⟨[], List.replicate 12 (0, 0), [], []⟩ w' /\ (∀ b, F b -> w.heap.size <= b) /\ Below w.heap.size w w' := by
  obtain ⟨i0, hi, hz0, hz1, hz2⟩ := info_parts infoVal
  go_enter Tryz.func29, Tryz.ntmps29
  go_wp2_with (at_make; refine wpList_make_full _ rfl _ _ 49 rfl w.heap.size 95 i0 (.agg #[.int .i64 0, .int .i64 0]) 2 Tryz.underlying49 hi hz0 hz1 .i64 .i64 _ _ 12 rfl rfl (by omega) (by omega) (by rw [hz2]; omega) (by unfold maxLen; omega) (by simp) ?_; intro w1 hown hgrow)
  go_ret
  have hr := row_whole hown
  have em : (madeCells (Value.agg #[.int .i64 0, .int .i64 0]).cells (12 * 2)).toList = ev (List.replicate 12 (0, 0)) := by kernel_rfl
  rw [em] at hr
  have hlt := lt_of_some hr
  have hb1 : Below w.heap.size w w1 := (Below.refl _ _).grown hgrow (Nat.le_refl _) (fun _ h => by cases h)
  have hnew := heap_alloc_new w1 (.cells #[.slice none 0 0, .slice (some ⟨w.heap.size, 0, none⟩) 12 12, .slice none 0 0, .slice none 0 0, .int .i64 n, .int .i64 o] 117)
  refine ⟨w1.heap.size, w.heap.size, fun b => b = w1.heap.size \/ b = w.heap.size, rfl, ⟨fun b => if b = w1.heap.size then 1 else if b = w.heap.size then 4 else 0, [], .slice none 0 0, .slice none 0 0, .slice none 0 0, ?_, fun b => ?_⟩, fun b hb => by omega, hb1.alloc (by omega) _⟩
  · exact { blk := hnew, b1 := by rw [if_pos rfl], row := World.ownsRow_nil _ _ _ _, ro := fun b e => by simp [Value.ownBlock] at e, nd := rfl, fl := fun x hx => by simp at hx
            rt := (Below.heap_alloc _ _ _ hlt).trans hr
            rl := rfl
            r1 := by rw [if_neg (by omega), if_pos rfl]
            g2 := World.ownsRow_nil _ _ _ _, g2o := fun b e => by simp [Value.ownBlock] at e
            g3 := World.ownsRow_nil _ _ _ _, g3o := fun b e => by simp [Value.ownBlock] at e
            lt := fun b hb => by
              simp only [World.size_alloc]
              by_cases c1 : b = w1.heap.size
              · omega
              · by_cases c2 : b = w.heap.size
                · omega
                · rw [if_neg c1, if_neg c2] at hb
                  exact absurd rfl hb }
  · by_cases c1 : b = w1.heap.size
    · simp [c1]
    · by_cases c2 : b = w.heap.size
      · simp [c2, show ¬ w.heap.size = w1.heap.size by omega]
      · simp [c1, c2]
end Go.Proofs.YtalgochmjddodaaGreat

namespace Go.Proofs.YtalgochmjddodaaGreat
set_option maxRecDepth 100000
set_option maxHeartbeats 1000000
open Go.RowKit W Kp Stl
def usO (k : Int) : Int := if k = 1 then 1 else if k = 2 then 1 else if k = 9 then 6 else if k = 11 then 3 else 6
theorem usesOf_any (k : Int) (hk : k = 1 \/ k = 2 \/ k = 9 \/ k = 11 \/ k = 12) (w : World) : Calls Tryz.prog 94 #[.int .i64 k] w fun e w' => e = .returned (.int .i64 (usO k)) /\ w' = w := by
 rcases hk with rfl | rfl | rfl | rfl | rfl
 all_goals
  go_enter Tryz.func94, Tryz.ntmps94
  go_wp2_with fail
  go_ret
  exact ⟨rfl, rfl⟩
def sfC (k n : Int) : Int := if k = 1 then rc n (-1152921504606846976) else 0
theorem sfC_lo (k n : Int) (h : n < -1152921504606846976) : sfC k n = if k = 1 then 1 else 0 := by unfold sfC rc; rw [if_pos h]
theorem sfC_hi (k n : Int) (h : 1152921504606846976 <= n) : sfC k n = if k = 1 then 1 else 0 := by
 unfold sfC rc
 by_cases hk : k = 1
 ·rw [if_pos hk, if_pos hk, if_neg (by omega), if_pos h]
 ·rw [if_neg hk, if_neg hk]
theorem sfC_ok (k n : Int) (h1 : -1152921504606846976 <= n) (h2 : n < 1152921504606846976) : sfC k n = 0 := by
 unfold sfC rc
 by_cases hk : k = 1
 ·rw [if_pos hk, if_neg (by omega), if_neg (by omega)]
 ·rw [if_neg hk]
theorem stepFault_any (k R A B I n : Int) (hk : k = 1 \/ k = 2 \/ k = 9 \/ k = 11 \/ k = 12) (hR : 0 <= R /\ R < 12) (hA : 0 <= A /\ A < 12) (hB : 0 <= B /\ B < 12) (w : World) :
  Calls Tryz.prog 36 #[.agg #[.int .i64 k, .int .i64 R, .int .i64 A, .int .i64 B, .int .i64 I, .int .i64 n]] w fun e w' => e = .returned (.int .i64 (sfC k n)) /\ Below w.heap.size w w' := by
 obtain ⟨r0, r1⟩ := hR
 obtain ⟨a0, a1⟩ := hA
 obtain ⟨b0, b1⟩ := hB
 have U := usesOf_any k hk
 have hb0 := (Below.refl w.heap.size w).alloc (Nat.le_refl _) (.cells #[.int .i64 k, .int .i64 R, .int .i64 A, .int .i64 B, .int .i64 I, .int .i64 n] 65)
 rcases hk with rfl | rfl | rfl | rfl | rfl
 all_goals
  go_enter Tryz.func36, Tryz.ntmps36
  go_wp2_with fail
  refine (U _).mono ?_
  rintro e w1 ⟨rfl, rfl⟩
  simp only [usO]
  go_wp2_with fail
  go_loopw [5] (fun iv wr => ∃ (j : Nat), j <= 3 /\ iv = .int .i64 j /\ wr = (w.alloc (.cells #[.int .i64 _, .int .i64 R, .int .i64 A, .int .i64 B, .int .i64 I, .int .i64 n] 65)).alloc (.cells #[.int .i64 R, .int .i64 A, .int .i64 B] 3)) (fun iv _ => 3 - (intOf iv).toNat)
  case atStart => exact ⟨0, by omega, rfl, rfl⟩
  case round =>
   obtain ⟨j, hj, rfl, rfl⟩ := hrel
   by_cases hlt : j < 3
   ·rcases (show j = 0 \/ j = 1 \/ j = 2 by omega) with rfl | rfl | rfl
    all_goals
     go_wp2_with fail
     go_roundw
     case rel => first | exact ⟨1, by decide, rfl, trivial⟩ | exact ⟨2, by decide, rfl, trivial⟩ | exact ⟨3, by decide, rfl, trivial⟩
     case measure => simp [intOf]
   ·obtain rfl : j = 3 := by omega
    by_cases h1 : n < -1152921504606846976
    ·have H1 : Hid (n < -1152921504606846976) := h1
     have h2 : ¬ 1152921504606846976 <= n := by omega
     go_wp2_with fail
     go_ret
     exact ⟨by rw [sfC_lo _ _ H1.out]; rfl, hb0.alloc (by simp) _⟩
    ·have H1 : Hid (-1152921504606846976 <= n) := by show _ <= _; omega
     by_cases h2 : 1152921504606846976 <= n
     ·have H2 : Hid (1152921504606846976 <= n) := h2
      clear H1
      go_wp2_with fail
      go_ret
      exact ⟨by rw [sfC_hi _ _ H2.out]; rfl, hb0.alloc (by simp) _⟩
     ·have H2 : Hid (n < 1152921504606846976) := by show _ < _; omega
      go_wp2_with fail
      go_ret
      exact ⟨by first | (rw [sfC_ok _ _ H1.out H2.out]; rfl) | rw [sfC_ok _ _ H1.out H2.out], hb0.alloc (by simp) _⟩
end Go.Proofs.YtalgochmjddodaaGreat

namespace Go.Proofs.YtalgochmjddodaaGreat
set_option maxRecDepth 100000
set_option maxHeartbeats 1000000
open Go.RowKit W Kp Stl
abbrev stpV (k R A B I n : Int) : Value := .agg #[.int .i64 k, .int .i64 R, .int .i64 A, .int .i64 B, .int .i64 I, .int .i64 n]
abbrev stpC (k R A B I n : Int) : Obj := .cells #[.int .i64 k, .int .i64 R, .int .i64 A, .int .i64 B, .int .i64 I, .int .i64 n] 65
def Wrs.gc (s : Wrs) (A : Nat) (I : Int) : Int := if s.th A < 0 \/ (s.T.getD (s.th A).toNat (0, [], false, false)).1 = 5 then 2 else if I < 0 \/ ((s.T.getD (s.th A).toNat (0, [], false, false)).2.1.length : Int) <= I then 1 else 0
def Wrs.gf (s : Wrs) (A : Nat) (I : Int) : Int × Int := (s.T.getD (s.th A).toNat (0, [], false, false)).2.1.getD I.toNat (0, 0)
section
variable {rp rb : Nat} {most grow : Int} {F : Nat -> Prop} {s : Wrs} {w : World}
theorem wr_ne (h : (wrO rp rb most grow).J F s w) : rb ≠ rp /\ F rb /\ F rp := by
 obtain ⟨own, m2, vT2, v22, v32, hM, hF⟩ := h
 refine ⟨fun e => ?_, (hF rb).2 (by rw [hM.r1]; decide), (hF rp).2 (by rw [hM.b1]; decide)⟩
 have h1 := hM.r1
 rw [e, hM.b1] at h1
 omega
theorem doInt_any (h : (wrO rp rb most grow).J F s w) (R : Nat) (hR : R < 12) (n : Int) :
  Calls Tryz.prog 31 #[.pointer (some ⟨rp, 0, none⟩), stpV 1 R 0 0 0 n] w fun e w' => e = .returned (.int .i64 (rc n (-1152921504606846976))) /\ (wrO rp rb most grow).J F (if rc n (-1152921504606846976) = 0 then { s with rs := s.rs.set R (1, n) } else s) w' /\ Tn F w F w' := by
 have hb0 := (Below.refl w.heap.size w).alloc (Nat.le_refl _) (stpC 1 R 0 0 0 n)
 have P := stepFault_any 1 R 0 0 0 n (Or.inl rfl) ⟨by omega, by omega⟩ ⟨by omega, by omega⟩ ⟨by omega, by omega⟩ (w.alloc (stpC 1 R 0 0 0 n))
 have e1 : sfC 1 n = rc n (-1152921504606846976) := rfl
 rw [e1] at P
 have HJ : Hid ((wrO rp rb most grow).J F s w /\ Below w.heap.size w (w.alloc (stpC 1 R 0 0 0 n))) := ⟨h, hb0⟩
 have hrc : rc n (-1152921504606846976) = 0 \/ rc n (-1152921504606846976) = 1 := by
  unfold rc
  split
  ·exact Or.inr rfl
  ·split
   ·exact Or.inr rfl
   ·exact Or.inl rfl
 clear h hb0 e1
 rcases hrc with hz | hz
 ·rw [hz] at P ⊢
  rw [if_pos rfl]
  clear hz
  go_enter Tryz.func31, Tryz.ntmps31
  go_wp2_with fail
  refine P.mono ?_
  clear P
  rintro e w1 ⟨rfl, hb1⟩
  have hb := HJ.out.2.trans (hb1.mono (by simp))
  have hJ1 := (wrO rp rb most grow).below HJ.out.1 hb
  have hx : w1.heap[w.heap.size]? = some (stpC 1 R 0 0 0 n) := (hb1.block _ (by simp)).trans (heap_alloc_new _ _)
  have q0 : w1.cell? ⟨w.heap.size, 0, none⟩ = some (.int .i64 1) := by simp [World.cell?, hx]
  have q1 : w1.cell? ⟨w.heap.size, 1, none⟩ = some (.int .i64 R) := by simp [World.cell?, hx]
  have q5 : w1.cell? ⟨w.heap.size, 5, none⟩ = some (.int .i64 n) := by simp [World.cell?, hx]
  obtain ⟨c1, _, _, lrp, lrb, cz, hrl, cr⟩ := wr_cells hJ1
  obtain ⟨x0, x1, y0, y1⟩ := cr R hR
  obtain ⟨nrb, hFb, hFp⟩ := wr_ne hJ1
  have lb := (wrO rp rb most grow).lt HJ.out.1 rb hFb
  have lp := (wrO rp rb most grow).lt HJ.out.1 rp hFp
  have nx1 : rb ≠ w.heap.size := by omega
  have nx2 : rp ≠ w.heap.size := by omega
  have HJ1 : Hid ((wrO rp rb most grow).J F s w1 /\ Tn F w F w1) := ⟨hJ1, Tn.of hb⟩
  have r0 : (0 : Int) <= (R : Int) := by omega
  have r1 : (R : Int) < 12 := by omega
  clear hJ1 hb hb1 hx cr cz HJ
  go_wp2_with fail
  go_region_held3 (fun w' => w'.cell? ⟨rp, 1, none⟩ = some (.slice (some ⟨rb, 0, none⟩) 12 12) /\ w'.cell? ⟨w.heap.size, 1, none⟩ = some (.int .i64 R) /\ w'.cell? ⟨w.heap.size, 5, none⟩ = some (.int .i64 n)) (go_keep) (fail)
  obtain ⟨hJ2, hT2⟩ := wr_root HJ1.out.1 R (1, n)
  have HJ2 : Hid (_ /\ _) := ⟨(wrO rp rb most grow).below hJ2 (Below.refl _ _).drew, (HJ1.out.2.trans hT2).below (Below.refl _ _).drew⟩
  clear hJ2 hT2
  go_wp2_with fail
  go_ret
  exact ⟨rfl, HJ2.out.1, HJ2.out.2⟩
 ·rw [hz] at P ⊢
  rw [if_neg (by decide)]
  clear hz
  go_enter Tryz.func31, Tryz.ntmps31
  go_wp2_with fail
  refine P.mono ?_
  clear P
  rintro e w1 ⟨rfl, hb1⟩
  have hb := HJ.out.2.trans (hb1.mono (by simp))
  go_wp2_with fail
  go_ret
  exact ⟨rfl, (wrO rp rb most grow).below HJ.out.1 hb, Tn.of hb⟩
theorem doNil_any (h : (wrO rp rb most grow).J F s w) (R : Nat) (hR : R < 12) :
  Calls Tryz.prog 31 #[.pointer (some ⟨rp, 0, none⟩), stpV 2 R 0 0 0 0] w fun e w' => e = .returned (.int .i64 0) /\ (wrO rp rb most grow).J F { s with rs := s.rs.set R (0, 0) } w' /\ Tn F w F w' := by
 have hb0 := (Below.refl w.heap.size w).alloc (Nat.le_refl _) (stpC 2 R 0 0 0 0)
 have P := stepFault_any 2 R 0 0 0 0 (Or.inr (Or.inl rfl)) ⟨by omega, by omega⟩ ⟨by omega, by omega⟩ ⟨by omega, by omega⟩ (w.alloc (stpC 2 R 0 0 0 0))
 have e1 : sfC 2 0 = 0 := rfl
 rw [e1] at P
 have HJ : Hid ((wrO rp rb most grow).J F s w /\ Below w.heap.size w (w.alloc (stpC 2 R 0 0 0 0))) := ⟨h, hb0⟩
 clear h hb0 e1
 go_enter Tryz.func31, Tryz.ntmps31
 go_wp2_with fail
 refine P.mono ?_
 clear P
 rintro e w1 ⟨rfl, hb1⟩
 have hb := HJ.out.2.trans (hb1.mono (by simp))
 have hJ1 := (wrO rp rb most grow).below HJ.out.1 hb
 have hx : w1.heap[w.heap.size]? = some (stpC 2 R 0 0 0 0) := (hb1.block _ (by simp)).trans (heap_alloc_new _ _)
 have q0 : w1.cell? ⟨w.heap.size, 0, none⟩ = some (.int .i64 2) := by simp [World.cell?, hx]
 have q1 : w1.cell? ⟨w.heap.size, 1, none⟩ = some (.int .i64 R) := by simp [World.cell?, hx]
 obtain ⟨c1, _, _, lrp, lrb, cz, hrl, cr⟩ := wr_cells hJ1
 obtain ⟨x0, x1, y0, y1⟩ := cr R hR
 obtain ⟨nrb, hFb, hFp⟩ := wr_ne hJ1
 have lb := (wrO rp rb most grow).lt HJ.out.1 rb hFb
 have lp := (wrO rp rb most grow).lt HJ.out.1 rp hFp
 have nx1 : rb ≠ w.heap.size := by omega
 have nx2 : rp ≠ w.heap.size := by omega
 have HJ1 : Hid ((wrO rp rb most grow).J F s w1 /\ Tn F w F w1) := ⟨hJ1, Tn.of hb⟩
 have r0 : (0 : Int) <= (R : Int) := by omega
 have r1 : (R : Int) < 12 := by omega
 clear hJ1 hb hb1 hx cr cz HJ
 go_wp2_with fail
 go_region_held3 (fun w' => w'.cell? ⟨rp, 1, none⟩ = some (.slice (some ⟨rb, 0, none⟩) 12 12) /\ w'.cell? ⟨w.heap.size, 1, none⟩ = some (.int .i64 R)) (go_keep) (fail)
 obtain ⟨hJ2, hT2⟩ := wr_root HJ1.out.1 R (0, 0)
 have HJ2 : Hid (_ /\ _) := ⟨(wrO rp rb most grow).below hJ2 (Below.refl _ _).drew, (HJ1.out.2.trans hT2).below (Below.refl _ _).drew⟩
 clear hJ2 hT2
 go_wp2_with fail
 go_ret
 exact ⟨rfl, HJ2.out.1, HJ2.out.2⟩
end
end Go.Proofs.YtalgochmjddodaaGreat

namespace Go.Proofs.YtalgochmjddodaaGreat
set_option maxRecDepth 100000
set_option maxHeartbeats 2000000
open Go.RowKit W Kp Stl
theorem infoREn : (Tryz.prog.info? 121).map (fun i => (i.zero, i.size, i.bytes)) = some (some (.agg #[.int .i64 0, .int .i64 0]), 2, 16) := by kernel_rfl
def Wrs.rc (s : Wrs) (A B : Nat) : Int := if s.th A < 0 \/ s.gd B < 0 then 2 else if 24 <= s.rg.length + s.wt.length then 3 else 0
section
variable {rp rb : Nat} {most grow : Int} {F : Nat -> Prop} {s : Wrs} {w : World}
theorem doReg_any (h : (wrO rp rb most grow).J F s w) (A B : Nat) (hA : A < 12) (hB : B < 12) (hth : 0 <= s.th B -> s.th B < s.T.length) (hrg : s.rg.length <= 10000) (hwt : s.wt.length <= 10000) :
    Calls Tryz.prog 31 #[.pointer (some ⟨rp, 0, none⟩), stpV 9 0 A B 0 0] w fun e w' => ∃ F', e = .returned (.int .i64 (s.rc A B)) /\ (wrO rp rb most grow).J F' (if s.rc A B = 0 then { s with rg := s.rg ++ [(s.gd B, s.th A)] } else s) w' /\ Tn F w F' w' := by
  have hb0 := (Below.refl w.heap.size w).alloc (Nat.le_refl _) (stpC 9 0 A B 0 0)
  have P := stepFault_any 9 0 A B 0 0 (Or.inr (Or.inr (Or.inl rfl))) ⟨by omega, by omega⟩ ⟨by omega, by omega⟩ ⟨by omega, by omega⟩ (w.alloc (stpC 9 0 A B 0 0))
  have e1 : sfC 9 0 = 0 := rfl
  rw [e1] at P
  have HJ : Hid ((wrO rp rb most grow).J F s w /\ Below w.heap.size w (w.alloc (stpC 9 0 A B 0 0))) := ⟨h, hb0⟩
  have HRC : Hid (s.rc A B = if s.th A < 0 \/ s.gd B < 0 then 2 else if 24 <= s.rg.length + s.wt.length then 3 else 0) := rfl
  have PT : Hid (∀ w', (wrO rp rb most grow).J F s w' -> Calls Tryz.prog 90 #[.pointer (some ⟨rp, 0, none⟩), .int .i64 A] w' fun e w'' => e = .returned (.int .i64 (s.th A)) /\ w'' = w') := fun w' hh => thingW_any hh A hA
  have PG : Hid (∀ w', (wrO rp rb most grow).J F s w' -> Calls Tryz.prog 91 #[.pointer (some ⟨rp, 0, none⟩), .int .i64 B] w' fun e w'' => e = .returned (.int .i64 (s.gd B)) /\ w'' = w') := fun w' hh => guardW_any hh B hB hth
  have hrp : rp < w.heap.size := (wr_cells h).2.2.2.1
  have ltF : Hid (∀ b, F b -> b < w.heap.size) := (wrO rp rb most grow).lt h
  clear h hb0 e1 hth
  generalize s.rc A B = z at HRC ⊢
  generalize s.th A = a at *
  generalize s.gd B = g at *
  obtain ⟨i0, hi0, hz0, hz1, hz2⟩ := info_parts infoREn
  go_enter Tryz.func31, Tryz.ntmps31
  go_wp2_with fail
  refine P.mono ?_
  clear P
  rintro e w1 ⟨rfl, hb1⟩
  have hb := HJ.out.2.trans (hb1.mono (by simp))
  have hJ1 := (wrO rp rb most grow).below HJ.out.1 hb
  have hx : w1.heap[w.heap.size]? = some (stpC 9 0 A B 0 0) := (hb1.block _ (by simp)).trans (heap_alloc_new _ _)
  have q0 : w1.cell? ⟨w.heap.size, 0, none⟩ = some (.int .i64 9) := by simp [World.cell?, hx]
  have q2 : w1.cell? ⟨w.heap.size, 2, none⟩ = some (.int .i64 A) := by simp [World.cell?, hx]
  have q3 : w1.cell? ⟨w.heap.size, 3, none⟩ = some (.int .i64 B) := by simp [World.cell?, hx]
  have lx := lt_of_some hx
  obtain ⟨_, _, _, lrp, _, cz, _, _⟩ := wr_cells hJ1
  have z2 := cz 2
  obtain ⟨v2, v3, d2, d3, hr2, hr3, rne, hup⟩ := wr_regs hJ1
  obtain ⟨a2, k2, e2⟩ := row_slice hr2
  obtain ⟨a3, k3, e3⟩ := row_slice hr3
  subst e2 e3
  have HJ1 : Hid ((wrO rp rb most grow).J F s w1 /\ Tn F w F w1) := ⟨hJ1, Tn.of hb⟩
  have HR : Hid (w1.ownsRow 0 121 2 (.slice a2 s.rg.length k2) s.rg.length (ev s.rg) /\ (∀ (l : List En) (v1 : Value) (w' : World), Fr (fun b => some b = (Value.slice a2 s.rg.length k2).ownBlock) w1 w' -> w'.ownsRow 0 121 2 v1 l.length (ev l) -> (∀ b, some b = v1.ownBlock -> some b = (Value.slice a2 s.rg.length k2).ownBlock \/ w1.heap.size <= b) ->
      (wrO rp rb most grow).J (fun b => F b \/ some b = v1.ownBlock) { s with rg := l } (w'.setCell ⟨rp, 2, none⟩ v1) /\ Fr F w1 (w'.setCell ⟨rp, 2, none⟩ v1)) /\ ∀ b, some b = (Value.slice a2 s.rg.length k2).ownBlock -> F b) := ⟨hr2, hup, fun b e => by
    obtain ⟨own, m2, vT2, v22, v32, hM, hF⟩ := hJ1
    have h1 := hM.blk
    have e4 : v22 = .slice a2 s.rg.length k2 := by simpa [World.cell?, h1] using d2
    exact (hF b).2 (by rw [hM.g2o b (by rw [e4]; exact e)]; decide)⟩
  clear hJ1 hb hb1 hx cz HJ hr2 hr3 hup
  go_wp2_with fail
  refine (PT.out w1 HJ1.out.1).mono ?_
  rintro e w2 ⟨rfl, hw2⟩
  have hw2 := hw2.symm
  subst hw2
  by_cases ha : a < 0
  · have hz : z = 2 := by rw [HRC.out, if_pos (Or.inl ha)]
    go_wp2_with fail
    go_ret
    exact ⟨rfl, F, HJ1.out.1, HJ1.out.2⟩
  · go_wp2_with fail
    refine (PG.out w1 HJ1.out.1).mono ?_
    rintro e w2 ⟨rfl, hw2⟩
    have hw2 := hw2.symm
    subst hw2
    by_cases hg : g < 0
    · have hz : z = 2 := by rw [HRC.out, if_pos (Or.inr hg)]
      go_wp2_with fail
      go_ret
      exact ⟨rfl, F, HJ1.out.1, HJ1.out.2⟩
    · have hn24 : ∃ n : Nat, n = s.rg.length + s.wt.length := ⟨_, rfl⟩
      by_cases hf : 24 <= s.rg.length + s.wt.length
      · have hz : z = 3 := by rw [HRC.out, if_neg (by omega), if_pos hf]
        have hf1 : (24 : Int) <= (s.rg.length : Int) + (s.wt.length : Int) := by omega
        go_upto_region 30 with fail
        go_quiet (fail)
        go_wp2_with fail
        go_ret
        have hb := below_drewN (Below.refl w1.heap.size w1) nq
        exact ⟨rfl, F, (wrO rp rb most grow).below HJ1.out.1 hb, HJ1.out.2.below hb⟩
      · have hz : z = 0 := by rw [HRC.out, if_neg (by omega), if_neg hf]
        have hf1 : ¬ (24 : Int) <= (s.rg.length : Int) + (s.wt.length : Int) := by omega
        go_upto_region 30 with fail
        go_quiet (fail)
        have hb := below_drewN (Below.refl w1.heap.size w1) nq
        generalize w1.drewN nq = w2 at *
        have hJ2 := (wrO rp rb most grow).below HJ1.out.1 hb
        have p2 := (hb.cell (p := ⟨w.heap.size, 2, none⟩) lx).trans q2
        have p3 := (hb.cell (p := ⟨w.heap.size, 3, none⟩) lx).trans q3
        have e2 := (hb.cell (p := ⟨rp, 2, none⟩) lrp).trans d2
        have y2 := (hb.frozen (p := ⟨rp, 2, none⟩) lrp).trans z2
        have lr2 : rp < w2.heap.size := by have := hb.size; omega
        have lx2 : w.heap.size < w2.heap.size := by have := hb.size; omega
        have hbd := (Below.refl w2.heap.size w2).drew
        have hba := ((Below.refl w2.heap.size w2).alloc (Nat.le_refl _) (.cells #[.int .i64 g, .int .i64 a] 121)).drew
        have HSd : Hid ((w2.alloc (.cells #[.int .i64 g, .int .i64 a] 121)).drew.ownsRow 0 121 2 (.slice a2 s.rg.length k2) s.rg.length (ev s.rg)) := row_keep (row_alloc (row_keep HR.out.1 (fun b e => hb.block b (row_lt HR.out.1 b e).2)) _) (fun _ _ => rfl)
        have hba2 := ((Below.refl w2.heap.size w2).drew).alloc (Nat.le_refl _) (.cells #[.int .i64 g, .int .i64 a] 121)
        have HSd2 : Hid ((w2.drew.alloc (.cells #[.int .i64 g, .int .i64 a] 121)).ownsRow 0 121 2 (.slice a2 s.rg.length k2) s.rg.length (ev s.rg)) := row_keep (w := w2) (row_keep HR.out.1 (fun b e => hb.block b (row_lt HR.out.1 b e).2)) (fun b e => hba2.block b (by have h1 := (row_lt HR.out.1 b e).2; have := hb.size; omega))
        have C1 := PT.out w2.drew ((wrO rp rb most grow).below hJ2 hbd)
        have C2 := PG.out w2.drew ((wrO rp rb most grow).below hJ2 hbd)
        have HB : Hid (Below w1.heap.size w1 w2) := hb
        clear q2 q3 d2 d3 z2 hJ2 hb PT PG q0 HRC
        go_wp2_with fail
        have nx1 : rp ≠ w.heap.size := by omega
        have rnx : some w.heap.size ≠ (Value.slice a2 s.rg.length k2).ownBlock := fun e => by have := ltF.out _ (HR.out.2.2 _ e); omega
        refine wp_region_noPanic ?_
        refine wp_region_any (by kernel_rfl) ?_
        have hTS : (w2.drew.cell? ⟨w.heap.size, 2, none⟩ = some (.int .i64 A) /\ w2.drew.cell? ⟨w.heap.size, 3, none⟩ = some (.int .i64 B)) /\ w2.drew.cell? ⟨rp, 2, none⟩ = some (.slice a2 s.rg.length k2) := ⟨⟨p2, p3⟩, e2⟩
        refine any_of_G (T := fun w' => w'.cell? ⟨w.heap.size, 2, none⟩ = some (.int .i64 A) /\ w'.cell? ⟨w.heap.size, 3, none⟩ = some (.int .i64 B)) (S := fun w' => w'.cell? ⟨rp, 2, none⟩ = some (.slice a2 s.rg.length k2)) (St := [18]) _ _ _ _ ?_
        refine G_takeA (i := 0) (v := ?_) rfl (by kernel_rfl) (by kernel_rfl) (by kernel_rfl) (by kernel_rfl) (fun _ _ _ h => h) (Or.inl ⟨by rfl, ?_⟩) hTS.1 (Or.inr hTS.2) ?_
        rotate_left
        · intro w hS
          go_simp
          try rfl
        try simp only [Act.put, List.getElem_toArray, List.getElem_cons_zero, List.setIfInBounds_toArray, List.set_cons_zero, List.set_cons_succ]
        refine G_takeA (i := 1) (v := ?_) rfl (by kernel_rfl) (by kernel_rfl) (by kernel_rfl) (by kernel_rfl) (fun _ _ _ h => h) (Or.inl ⟨by rfl, ?_⟩) hTS.1 (Or.inr hTS.2) ?_
        rotate_left
        · intro w hS
          go_simp
          try rfl
        try simp only [Act.put, List.getElem_toArray, List.getElem_cons_succ, List.getElem_cons_zero, List.setIfInBounds_toArray, List.set_cons_zero, List.set_cons_succ]
        refine G_takeA (i := 2) (v := ?_) rfl (by kernel_rfl) (by kernel_rfl) (by kernel_rfl) (by kernel_rfl) (fun _ _ _ h => h) (Or.inl ⟨by rfl, ?_⟩) hTS.1 (Or.inr hTS.2) ?_
        rotate_left
        · intro w hS
          go_simp
          try rfl
        try simp only [Act.put, List.getElem_toArray, List.getElem_cons_succ, List.getElem_cons_zero, List.setIfInBounds_toArray, List.set_cons_zero, List.set_cons_succ]
        refine G_takeA (i := 3) (v := ?_) rfl (by kernel_rfl) (by kernel_rfl) (by kernel_rfl) (by kernel_rfl) (fun _ _ _ h => h) (Or.inl ⟨by rfl, ?_⟩) hTS.1 (Or.inr hTS.2) ?_
        rotate_left
        · intro w hS
          go_simp
          try rfl
        try simp only [Act.put, List.getElem_toArray, List.getElem_cons_succ, List.getElem_cons_zero, List.setIfInBounds_toArray, List.set_cons_zero, List.set_cons_succ]
        refine G_take (i := 4) (v := ?_) rfl (by kernel_rfl) (by kernel_rfl) (by kernel_rfl) (by kernel_rfl) (by kernel_rfl) (by kernel_rfl) (fun _ _ _ h => h) (Or.inl ⟨by rfl, ?_⟩) hTS ?_
        rotate_left
        · intro w hS
          have hS1 := hS.2
          go_simp
          try rfl
        try simp only [Act.put, List.getElem_toArray, List.getElem_cons_succ, List.getElem_cons_zero, List.setIfInBounds_toArray, List.set_cons_zero, List.set_cons_succ]
        refine G_takeA (i := 5) (v := ?_) rfl (by kernel_rfl) (by kernel_rfl) (by kernel_rfl) (by kernel_rfl) (fun _ _ _ h => h) (Or.inl ⟨by rfl, ?_⟩) hTS.1 (Or.inr hTS.2) ?_
        rotate_left
        · intro w hS
          go_simp
          try rfl
        try simp only [Act.put, List.getElem_toArray, List.getElem_cons_succ, List.getElem_cons_zero, List.setIfInBounds_toArray, List.set_cons_zero, List.set_cons_succ]
        refine G_takeA (i := 6) (v := ?_) rfl (by kernel_rfl) (by kernel_rfl) (by kernel_rfl) (by kernel_rfl) (fun _ _ _ h => h) (Or.inl ⟨by rfl, ?_⟩) hTS.1 (Or.inr hTS.2) ?_
        rotate_left
        · intro w hS
          go_simp
          try rfl
        try simp only [Act.put, List.getElem_toArray, List.getElem_cons_succ, List.getElem_cons_zero, List.setIfInBounds_toArray, List.set_cons_zero, List.set_cons_succ]
        refine G_takeA (i := 7) (v := ?_) rfl (by kernel_rfl) (by kernel_rfl) (by kernel_rfl) (by kernel_rfl) (fun _ _ _ h => h) (Or.inl ⟨by rfl, ?_⟩) hTS.1 (Or.inr hTS.2) ?_
        rotate_left
        · intro w hS
          have hS1 := hS.1
          have hS2 := hS.2
          go_simp
          try rfl
        try simp only [Act.put, List.getElem_toArray, List.getElem_cons_succ, List.getElem_cons_zero, List.setIfInBounds_toArray, List.set_cons_zero, List.set_cons_succ]
        refine G_takeA (i := 9) (v := ?_) rfl (by kernel_rfl) (by kernel_rfl) (by kernel_rfl) (by kernel_rfl) (fun _ _ _ h => h) (Or.inl ⟨by rfl, ?_⟩) hTS.1 (Or.inr hTS.2) ?_
        rotate_left
        · intro w hS
          go_simp
          try rfl
        try simp only [Act.put, List.getElem_toArray, List.getElem_cons_succ, List.getElem_cons_zero, List.setIfInBounds_toArray, List.set_cons_zero, List.set_cons_succ]
        refine G_takeA (i := 10) (v := ?_) rfl (by kernel_rfl) (by kernel_rfl) (by kernel_rfl) (by kernel_rfl) (fun _ _ _ h => h) (Or.inl ⟨by rfl, ?_⟩) hTS.1 (Or.inr hTS.2) ?_
        rotate_left
        · intro w hS
          go_simp
          try rfl
        try simp only [Act.put, List.getElem_toArray, List.getElem_cons_succ, List.getElem_cons_zero, List.setIfInBounds_toArray, List.set_cons_zero, List.set_cons_succ]
        refine G_takeA (i := 11) (v := ?_) rfl (by kernel_rfl) (by kernel_rfl) (by kernel_rfl) (by kernel_rfl) (fun _ _ _ h => h) (Or.inl ⟨by rfl, ?_⟩) hTS.1 (Or.inr hTS.2) ?_
        rotate_left
        · intro w hS
          have hS1 := hS.1
          have hS2 := hS.2
          go_simp
          try rfl
        try simp only [Act.put, List.getElem_toArray, List.getElem_cons_succ, List.getElem_cons_zero, List.setIfInBounds_toArray, List.set_cons_zero, List.set_cons_succ]
        refine G_one (i := 8) (by kernel_rfl) ?_
        refine wpOp_of_wp rfl rfl ?_
        simp only [List.getElem_toArray, List.getElem_cons_succ, List.getElem_cons_zero]
        go_simp
        refine C2.mono ?_
        rintro e w4 ⟨rfl, hw4⟩
        have hw4 := hw4.symm
        subst hw4
        dsimp only
        refine ⟨⟨hTS.1, Or.inr hTS.2⟩, ?_⟩
        try simp only [Act.put, List.getElem_toArray, List.getElem_cons_succ, List.getElem_cons_zero, List.setIfInBounds_toArray, List.set_cons_zero, List.set_cons_succ]
        refine G_one (i := 12) (by kernel_rfl) ?_
        refine wpOp_of_wp rfl rfl ?_
        simp only [List.getElem_toArray, List.getElem_cons_succ, List.getElem_cons_zero]
        go_simp
        refine C1.mono ?_
        rintro e w4 ⟨rfl, hw4⟩
        have hw4 := hw4.symm
        subst hw4
        dsimp only
        refine ⟨⟨hTS.1, Or.inr hTS.2⟩, ?_⟩
        try simp only [Act.put, List.getElem_toArray, List.getElem_cons_succ, List.getElem_cons_zero, List.setIfInBounds_toArray, List.set_cons_zero, List.set_cons_succ]
        refine G_takeA (i := 13) (v := ?_) rfl (by kernel_rfl) (by kernel_rfl) (by kernel_rfl) (by kernel_rfl) (fun _ _ _ h => h) (Or.inl ⟨by rfl, ?_⟩) hTS.1 (Or.inr hTS.2) ?_
        rotate_left
        · intro w hS
          go_simp
          try rfl
        try simp only [Act.put, List.getElem_toArray, List.getElem_cons_succ, List.getElem_cons_zero, List.setIfInBounds_toArray, List.set_cons_zero, List.set_cons_succ]
        refine G_one (i := 14) (by kernel_rfl) ?_
        refine wpOp_of_wp rfl rfl ?_
        simp only [List.getElem_toArray, List.getElem_cons_succ, List.getElem_cons_zero]
        go_simp
        refine G_one (i := 15) (by kernel_rfl) ?_
        refine wpOp_of_wp rfl rfl ?_
        refine wp_append_lies _ (.tmp 149) (.tmp 159) 115 rfl 0 121 i0 (.agg #[.int .i64 0, .int .i64 0]) 2 16 Tryz.underlying115 hi0 hz0 hz1 hz2 rfl (by decide) (.slice a2 s.rg.length k2) s.rg.length (ev s.rg) (by simp [Act.eval]) HSd.out ⟨w2.heap.size, 0, none⟩ 1 1 [.int .i64 g, .int .i64 a] (by simp [Act.eval]) rfl ?_ ?_ (by decide) (by unfold maxLen; omega) (by omega) (by simp) _ rfl ?_
        · (intro j u hj; match j, hj with | 0, hj => (simp at hj; subst hj; simp [Addr.add]) | 1, hj => (simp at hj; subst hj; simp [Addr.add]))
        · (intro u hu; simp at hu; rcases hu with hu | hu <;> (subst hu; rfl))
        intro b4 cap4 w4 hown4 hgrow4 hat4 hlt4
        have d4 := hgrow4.cell (a := ⟨rp, 2, none⟩) (v := .slice a2 s.rg.length k2) ((hba.cell (p := ⟨rp, 2, none⟩) lr2).trans e2) rne
        have f4 : w4.frozen? ⟨rp, 2, none⟩ = false := (World.frozen?_of_block (a := ⟨rp, 2, none⟩) (hgrow4.block _ (Nat.lt_of_lt_of_le lr2 hba.size) rne)).trans ((hba.frozen (p := ⟨rp, 2, none⟩) lr2).trans y2)
        have d42 := hgrow4.cell (a := ⟨w.heap.size, 2, none⟩) ((hba.cell (p := ⟨w.heap.size, 2, none⟩) lx2).trans p2) rnx
        have d43 := hgrow4.cell (a := ⟨w.heap.size, 3, none⟩) ((hba.cell (p := ⟨w.heap.size, 3, none⟩) lx2).trans p3) rnx
        refine ⟨⟨⟨d42, d43⟩, Or.inr d4⟩, ?_⟩
        try simp only [Act.put, List.getElem_toArray, List.getElem_cons_succ, List.getElem_cons_zero, List.setIfInBounds_toArray, List.set_cons_zero, List.set_cons_succ]
        have HF : Hid ((wrO rp rb most grow).J (fun b => F b \/ some b = (Value.slice (some ⟨b4, 0, none⟩) (s.rg.length + 1) cap4).ownBlock) { s with rg := s.rg ++ [(g, a)] } (w4.setCell ⟨rp, 2, none⟩ (.slice (some ⟨b4, 0, none⟩) (s.rg.length + 1) cap4)) /\ Tn F w (fun b => F b \/ some b = (Value.slice (some ⟨b4, 0, none⟩) (s.rg.length + 1) cap4).ownBlock) (w4.setCell ⟨rp, 2, none⟩ (.slice (some ⟨b4, 0, none⟩) (s.rg.length + 1) cap4))) := by
          have hsz4 := hgrow4.size
          simp at hsz4
          have hs2 := HB.out.size
          have hat : some b4 = (Value.slice a2 s.rg.length k2).ownBlock \/ w1.heap.size <= b4 := hat4.imp Eq.symm (fun e => by
            have e1 : b4 = w2.heap.size + 1 := by simpa using e
            omega)
          have hfr4 : Fr (fun b => some b = (Value.slice a2 s.rg.length k2).ownBlock) w1 w4 := (((Fr.of (X := fun b => some b = (Value.slice a2 s.rg.length k2).ownBlock) HB.out).alloc _).drew).grown hgrow4 (fun b e => Or.inl e.symm)
          obtain ⟨h1, h2⟩ := HR.out.2.1 (s.rg ++ [(g, a)]) (.slice (some ⟨b4, 0, none⟩) (s.rg.length + 1) cap4) w4 hfr4 (by
            rw [ev_append, List.length_append]
            simpa [ev] using hown4) (fun b e => by
            simp [Value.ownBlock] at e
            subst e
            exact hat)
          refine ⟨h1, ⟨HJ1.out.2.fr.trans h2 HJ1.out.2.sub, fun b d => ?_⟩⟩
          rcases d with d | d
          · exact Or.inl d
          · simp [Value.ownBlock] at d
            subst d
            rcases hat with e4 | e4
            · exact Or.inl (HR.out.2.2 _ e4)
            · exact Or.inr (by omega)
        clear hown4 hgrow4 hat4 HR HSd HSd2
        refine G_takeA (i := 16) (v := ?_) rfl (by kernel_rfl) (by kernel_rfl) (by kernel_rfl) (by kernel_rfl) (fun _ _ _ h => h) (Or.inl ⟨by rfl, ?_⟩) ⟨d42, d43⟩ (Or.inr d4) ?_
        rotate_left
        · intro w hS
          go_simp
          try rfl
        try simp only [Act.put, List.getElem_toArray, List.getElem_cons_succ, List.getElem_cons_zero, List.setIfInBounds_toArray, List.set_cons_zero, List.set_cons_succ]
        refine G_takeA (i := 17) (v := ?_) rfl (by kernel_rfl) (by kernel_rfl) (by kernel_rfl) (by kernel_rfl) (fun _ _ _ h => h) (Or.inl ⟨by rfl, ?_⟩) ⟨d42, d43⟩ (Or.inr d4) ?_
        rotate_left
        · intro w hS
          go_simp
          try rfl
        try simp only [Act.put, List.getElem_toArray, List.getElem_cons_succ, List.getElem_cons_zero, List.setIfInBounds_toArray, List.set_cons_zero, List.set_cons_succ]
        refine G_one (i := 18) (by kernel_rfl) ?_
        refine wpOp_of_wp rfl rfl ?_
        simp only [List.getElem_toArray, List.getElem_cons_succ, List.getElem_cons_zero]
        go_simp
        refine ⟨⟨18, by simp, by kernel_rfl⟩, ?_⟩
        refine G_done (by kernel_rfl) ?_ _
        refine NoPanic.normal ?_
        clear C1 C2 p2 p3 e2 y2 d4 f4 d42 d43
        go_wp2_with fail
        go_ret
        exact ⟨rfl, _, HF.out.1, HF.out.2⟩
end
end Go.Proofs.YtalgochmjddodaaGreat
