/- Joined: Wr4, Gr4, Wr3, Gr5, Wr6. -/
import Derived.Test.YtnalfnlmaallmaaGreatJ11
import Derived.Test.YtnalfnlmaallmaaGreatJ12
import Derived.Test.YtnalfnlmaallmaaGreatGr3
import Derived.Test.YtnalfnlmaallmaaGreatJ00
namespace Go.Proofs.YtnalfnlmaallmaaGreat
set_option maxRecDepth 100000
set_option maxHeartbeats 1000000
open Go.RowKit W Kp Stl
section
variable {rp rb : Nat} {most grow : Int} {F : Nat -> Prop} {s : Wrs} {w : World}
def Wrs.th (s : Wrs) (i : Nat) : Int := if (s.rs.getD i (0, 0)).1 = 3 then (s.rs.getD i (0, 0)).2 else -1
def Wrs.gd (s : Wrs) (i : Nat) : Int := if s.th i < 0 then -1 else if (s.T.getD (s.th i).toNat (0, [], false, false)).1 = 5 then s.th i else -1
theorem thingW_any (h : (wrO rp rb most grow).J F s w) (i : Nat) (hi : i < 12) :
  Calls Tryz.prog 82 #[.pointer (some ⟨rp, 0, none⟩), .int .i64 i] w fun e w' => e = .returned (.int .i64 (s.th i)) /\ w' = w := by
 obtain ⟨c1, _, _, _, _, _, _, cr⟩ := wr_cells h
 obtain ⟨x0, x1, _⟩ := cr i hi
 have E : Hid (s.th i = if (s.rs.getD i (0, 0)).1 = 3 then (s.rs.getD i (0, 0)).2 else -1) := rfl
 generalize s.th i = z at E ⊢
 generalize (s.rs.getD i (0, 0)).1 = k at x0 E
 generalize (s.rs.getD i (0, 0)).2 = n at x1 E
 have i0 : (0 : Int) <= (i : Int) := by omega
 have i1 : (i : Int) < 12 := by omega
 clear h cr
 by_cases hk : k = 3
 ·subst hk
  have E2 : Hid (z = n) := E.out
  go_enter Tryz.func82, Tryz.ntmps82
  go_wp2_with fail
  go_ret
  rw [E2.out]
  exact ⟨rfl, rfl⟩
 ·have E2 : Hid (z = -1) := E.out.trans (if_neg hk)
  have hk2 : ¬ 3 = k := fun e => hk e.symm
  go_enter Tryz.func82, Tryz.ntmps82
  go_wp2_with fail
  go_ret
  rw [E2.out]
  exact ⟨rfl, rfl⟩
theorem guardW_any (h : (wrO rp rb most grow).J F s w) (i : Nat) (hi : i < 12) (hr : 0 <= s.th i -> s.th i < s.T.length) :
  Calls Tryz.prog 83 #[.pointer (some ⟨rp, 0, none⟩), .int .i64 i] w fun e w' => e = .returned (.int .i64 (s.gd i)) /\ w' = w := by
 have P := thingW_any h i hi
 obtain ⟨aT, cT, c0, _, cx⟩ := wr_things h
 have E : Hid (s.gd i = if s.th i < 0 then -1 else if (s.T.getD (s.th i).toNat (0, [], false, false)).1 = 5 then s.th i else -1) := rfl
 generalize s.gd i = z at E ⊢
 generalize s.th i = a at P E hr
 clear h
 by_cases ha : a < 0
 ·have E2 : Hid (z = -1) := E.out.trans (if_pos ha)
  clear cx
  go_enter Tryz.func83, Tryz.ntmps83
  go_wp2_with fail
  refine P.mono ?_
  rintro e w1 ⟨rfl, rfl⟩
  go_wp2_with fail
  go_ret
  rw [E2.out]
  exact ⟨rfl, rfl⟩
 ·obtain ⟨j, rfl⟩ : ∃ j : Nat, a = j := ⟨a.toNat, by omega⟩
  have hj := hr (by omega)
  have hlt : j < s.T.length := by omega
  obtain ⟨t, ht⟩ : ∃ t, s.T[j]? = some t := ⟨_, List.getElem?_eq_getElem hlt⟩
  obtain ⟨b, ad, cp, rfl, x0, _⟩ := cx j t ht
  have E2 : Hid (z = if t.1 = 5 then (j : Int) else -1) := by
   show _ = _
   rw [E.out, if_neg ha, Int.toNat_natCast, List.getD_eq_getElem?_getD, ht]
   rfl
  generalize t.1 = k at x0 E2
  have j0 : (0 : Int) <= (j : Int) := by omega
  have jn : decide ((j : Int) < 0) = false := by simp
  clear cx ht E hr
  by_cases hk : k = 5
  ·subst hk
   have E3 : Hid (z = j) := E2.out
   go_enter Tryz.func83, Tryz.ntmps83
   go_wp2_with fail
   refine P.mono ?_
   rintro e w1 ⟨rfl, hw1⟩
   have hw1 := hw1.symm
   subst hw1
   go_wp2_with fail
   go_ret
   rw [E3.out]
   exact ⟨rfl, rfl⟩
  ·have E3 : Hid (z = -1) := E2.out.trans (if_neg hk)
   have hk2 : (k != 5) = true := by simpa using hk
   go_enter Tryz.func83, Tryz.ntmps83
   go_wp2_with fail
   refine P.mono ?_
   rintro e w1 ⟨rfl, hw1⟩
   have hw1 := hw1.symm
   subst hw1
   go_wp2_with fail
   go_ret
   rw [E3.out]
   exact ⟨rfl, rfl⟩
end
theorem fits_any (k f : Int) (w : World) : Calls Tryz.prog 109 #[.int .i64 k, .int .i64 f] w fun e w' => e = .returned (.int .i64 (hc k f)) /\ w' = w := by
 by_cases h1 : k = 1
 ·subst h1
  by_cases h2 : f = 2
  ·subst h2
   go_enter Tryz.func109, Tryz.ntmps109
   go_wp2_with fail
   go_ret
   exact ⟨rfl, rfl⟩
  ·have e : hc 1 f = 1 := by simp [hc, h2]
   rw [e]
   go_enter Tryz.func109, Tryz.ntmps109
   go_wp2_with fail
   go_ret
   exact ⟨rfl, rfl⟩
 by_cases h3 : k = 3
 ·subst h3
  by_cases h2 : f = 2
  ·subst h2
   go_enter Tryz.func109, Tryz.ntmps109
   go_wp2_with fail
   go_ret
   exact ⟨rfl, rfl⟩
  ·have e : hc 3 f = 1 := by simp [hc, h2]
   rw [e]
   go_enter Tryz.func109, Tryz.ntmps109
   go_wp2_with fail
   go_ret
   exact ⟨rfl, rfl⟩
 by_cases h4 : k = 4
 ·subst h4
  by_cases h2 : f = 2
  ·subst h2
   go_enter Tryz.func109, Tryz.ntmps109
   go_wp2_with fail
   go_ret
   exact ⟨rfl, rfl⟩
  ·have e : hc 4 f = 1 := by simp [hc, h2]
   rw [e]
   go_enter Tryz.func109, Tryz.ntmps109
   go_wp2_with fail
   go_ret
   exact ⟨rfl, rfl⟩
 by_cases h5 : k = 5
 ·subst h5
  by_cases h2 : f = 0
  ·subst h2
   go_enter Tryz.func109, Tryz.ntmps109
   go_wp2_with fail
   go_ret
   exact ⟨rfl, rfl⟩
  ·have e : hc 5 f = 1 := by simp [hc, h2]
   rw [e]
   go_enter Tryz.func109, Tryz.ntmps109
   go_wp2_with fail
   go_ret
   exact ⟨rfl, rfl⟩
 by_cases h2 : k = 2
 ·subst h2
  by_cases a : f < 0
  ·have e : hc 2 f = 1 := by simp [hc, a]
   rw [e]
   go_enter Tryz.func109, Tryz.ntmps109
   go_wp2_with fail
   go_ret
   exact ⟨rfl, rfl⟩
  ·by_cases b : 12 < f
   ·have e : hc 2 f = 1 := by simp [hc, b]
    rw [e]
    go_enter Tryz.func109, Tryz.ntmps109
    go_wp2_with fail
    go_ret
    exact ⟨rfl, rfl⟩
   ·have e : hc 2 f = 0 := by simp [hc, a, b]
    rw [e]
    go_enter Tryz.func109, Tryz.ntmps109
    go_wp2_with fail
    go_ret
    exact ⟨rfl, rfl⟩
 have e : hc k f = 2 := by simp [hc, h1, h2, h3, h4, h5]
 rw [e]
 have g1 : (k == 1) = false := by simpa using h1
 have g2 : (k == 2) = false := by simpa using h2
 have g3 : (k == 3) = false := by simpa using h3
 have g4 : (k == 4) = false := by simpa using h4
 have g5 : (k == 5) = false := by simpa using h5
 go_enter Tryz.func109, Tryz.ntmps109
 go_wp2_with fail
 go_ret
 exact ⟨rfl, rfl⟩
theorem row_whole {w : World} {b k n size : Nat} {T : TypeId} {xs : List Value} (h : w.ownsRow b T size (.slice (some ⟨k, 0, none⟩) n n) n xs) : w.heap[k]? = some (.cells xs.toArray T (0, 0)) := by
 obtain ⟨h1, h2⟩ := h
 rcases h2 with ⟨e, _⟩ | ⟨k', cap, cur, hv, hb, hh, h3, h4, h5, h6⟩
 ·cases e
 ·cases hv
  rw [hh]
  have : cur.toList = xs := by
   rw [<- List.take_of_length_le (l := cur.toList) (i := n * size) (by simp; omega), h6]
  rw [<- this]
theorem newWorld_any (n o : Int) (w : World) : Calls Tryz.prog 24 #[.int .i64 n, .int .i64 o] w fun e w' => ∃ rp rb F, e = .returned (.pointer (some ⟨rp, 0, none⟩)) /\ (wrO rp rb n o).J F ⟨[], List.replicate 12 (0, 0), [], []⟩ w' /\ (∀ b, F b -> w.heap.size <= b) /\ Below w.heap.size w w' := by
  obtain ⟨i0, hi, hz0, hz1, hz2⟩ := info_parts infoVal
  go_enter Tryz.func24, Tryz.ntmps24
  go_wp2_with (at_make; refine wpList_make_full _ rfl _ _ 62 rfl w.heap.size 100 i0 (.agg #[.int .i64 0, .int .i64 0]) 2 Tryz.underlying62 hi hz0 hz1 .i64 .i64 _ _ 12 rfl rfl (by omega) (by omega) (by rw [hz2]; omega) (by unfold maxLen; omega) (by simp) ?_; intro w1 hown hgrow)
  go_ret
  have hr := row_whole hown
  have em : (madeCells (Value.agg #[.int .i64 0, .int .i64 0]).cells (12 * 2)).toList = ev (List.replicate 12 (0, 0)) := by kernel_rfl
  rw [em] at hr
  have hlt := lt_of_some hr
  have hb1 : Below w.heap.size w w1 := (Below.refl _ _).grown hgrow (Nat.le_refl _) (fun _ h => by cases h)
  have hnew := heap_alloc_new w1 (.cells #[.slice none 0 0, .slice (some ⟨w.heap.size, 0, none⟩) 12 12, .slice none 0 0, .slice none 0 0, .int .i64 n, .int .i64 o] 121)
  refine ⟨w1.heap.size, w.heap.size, fun b => b = w1.heap.size \/ b = w.heap.size, rfl, ⟨fun b => if b = w1.heap.size then 1 else if b = w.heap.size then 4 else 0, [], .slice none 0 0, .slice none 0 0, .slice none 0 0, ?_, fun b => ?_⟩, fun b hb => by omega, hb1.alloc (by omega) _⟩
  · exact { blk := hnew, b1 := by rw [if_pos rfl], row := World.ownsRow_nil _ _ _ _, ro := fun b e => by simp [Value.ownBlock] at e, nd := rfl, fl := fun x hx => by simp at hx
            rt := (Below.heap_alloc _ _ _ hlt).trans hr
            rl := rfl
            r1 := by rw [if_neg (by omega), if_pos rfl]
            g2 := World.ownsRow_nil _ _ _ _, g2o := fun b e => by simp [Value.ownBlock] at e
            g3 := World.ownsRow_nil _ _ _ _, g3o := fun b e => by simp [Value.ownBlock] at e
            lt := fun b hb => by
              simp only [World.size_alloc]
              by_cases c1 : b = w1.heap.size
              · omega
              · by_cases c2 : b = w.heap.size
                · omega
                · rw [if_neg c1, if_neg c2] at hb
                  exact absurd rfl hb }
  · by_cases c1 : b = w1.heap.size
    · simp [c1]
    · by_cases c2 : b = w.heap.size
      · simp [c2, show ¬ w.heap.size = w1.heap.size by omega]
      · simp [c1, c2]
end Go.Proofs.YtnalfnlmaallmaaGreat

namespace Go.Proofs.YtnalfnlmaallmaaGreat
set_option maxRecDepth 100000
set_option maxHeartbeats 4000000
open Go.RowKit W Kp Stl
def fr0 (mj : Bool) (t : Tw1) : Bool := t.2.2.1 && !t.2.2.2 && !mj
def frR (L : List Bool) (v : Int × Int) : List Bool := if v.1 = 3 then L.set v.2.toNat true else L
def frs (T : List Tw1) (rs : List (Int × Int)) (mj : Bool) : List Bool := rs.foldl frR (T.map (fr0 mj))
theorem frR_len (L : List Bool) (v : Int × Int) : (frR L v).length = L.length := by
 unfold frR
 split
 ·rw [List.length_set]
 ·rfl
theorem frs_len (T : List Tw1) (rs : List (Int × Int)) (mj : Bool) : (frs T rs mj).length = T.length := by
 have key : ∀ (rs : List (Int × Int)) (L : List Bool), (rs.foldl frR L).length = L.length := fun rs => by
  induction rs with
  | nil => intro L; rfl
  | cons v rs ih => intro L; rw [List.foldl_cons, ih, frR_len]
 unfold frs
 rw [key, List.length_map]
theorem frR_in {L : List Bool} {v : Int × Int} {i : Nat} : Ls_ (frR L v) i ↔ Ls_ L i \/ (v.1 = 3 /\ v.2.toNat = i /\ i < L.length) := by
 unfold frR
 by_cases h3 : v.1 = 3
 ·rw [if_pos h3]
  unfold Ls_
  by_cases hl : v.2.toNat < L.length
  ·rw [getD_setB _ _ _ hl]
   constructor
   ·intro h
    split at h
    ·rename_i e
     exact Or.inr ⟨h3, e, by omega⟩
    ·exact Or.inl h
   ·rintro (h | ⟨_, e, _⟩)
    ·split
     ·rfl
     ·exact h
    ·rw [if_pos e]
  ·rw [List.set_eq_of_length_le (by omega)]
   exact ⟨Or.inl, fun h => h.elim id (fun ⟨_, e, hl'⟩ => absurd hl' (by omega))⟩
 ·rw [if_neg h3]
  exact ⟨Or.inl, fun h => h.elim id (fun ⟨e, _⟩ => absurd e h3)⟩
theorem fold_in : ∀ (rs : List (Int × Int)) (L : List Bool) (i : Nat), Ls_ (rs.foldl frR L) i ↔ Ls_ L i \/ (i < L.length /\ ∃ v ∈ rs, v.1 = 3 /\ v.2.toNat = i)
 | [], L, i => by simp
 | v :: rs, L, i => by
  rw [List.foldl_cons, fold_in rs, frR_in, frR_len]
  constructor
  ·rintro ((h | ⟨h1, h2, h3⟩) | ⟨h1, u, hu, h2⟩)
   ·exact Or.inl h
   ·exact Or.inr ⟨h3, v, by simp, h1, h2⟩
   ·exact Or.inr ⟨h1, u, List.mem_cons_of_mem _ hu, h2⟩
  ·rintro (h | ⟨h1, u, hu, h2, h3⟩)
   ·exact Or.inl (Or.inl h)
   ·rcases List.mem_cons.1 hu with e | e
    ·rw [e] at h2 h3
     exact Or.inl (Or.inr ⟨h2, h3, h1⟩)
    ·exact Or.inr ⟨h1, u, e, h2, h3⟩
theorem map_in (mj : Bool) (T : List Tw1) (i : Nat) : Ls_ (T.map (fr0 mj)) i ↔ i < T.length /\ (T.getD i t0).2.2.1 = true /\ (T.getD i t0).2.2.2 = false /\ mj = false := by
 unfold Ls_
 by_cases h : i < T.length
 ·rw [List.getD_eq_getElem?_getD, List.getElem?_map, List.getElem?_eq_getElem h, List.getD_eq_getElem?_getD, List.getElem?_eq_getElem h]
  simp [fr0, h, and_assoc]
 ·rw [List.getD_eq_getElem?_getD, List.getElem?_eq_none (by rw [List.length_map]; omega)]
  simp [h]
theorem frs_in (T : List Tw1) (rs : List (Int × Int)) (mj : Bool) (i : Nat) : Ls_ (frs T rs mj) i ↔ i < T.length /\ (((T.getD i t0).2.2.1 = true /\ (T.getD i t0).2.2.2 = false /\ mj = false) \/ ∃ v ∈ rs, v.1 = 3 /\ v.2.toNat = i) := by
 unfold frs
 rw [fold_in, map_in, List.length_map]
 constructor
 ·rintro (⟨h1, h2⟩ | ⟨h1, h2⟩)
  ·exact ⟨h1, Or.inl h2⟩
  ·exact ⟨h1, Or.inr h2⟩
 ·rintro ⟨h1, h2 | h2⟩
  ·exact Or.inl ⟨h1, h2⟩
  ·exact Or.inr ⟨h1, h2⟩
theorem made_rowB {w : World} {b k n : Nat} (h : w.ownsRow b 4 1 (.slice (some ⟨k, 0, none⟩) n n) n (madeCells (Value.bool false).cells (n * 1)).toList) :
  w.ownsRow b 4 1 (.slice (some ⟨k, 0, none⟩) n n) n ((List.replicate n false).map Value.bool) := by
 have e : (madeCells (Value.bool false).cells (n * 1)).toList = (List.replicate n false).map Value.bool := by
  show (madeCells #[Value.bool false] (n * 1)).toList = _
  rw [toList_madeCells_one]
  simp
 rwa [e] at h
section
variable {rp rb : Nat} {most grow : Int} {F : Nat -> Prop} {s : Wrs} {w : World}
def frI (mj : Bool) (T : List Tw1) (i : Nat) : List Bool := (T.take i).map (fr0 mj) ++ List.replicate (T.length - i) false
theorem frI_len (mj : Bool) (T : List Tw1) (i : Nat) (hi : i <= T.length) : (frI mj T i).length = T.length := by
 unfold frI
 simp
 omega
theorem frI_next (mj : Bool) (T : List Tw1) (i : Nat) (hi : i < T.length) : (frI mj T i).set i (fr0 mj (T.getD i t0)) = frI mj T (i + 1) := by
 unfold frI
 have hl : ((T.take i).map (fr0 mj)).length = i := by simp; omega
 rw [List.set_append_right _ _ (by omega), hl, Nat.sub_self, List.take_succ_eq_append_getElem hi, List.map_append, show T.length - i = (T.length - (i + 1)) + 1 by omega, List.replicate_succ, List.set_cons_zero, List.append_assoc]
 congr 1
 rw [List.getD_eq_getElem?_getD, List.getElem?_eq_getElem hi]
 rfl
theorem first_any (h : (wrO rp rb most grow).J F s w) (mj : Bool) (hl : s.T.length <= 10000) (hr : ∀ v ∈ s.rs, v.1 = 3 -> 0 <= v.2 /\ v.2 < s.T.length) :
  Calls Tryz.prog 72 #[.pointer (some ⟨rp, 0, none⟩), .bool mj] w fun e w' => ∃ b, e = .returned (.slice (some ⟨b, 0, none⟩) s.T.length s.T.length) /\ w'.ownsRow w.heap.size 4 1 (.slice (some ⟨b, 0, none⟩) s.T.length s.T.length) s.T.length ((frs s.T s.rs mj).map Value.bool) /\ Below w.heap.size w w' := by
 obtain ⟨i0, hi0, hz0, hz1, hz2⟩ := info_parts infoB
 have HJ : Hid ((wrO rp rb most grow).J F s w) := h
 have HR : Hid (∀ v ∈ s.rs, v.1 = 3 -> 0 <= v.2 /\ v.2 < s.T.length) := hr
 obtain ⟨aT, cT, c0, _⟩ := wr_things h
 clear h hr
 go_enter Tryz.func72, Tryz.ntmps72
 go_wp2_with (at_make; refine wpList_make_full _ rfl _ _ 86 rfl w.heap.size 4 i0 (.bool false) 1 Tryz.underlying86 hi0 hz0 hz1 .i64 .i64 _ _ s.T.length rfl rfl (by omega) (by omega) (by rw [hz2]; omega) (by unfold maxLen; omega) (Nat.le_refl _) ?_; intro w1 hown hgrow)
 have hb1 : Below w.heap.size w w1 := (Below.refl _ w).grown hgrow (Nat.le_refl _) (fun _ h => by cases h)
 have H1 : Hid (w1.ownsRow w.heap.size 4 1 (.slice (some ⟨w.heap.size, 0, none⟩) s.T.length s.T.length) s.T.length ((frI mj s.T 0).map Value.bool) /\ Below w.heap.size w w1) := ⟨by
  have e : frI mj s.T 0 = List.replicate s.T.length false := by unfold frI; simp
  rw [e]
  exact made_rowB hown, hb1⟩
 have HWG : Hid (∀ w', Below w.heap.size w w' -> (wrO rp rb most grow).J F s w') := fun w' hb => (wrO rp rb most grow).below HJ.out hb
 clear hown hgrow hb1 c0 HJ
 go_loopw [6] (fun iv wr => ∃ i : Nat, i <= s.T.length /\ iv = .int .i64 i /\ Hid (wr.ownsRow w.heap.size 4 1 (.slice (some ⟨w.heap.size, 0, none⟩) s.T.length s.T.length) s.T.length ((frI mj s.T i).map Value.bool) /\ Below w.heap.size w wr)) (fun iv _ => s.T.length - (intOf iv).toNat)
 case atStart => exact ⟨0, Nat.zero_le _, rfl, H1⟩
 case round =>
  clear H1
  obtain ⟨i, hi, rfl, H⟩ := hrel
  have hJ := HWG.out wr H.out.2
  obtain ⟨aT, cT, c0, _, hT⟩ := wr_things hJ
  by_cases hlt : i < s.T.length
  ·obtain ⟨t, ht⟩ : ∃ t, s.T[i]? = some t := ⟨_, List.getElem?_eq_getElem hlt⟩
   obtain ⟨b, fa, fc, rfl, y0, y1, y2, y3, _⟩ := hT i t ht
   have et : s.T.getD i t0 = t := by rw [List.getD_eq_getElem?_getD, ht]; rfl
   have HX : Hid ((frI mj s.T i).set i (fr0 mj t) = frI mj s.T (i + 1)) := by
    show _ = _
    rw [<- et]
    exact frI_next mj s.T i hlt
   have hlen := frI_len mj s.T i hi
   have hci : ((frI mj s.T i).map Value.bool)[i]? = some (.bool ((frI mj s.T i).getD i false)) := by
    rw [List.getElem?_map, List.getElem?_eq_getElem (by omega), List.getD_eq_getElem?_getD, List.getElem?_eq_getElem (by omega)]
    rfl
   obtain ⟨u0, u1⟩ := row_cell H.out.1 hci
   have HP : Hid (∀ v : Bool, (wr.setCell ⟨w.heap.size, i, none⟩ (.bool v)).ownsRow w.heap.size 4 1 (.slice (some ⟨w.heap.size, 0, none⟩) s.T.length s.T.length) s.T.length (((frI mj s.T i).set i v).map Value.bool) /\ Below w.heap.size w (wr.setCell ⟨w.heap.size, i, none⟩ (.bool v))) := fun v => ⟨by
    rw [List.map_set]
    exact row_put H.out.1 i _, H.out.2.trans (((Fr.refl (fun k => k = w.heap.size) wr).set w.heap.size i _ rfl).below H.out.2.size (fun k e => Nat.le_of_eq (Eq.symm e)))⟩
   have q0 : (0 : Int) <= (i : Int) := by omega
   have q1 : (i : Int) < (s.T.length : Int) := by omega
   obtain ⟨kd, fs, od, dd⟩ := t
   dsimp only at *
   have HQ := HP.out (fr0 mj (kd, fs, od, dd))
   rw [HX.out] at HQ
   have HQ2 : Hid _ := HQ
   clear hT hJ et HX hci hlen HQ HP H ht
   unfold fr0 at HQ2
   dsimp only at HQ2
   cases od
   ·simp only [Bool.false_and] at HQ2
    go_wp2_with fail
    go_roundw
    case rel => exact ⟨i + 1, by omega, by go_num, HQ2⟩
    case measure => simp [intOf]; omega
   ·cases dd
    ·cases mj
     ·simp only [Bool.not_false, Bool.and_self] at HQ2
      go_wp2_with fail
      go_roundw
      case rel => exact ⟨i + 1, by omega, by go_num, HQ2⟩
      case measure => simp [intOf]; omega
     ·simp only [Bool.not_false, Bool.not_true, Bool.and_self, Bool.and_false] at HQ2
      go_wp2_with fail
      go_roundw
      case rel => exact ⟨i + 1, by omega, by go_num, HQ2⟩
      case measure => simp [intOf]; omega
    ·simp only [Bool.not_true, Bool.and_false, Bool.false_and] at HQ2
     go_wp2_with fail
     go_roundw
     case rel => exact ⟨i + 1, by omega, by go_num, HQ2⟩
     case measure => simp [intOf]; omega
  ·obtain rfl : i = s.T.length := by omega
   have H2 : Hid (wr.ownsRow w.heap.size 4 1 (.slice (some ⟨w.heap.size, 0, none⟩) s.T.length s.T.length) s.T.length ((((s.rs.take 0).foldl frR (s.T.map (fr0 mj)))).map Value.bool) /\ Below w.heap.size w wr) := ⟨by
    have e : frI mj s.T s.T.length = s.T.map (fr0 mj) := by unfold frI; simp
    have := H.out.1
    rw [e] at this
    simpa using this, H.out.2⟩
   have HRL : Hid (s.rs.length = 12) := (wr_cells hJ).2.2.2.2.2.2.1
   clear hT hJ H
   go_wp2_with fail
   go_loopw [7] (fun kv wr => ∃ k : Nat, k <= 12 /\ kv = .int .i64 k /\ Hid (wr.ownsRow w.heap.size 4 1 (.slice (some ⟨w.heap.size, 0, none⟩) s.T.length s.T.length) s.T.length ((((s.rs.take k).foldl frR (s.T.map (fr0 mj)))).map Value.bool) /\ Below w.heap.size w wr)) (fun kv _ => 12 - (intOf kv).toNat)
   case atStart => exact ⟨0, by omega, rfl, H2⟩
   case round =>
    clear H2 c0
    obtain ⟨k, hk, rfl, H⟩ := hrel
    have hJ := HWG.out wr H.out.2
    obtain ⟨c1, _, _, _, _, _, _, hrt⟩ := wr_cells hJ
    by_cases hlk : k < 12
    ·obtain ⟨x0, x1, _⟩ := hrt k hlk
     have hkl : k < s.rs.length := by rw [HRL.out]; exact hlk
     have hv := HR.out (s.rs.getD k (0, 0)) (getD_in hkl)
     have HX : Hid (∀ L0 : List Bool, (s.rs.take (k + 1)).foldl frR L0 = frR ((s.rs.take k).foldl frR L0) (s.rs.getD k (0, 0))) := fun L0 => by
      rw [List.take_succ_eq_append_getElem hkl, List.foldl_append, List.getD_eq_getElem?_getD, List.getElem?_eq_getElem hkl]
      rfl
     have HLn : Hid (((s.rs.take k).foldl frR (s.T.map (fr0 mj))).length = s.T.length) := by
      show _ = _
      have := frs_len s.T (s.rs.take k) mj
      exact this
     generalize s.rs.getD k (0, 0) = v at *
     obtain ⟨vk, vn⟩ := v
     dsimp only at *
     have q0 : (0 : Int) <= (k : Int) := by omega
     have q1 : (k : Int) < 12 := by omega
     by_cases h3 : vk = 3
     ·obtain ⟨n0, n1⟩ := hv h3
      obtain ⟨n, rfl⟩ := Int.eq_ofNat_of_zero_le n0
      have b3 : (vk == 3) = true := by simpa using h3
      have HQ : Hid ((wr.setCell ⟨w.heap.size, n, none⟩ (.bool true)).ownsRow w.heap.size 4 1 (.slice (some ⟨w.heap.size, 0, none⟩) s.T.length s.T.length) s.T.length (((s.rs.take (k + 1)).foldl frR (s.T.map (fr0 mj))).map Value.bool) /\ Below w.heap.size w (wr.setCell ⟨w.heap.size, n, none⟩ (.bool true))) := ⟨by
       rw [HX.out]
       unfold frR
       rw [if_pos h3, List.map_set]
       exact row_put H.out.1 n _, H.out.2.trans (((Fr.refl (fun k => k = w.heap.size) wr).set w.heap.size n _ rfl).below H.out.2.size (fun k e => Nat.le_of_eq (Eq.symm e)))⟩
      have hci : (((s.rs.take k).foldl frR (s.T.map (fr0 mj))).map Value.bool)[n]? = some (.bool (((s.rs.take k).foldl frR (s.T.map (fr0 mj))).getD n false)) := by
       have hl9 : n < ((s.rs.take k).foldl frR (s.T.map (fr0 mj))).length := by rw [HLn.out]; omega
       rw [List.getElem?_map, List.getElem?_eq_getElem hl9, List.getD_eq_getElem?_getD, List.getElem?_eq_getElem hl9]
       rfl
      obtain ⟨u0, u1⟩ := row_cell H.out.1 hci
      have q2 : (0 : Int) <= (n : Int) := n0
      clear hJ hrt hv HX h3 H hci n0
      go_wp2_with fail
      go_roundw
      case rel => exact ⟨k + 1, by omega, by go_num, HQ⟩
      case measure => simp [intOf]; omega
     ·have b3 : (vk == 3) = false := by simpa using h3
      have HQ : Hid (wr.ownsRow w.heap.size 4 1 (.slice (some ⟨w.heap.size, 0, none⟩) s.T.length s.T.length) s.T.length (((s.rs.take (k + 1)).foldl frR (s.T.map (fr0 mj))).map Value.bool) /\ Below w.heap.size w wr) := ⟨by
       rw [HX.out]
       unfold frR
       rw [if_neg h3]
       exact H.out.1, H.out.2⟩
      clear hJ hrt hv HX h3 H
      go_wp2_with fail
      go_roundw
      case rel => exact ⟨k + 1, by omega, by go_num, HQ⟩
      case measure => simp [intOf]; omega
    ·obtain rfl : k = 12 := by omega
     have hfin : wr.ownsRow w.heap.size 4 1 (.slice (some ⟨w.heap.size, 0, none⟩) s.T.length s.T.length) s.T.length ((frs s.T s.rs mj).map Value.bool) := by
      have := H.out.1
      rw [List.take_of_length_le (by rw [HRL.out]; decide)] at this
      exact this
     have hbf := H.out.2
     clear hJ hrt H
     go_wp2_with fail
     go_ret
     exact ⟨w.heap.size, rfl, hfin, hbf⟩
end
end Go.Proofs.YtnalfnlmaallmaaGreat

namespace Go.Proofs.YtnalfnlmaallmaaGreat
set_option maxRecDepth 100000
set_option maxHeartbeats 1000000
open Go.RowKit W Kp Stl
def usP (p : Int × Int) (t : Tw1) : Int × Int := if t.2.2.2 = true then p else if t.2.2.1 = true then (p.1, p.2 + (1 + t.2.1.length)) else (p.1 + (1 + t.2.1.length), p.2)
def usd (l : List Tw1) : Int × Int := l.foldl usP (0, 0)
theorem usd_snoc (l : List Tw1) (t : Tw1) : usd (l ++ [t]) = usP (usd l) t := by simp [usd, List.foldl_append]
theorem usd_bd (l : List Tw1) (h : ∀ t ∈ l, t.2.1.length <= 12) : 0 <= (usd l).1 /\ (usd l).1 <= 13 * l.length /\ 0 <= (usd l).2 /\ (usd l).2 <= 13 * l.length := by
 have key : ∀ (l : List Tw1) (p : Int × Int), (∀ t ∈ l, t.2.1.length <= 12) -> p.1 <= (l.foldl usP p).1 /\ (l.foldl usP p).1 <= p.1 + 13 * l.length /\ p.2 <= (l.foldl usP p).2 /\ (l.foldl usP p).2 <= p.2 + 13 * l.length := by
  intro l
  induction l with
  | nil => intro p _; simp
  | cons t l ih =>
   intro p hl
   have h1 := ih (usP p t) (fun x hx => hl x (List.mem_cons_of_mem _ hx))
   have h2 := hl t (by simp)
   rw [List.foldl_cons]
   have h3 : p.1 <= (usP p t).1 /\ (usP p t).1 <= p.1 + 13 /\ p.2 <= (usP p t).2 /\ (usP p t).2 <= p.2 + 13 := by
    unfold usP
    split
    ·omega
    ·split
     ·dsimp only; omega
     ·dsimp only; omega
   simp only [List.length_cons]
   omega
 have := key l (0, 0) h
 unfold usd
 dsimp only at this
 omega
section
variable {rp rb : Nat} {most grow : Int} {F : Nat -> Prop} {s : Wrs} {w : World}
theorem usedW_any (h : (wrO rp rb most grow).J F s w) (hT : ∀ t ∈ s.T, t.2.1.length <= 12) (hl : s.T.length <= 10000) :
  Calls Tryz.prog 28 #[.pointer (some ⟨rp, 0, none⟩)] w fun e w' => e = .returned (.tuple #[.int .i64 (usd s.T).1, .int .i64 (usd s.T).2]) /\ Below w.heap.size w w' := by
 have HJ : Hid ((wrO rp rb most grow).J F s w) := h
 have HT : Hid (∀ t ∈ s.T, t.2.1.length <= 12) := hT
 clear h hT
 go_enter Tryz.func28, Tryz.ntmps28
 go_wp2_with fail
 go_loopw [4, 5, 6] (fun av bv iv wr => ∃ (j : Nat) (x y : Int), j <= s.T.length /\ iv = .int .i64 j /\ av = .int .i64 x /\ bv = .int .i64 y /\ Hid (usd (s.T.take j) = (x, y)) /\ Below w.heap.size w wr) (fun _ _ iv _ => s.T.length - (intOf iv).toNat)
 case atStart => exact ⟨0, 0, 0, Nat.zero_le _, rfl, rfl, rfl, rfl, Below.refl _ _⟩
 case round =>
  obtain ⟨j, x, y, hj, rfl, rfl, rfl, HE, hb⟩ := hrel
  have hJ1 := (wrO rp rb most grow).below HJ.out hb
  obtain ⟨aT, cT, c0, _, cx⟩ := wr_things hJ1
  have bd := usd_bd (s.T.take j) (fun t ht => HT.out t (List.mem_of_mem_take ht))
  rw [HE.out] at bd
  have hl2 : (s.T.take j).length = j := by rw [List.length_take]; omega
  rw [hl2] at bd
  dsimp only at bd
  obtain ⟨bd1, bd2, bd3, bd4⟩ := bd
  by_cases hlt : j < s.T.length
  ·obtain ⟨t, ht⟩ : ∃ t, s.T[j]? = some t := ⟨_, List.getElem?_eq_getElem hlt⟩
   obtain ⟨b, ad, cp, rfl, x0, x1, x2, x3, _⟩ := cx j t ht
   have hf := HT.out t (List.mem_of_getElem? ht)
   have HS : Hid (usd (s.T.take (j + 1)) = usP (x, y) t) := by
    show _ = _
    rw [List.take_succ_eq_append_getElem hlt, usd_snoc, HE.out]
    congr 1
    rw [List.getElem?_eq_getElem hlt] at ht
    simpa using ht
   obtain ⟨kd, fs, od, dd⟩ := t
   dsimp only at x0 x1 x2 x3 hf
   have j0 : (0 : Int) <= (j : Int) := by omega
   have j1 : (j : Int) < (s.T.length : Int) := by omega
   have HB : Hid (Below w.heap.size w (wr.alloc (.cells #[.int .i64 kd, .slice ad fs.length cp, .bool od, .bool dd] 126))) := hb.alloc hb.size _
   clear hJ1 cx hb ht
   cases dd
   ·cases od
    ·have HS2 : Hid (usd (s.T.take (j + 1)) = (x + (1 + fs.length), y)) := HS.out
     go_wp2_with fail
     go_roundw
     case rel => exact ⟨j + 1, x + (1 + fs.length), y, by omega, by go_num, by go_num, rfl, HS2, HB.out⟩
     case measure => simp [intOf]; omega
    ·have HS2 : Hid (usd (s.T.take (j + 1)) = (x, y + (1 + fs.length))) := HS.out
     go_wp2_with fail
     go_roundw
     case rel => exact ⟨j + 1, x, y + (1 + fs.length), by omega, by go_num, rfl, by go_num, HS2, HB.out⟩
     case measure => simp [intOf]; omega
   ·have HS2 : Hid (usd (s.T.take (j + 1)) = (x, y)) := HS.out
    go_wp2_with fail
    go_roundw
    case rel => exact ⟨j + 1, x, y, by omega, by go_num, rfl, rfl, HS2, HB.out⟩
    case measure => simp [intOf]; omega
  ·obtain rfl : j = s.T.length := by omega
   rw [List.take_length] at HE
   clear hJ1 cx
   go_wp2_with fail
   go_ret2
   rw [HE.out]
   exact ⟨rfl, hb⟩
end
end Go.Proofs.YtnalfnlmaallmaaGreat

namespace Go.Proofs.YtnalfnlmaallmaaGreat
open Go.RowKit W Kp Stl
section
variable {T : List Tw1} {wt : List En}
theorem Cls.less {C : List En} {X : Nat -> Prop} (h : Cls T (wt ++ C) X) : Cls T wt X := fun i hi hX v hv h3 => h i hi hX v (by
 rcases hv with h | h | h | ⟨h1, e, he, h2⟩
 ·exact Or.inl h
 ·exact Or.inr (Or.inl h)
 ·exact Or.inr (Or.inr (Or.inl h))
 ·exact Or.inr (Or.inr (Or.inr ⟨h1, e, List.mem_append_left _ he, h2⟩))) h3
theorem Cls.more {C : List En} {X : Nat -> Prop} (h : Cls T wt X) (hC : ∀ e ∈ C, X e.2.toNat) : Cls T (wt ++ C) X := fun i hi hX v hv h3 => by
 rcases hv with h1 | h1 | h1 | ⟨h1, e, he, h2, h4⟩
 ·exact h i hi hX v (Or.inl h1) h3
 ·exact h i hi hX v (Or.inr (Or.inl h1)) h3
 ·exact h i hi hX v (Or.inr (Or.inr (Or.inl h1))) h3
 ·rcases List.mem_append.1 he with d | d
  ·exact h i hi hX v (Or.inr (Or.inr (Or.inr ⟨h1, e, d, h2, h4⟩))) h3
  ·rw [h4]
   exact hC e d
theorem Grn.less {C : List En} {is out : List Bool} (h : Grn T (wt ++ C) is out) (hC : ∀ e ∈ C, Ls_ is e.2.toNat) : Grn T wt is out :=
 ⟨h.len, h.up, h.cl.less, fun X hX hi => h.lt X (hX.more (fun e he => hi _ (hC e he))) hi⟩
theorem Grn.uniq {is a b : List Bool} (h : Grn T wt is a) (h' : Grn T wt is b) : a = b := by
 refine List.ext_getElem (h.len.trans h'.len.symm) (fun i h1 h2 => ?_)
 have key : Ls_ a i ↔ Ls_ b i := ⟨fun q => h.lt _ h'.cl h'.up i q, fun q => h'.lt _ h.cl h.up i q⟩
 unfold Ls_ at key
 rw [List.getD_eq_getElem?_getD, List.getElem?_eq_getElem h1, List.getD_eq_getElem?_getD, List.getElem?_eq_getElem h2] at key
 have key : a[i] = true ↔ b[i] = true := key
 cases ha : a[i] <;> cases hb : b[i] <;> simp_all
end
def isd (L : List Bool) (x : Int) : Bool := L.getD x.toNat false
def kpg (g : List Bool -> List Bool) (L : List Bool) (x : Int) : List Bool := g (L.set x.toNat true)
def cwn (T : List Tw1) (L : List Bool) : Nat -> Int
 | 0 => 0
 | i + 1 => if L.getD i false = true then cwn T L i + (1 + (T.getD i t0).2.1.length) else cwn T L i
def cuT (L : List Bool) (i : Nat) (t : Tw1) : Tw1 :=
 if L.getD i false = true then
  (t.1, (if t.1 = 4 /\ inS L (t.2.1.getD 0 (0, 0)) = false then [(2, 0), (2, 0)] else if t.1 = 3 /\ inS L (t.2.1.getD 0 (0, 0)) = false then [(2, 0), t.2.1.getD 1 (0, 0)] else t.2.1), true, t.2.2.2)
 else (t.1, [], t.2.2.1, true)
def cuL (L : List Bool) (T : List Tw1) : Nat -> List Tw1
 | 0 => T
 | i + 1 => (cuL L T i).set i (cuT L i (T.getD i t0))
def Wrs.c0 (g : List Bool -> List Bool) (s : Wrs) (mj : Bool) : List Bool := g (frs s.T s.rs mj)
def Wrs.cR (g : List Bool -> List Bool) (s : Wrs) (mj : Bool) : List Bool × List En × List En :=
 turns isd (kpg g) (s.rg.length + 1) (s.rg.filter (fun e => !isd (s.c0 g mj) e.2)) (s.c0 g mj) []
def Wrs.cF (g : List Bool -> List Bool) (s : Wrs) (grow : Int) (mj : Bool) : Bool :=
 (!mj && decide (grow - (usd s.T).2 < (usd s.T).1)) || decide (grow < cwn s.T (s.cR g mj).1 s.T.length)
def Wrs.cut (g : List Bool -> List Bool) (s : Wrs) (grow : Int) (mj : Bool) : Wrs :=
 if s.cF g grow mj = true then s else
  { T := cuL (s.cR g mj).1 s.T s.T.length, rs := s.rs, rg := s.rg.filter (fun e => isd (s.c0 g mj) e.2 && isd (s.cR g mj).1 e.1), wt := (s.wt ++ (s.cR g mj).2.1).filter (fun e => isd (s.cR g mj).1 e.1) }
def Wrs.ccd (g : List Bool -> List Bool) (s : Wrs) (grow : Int) (mj : Bool) : Int := if s.cF g grow mj = true then 3 else 0
def Gok (T : List Tw1) (wt : List En) (g : List Bool -> List Bool) : Prop := ∀ is : List Bool, is.length = T.length -> (∀ k, Ls_ is k -> Alv T k) -> Grn T wt is (g is)
theorem cuL_len (L : List Bool) (T : List Tw1) : ∀ i, (cuL L T i).length = T.length
 | 0 => rfl
 | i + 1 => by
  rw [cuL, List.length_set]
  exact cuL_len L T i
theorem cuL_get (L : List Bool) (T : List Tw1) : ∀ (i j : Nat), i <= T.length -> j < T.length -> (cuL L T i).getD j t0 = if j < i then cuT L j (T.getD j t0) else T.getD j t0
 | 0, j, _, _ => by rw [if_neg (by omega)]; rfl
 | i + 1, j, hi, hj => by
  have ih := cuL_get L T i j (by omega) hj
  rw [cuL, List.getD_eq_getElem?_getD, List.getElem?_set]
  by_cases e : i = j
  ·subst e
   rw [if_pos rfl, if_pos (by rw [cuL_len]; exact hj), if_pos (by omega)]
   rfl
  ·rw [if_neg e, <- List.getD_eq_getElem?_getD, ih]
   by_cases c : j < i
   ·rw [if_pos c, if_pos (by omega)]
   ·rw [if_neg c, if_neg (by omega)]
theorem cwn_bd (T : List Tw1) (L : List Bool) (h : ∀ i, (T.getD i t0).2.1.length <= 12) : ∀ i, 0 <= cwn T L i /\ cwn T L i <= 13 * i
 | 0 => by simp [cwn]
 | i + 1 => by
  have ih := cwn_bd T L h i
  have := h i
  unfold cwn
  split
  ·omega
  ·omega
section
variable {T : List Tw1} {wt : List En} {g : List Bool -> List Bool}
structure Sok_ (T : List Tw1) (L : List Bool) : Prop where
  len : L.length = T.length
  al : ∀ k, Ls_ L k -> Alv T k
theorem Gok.ok (hg : Gok T wt g) (hW : Wiv T wt) {L : List Bool} (h : Sok_ T L) : Sok_ T (g L) /\ ∀ k, Ls_ L k -> Ls_ (g L) k := by
 have hG := hg L h.len h.al
 exact ⟨⟨hG.len.trans h.len, fun k hk => hG.lt _ hW.cls h.al k hk⟩, hG.up⟩
theorem Sok_.put {L : List Bool} (h : Sok_ T L) {x : Nat} (hx : Alv T x) : Sok_ T (L.set x true) /\ Ls_ (L.set x true) x /\ ∀ k, Ls_ L k -> Ls_ (L.set x true) k := by
 have hl : x < L.length := by rw [h.len]; exact hx.1
 refine ⟨⟨by rw [List.length_set]; exact h.len, fun k hk => ?_⟩, ?_, fun k hk => ?_⟩
 ·unfold Ls_ at hk
  rw [getD_setB _ _ _ hl] at hk
  split at hk
  ·rename_i e
   rw [<- e]
   exact hx
  ·exact h.al k hk
 ·unfold Ls_
  rw [getD_setB _ _ _ hl, if_pos rfl]
 ·unfold Ls_ at hk ⊢
  rw [getD_setB _ _ _ hl]
  split
  ·rfl
  ·exact hk
theorem Sok_.kpg (hg : Gok T wt g) (hW : Wiv T wt) {L : List Bool} (h : Sok_ T L) {x : Int} (hx : Alv T x.toNat) : Sok_ T (kpg g L x) /\ Ls_ (kpg g L x) x.toNat /\ ∀ k, Ls_ L k -> Ls_ (kpg g L x) k := by
 obtain ⟨p1, p2, p3⟩ := h.put hx
 obtain ⟨q1, q2⟩ := hg.ok hW p1
 exact ⟨q1, q2 _ p2, fun k hk => q2 _ (p3 k hk)⟩
end
end Go.Proofs.YtnalfnlmaallmaaGreat

namespace Go.Proofs.YtnalfnlmaallmaaGreat
set_option maxRecDepth 100000
set_option maxHeartbeats 1000000
open Go.RowKit W Kp Stl
def usO (k : Int) : Int := if k = 1 then 1 else if k = 2 then 1 else if k = 9 then 6 else if k = 11 then 3 else 6
theorem usesOf_any (k : Int) (hk : k = 1 \/ k = 2 \/ k = 9 \/ k = 11 \/ k = 12) (w : World) : Calls Tryz.prog 164 #[.int .i64 k] w fun e w' => e = .returned (.int .i64 (usO k)) /\ w' = w := by
 rcases hk with rfl | rfl | rfl | rfl | rfl
 all_goals
  go_enter Tryz.func164, Tryz.ntmps164
  go_wp2_with fail
  go_ret
  exact ⟨rfl, rfl⟩
def sfC (k n : Int) : Int := if k = 1 then rc n (-1152921504606846976) else 0
theorem sfC_lo (k n : Int) (h : n < -1152921504606846976) : sfC k n = if k = 1 then 1 else 0 := by unfold sfC rc; rw [if_pos h]
theorem sfC_hi (k n : Int) (h : 1152921504606846976 <= n) : sfC k n = if k = 1 then 1 else 0 := by
 unfold sfC rc
 by_cases hk : k = 1
 ·rw [if_pos hk, if_pos hk, if_neg (by omega), if_pos h]
 ·rw [if_neg hk, if_neg hk]
theorem sfC_ok (k n : Int) (h1 : -1152921504606846976 <= n) (h2 : n < 1152921504606846976) : sfC k n = 0 := by
 unfold sfC rc
 by_cases hk : k = 1
 ·rw [if_pos hk, if_neg (by omega), if_neg (by omega)]
 ·rw [if_neg hk]
theorem stepFault_any (k R A B I n : Int) (hk : k = 1 \/ k = 2 \/ k = 9 \/ k = 11 \/ k = 12) (hR : 0 <= R /\ R < 12) (hA : 0 <= A /\ A < 12) (hB : 0 <= B /\ B < 12) (w : World) :
  Calls Tryz.prog 79 #[.agg #[.int .i64 k, .int .i64 R, .int .i64 A, .int .i64 B, .int .i64 I, .int .i64 n]] w fun e w' => e = .returned (.int .i64 (sfC k n)) /\ Below w.heap.size w w' := by
 obtain ⟨r0, r1⟩ := hR
 obtain ⟨a0, a1⟩ := hA
 obtain ⟨b0, b1⟩ := hB
 have U := usesOf_any k hk
 have hb0 := (Below.refl w.heap.size w).alloc (Nat.le_refl _) (.cells #[.int .i64 k, .int .i64 R, .int .i64 A, .int .i64 B, .int .i64 I, .int .i64 n] 56)
 rcases hk with rfl | rfl | rfl | rfl | rfl
 all_goals
  go_enter Tryz.func79, Tryz.ntmps79
  go_wp2_with fail
  refine (U _).mono ?_
  rintro e w1 ⟨rfl, rfl⟩
  simp only [usO]
  go_wp2_with fail
  go_loopw [5] (fun iv wr => ∃ (j : Nat), j <= 3 /\ iv = .int .i64 j /\ wr = (w.alloc (.cells #[.int .i64 _, .int .i64 R, .int .i64 A, .int .i64 B, .int .i64 I, .int .i64 n] 56)).alloc (.cells #[.int .i64 R, .int .i64 A, .int .i64 B] 3)) (fun iv _ => 3 - (intOf iv).toNat)
  case atStart => exact ⟨0, by omega, rfl, rfl⟩
  case round =>
   obtain ⟨j, hj, rfl, rfl⟩ := hrel
   by_cases hlt : j < 3
   ·rcases (show j = 0 \/ j = 1 \/ j = 2 by omega) with rfl | rfl | rfl
    all_goals
     go_wp2_with fail
     go_roundw
     case rel => first | exact ⟨1, by decide, rfl, trivial⟩ | exact ⟨2, by decide, rfl, trivial⟩ | exact ⟨3, by decide, rfl, trivial⟩
     case measure => simp [intOf]
   ·obtain rfl : j = 3 := by omega
    by_cases h1 : n < -1152921504606846976
    ·have H1 : Hid (n < -1152921504606846976) := h1
     have h2 : ¬ 1152921504606846976 <= n := by omega
     go_wp2_with fail
     go_ret
     exact ⟨by rw [sfC_lo _ _ H1.out]; rfl, hb0.alloc (by simp) _⟩
    ·have H1 : Hid (-1152921504606846976 <= n) := by show _ <= _; omega
     by_cases h2 : 1152921504606846976 <= n
     ·have H2 : Hid (1152921504606846976 <= n) := h2
      clear H1
      go_wp2_with fail
      go_ret
      exact ⟨by rw [sfC_hi _ _ H2.out]; rfl, hb0.alloc (by simp) _⟩
     ·have H2 : Hid (n < 1152921504606846976) := by show _ < _; omega
      go_wp2_with fail
      go_ret
      exact ⟨by first | (rw [sfC_ok _ _ H1.out H2.out]; rfl) | rw [sfC_ok _ _ H1.out H2.out], hb0.alloc (by simp) _⟩
end Go.Proofs.YtnalfnlmaallmaaGreat
