/- Joined: Wr, Wr2, Wo5, Wo6, Wv1, Wv2, Ws10, Ws11, Ws12. -/
import Derived.Test.YtalgochmjddodaaGreatJ03
import Derived.Test.YtalgochmjddodaaGreatJ04
import Derived.Deep.DeepCutAuto
import Derived.Test.YtalgochmjddodaaGreatJ06
import Derived.Test.YtalgochmjddodaaGreatJ24
import Derived.Test.YtalgochmjddodaaGreatJ28
import Derived.Test.YtalgochmjddodaaGreatJ26
import Derived.Test.YtalgochmjddodaaGreatJ29
namespace Go.Proofs.YtalgochmjddodaaGreat
set_option maxRecDepth 100000
set_option maxHeartbeats 400000
open Go.RowKit W
theorem wp_copy_mv {P : Program} {o : Oper} {a : Act} {w : World} {K : Act -> World -> Prop} {Q : Exit -> Act -> World -> Prop} (hgd : o.guard = none) (d s : Operand) (dT sT elem : TypeId)
  (ho : o.op = .call { callee := .builtin .copy, args := #[d, s], argTypes := #[dT, sT] }) (hu : P.underlying dT = some (.slice elem)) (hsz : (P.info? elem).map (·.size) = some 1)
  (dp sp : Option Addr) (dLen dCap sLen sCap : Nat) (hd : a.eval d = .slice dp dLen dCap) (hs : a.eval s = .slice sp sLen sCap)
  (g off : Nat) (cur : List Value) (t : TypeId) (hg : w.heap[g]? = some (.cells cur.toArray t (0, 0))) (cs : List Value) (hn : cs.length = Nat.min sLen dLen)
  (hpos : 0 < cs.length -> dp = some ⟨g, off, none⟩ /\ ∃ ad, sp = some ad /\ ∀ j v, cs[j]? = some v -> w.cell? (ad.add j) = some v)
  (hfit : off + cs.length <= cur.length) (h1 : ∀ v ∈ cs, v.oneCell' = true)
  (h : ∀ w', Mv w w' g cur off cs -> K (a.put o.dst (goInt cs.length)) w') : Oper.wp P o a w K Q := by
 have := step_copy_mv (P := P) (ops := #[]) (o := o) (a := a) (w := w) (K := K) (Q := Q) (E := False) hgd d s dT sT elem ho hu hsz dp sp dLen dCap sLen sCap hd hs g off cur t hg cs hn hpos hfit h1 h
 rwa [if_pos (show Region.wanted o (yielded #[] a.tmps) = true by simp [Region.wanted, hgd])] at this
theorem wpList_copy_mv {P : Program} {ops : Array Oper} {rest : List Oper} {o : Oper} {a : Act} {w : World} {Q : Exit -> Act -> World -> Prop} (hgd : o.guard = none) (d s : Operand) (dT sT elem : TypeId)
  (ho : o.op = .call { callee := .builtin .copy, args := #[d, s], argTypes := #[dT, sT] }) (hu : P.underlying dT = some (.slice elem)) (hsz : (P.info? elem).map (·.size) = some 1)
  (dp sp : Option Addr) (dLen dCap sLen sCap : Nat) (hd : a.eval d = .slice dp dLen dCap) (hs : a.eval s = .slice sp sLen sCap)
  (g off : Nat) (cur : List Value) (t : TypeId) (hg : w.heap[g]? = some (.cells cur.toArray t (0, 0))) (cs : List Value) (hn : cs.length = Nat.min sLen dLen)
  (hpos : 0 < cs.length -> dp = some ⟨g, off, none⟩ /\ ∃ ad, sp = some ad /\ ∀ j v, cs[j]? = some v -> w.cell? (ad.add j) = some v)
  (hfit : off + cs.length <= cur.length) (h1 : ∀ v ∈ cs, v.oneCell' = true)
  (h : ∀ w', Mv w w' g cur off cs -> wpList P ops Q rest (a.put o.dst (goInt cs.length)) w') : wpList P ops Q (o :: rest) a w :=
 wpList_plain hgd fun _ hK => wp_copy_mv hgd d s dT sT elem ho hu hsz dp sp dLen dCap sLen sCap hd hs g off cur t hg cs hn hpos hfit h1 (fun w' hw => hK _ _ (h w' hw))
theorem mul64_c (w : World) : Calls Tryz.prog 224 #[.int .u64 1, .int .u64 12] w fun e w' => e = .returned (.tuple #[.int .u64 0, .int .u64 12]) /\ w' = w := by
 go_enter Tryz.func224, Tryz.ntmps224
 go_wp2_with fail
 go_ret2
 exact ⟨rfl, rfl⟩
theorem mul_c (w : World) : Calls Tryz.prog 178 #[.int .u64 1, .int .u64 12] w fun e w' => e = .returned (.tuple #[.int .u64 0, .int .u64 12]) /\ w' = w := by
 go_enter Tryz.func178, Tryz.ntmps178
 go_wp2_with fail
 refine (mul64_c w).mono ?_
 rintro e w1 ⟨rfl, hw⟩
 have hw := hw.symm
 subst hw
 go_wp2_with fail
 go_ret2
 exact ⟨rfl, rfl⟩
end Go.Proofs.YtalgochmjddodaaGreat

namespace Go.Proofs.YtalgochmjddodaaGreat
set_option maxRecDepth 100000
set_option maxHeartbeats 400000
open Go.RowKit W
def tw (v : Int) (n : Nat) : List Int := List.replicate n v ++ List.replicate (12 - n) 0
theorem tw_len (v : Int) (n : Nat) (h : n <= 12) : (tw v n).length = 12 := by simp [tw]; omega
theorem tw_step (v : Int) (n m : Nat) (h : n + m <= 12) : splice (tw v n) n (List.replicate m v) = tw v (n + m) := by
 unfold splice tw
 rw [List.take_left' (by simp), List.length_replicate, List.drop_append, List.length_replicate]
 simp only [List.drop_replicate]
 rw [show n - (n + m) = 0 by omega, show 12 - n - (n + m - n) = 12 - (n + m) by omega]
 simp
 rw [<- List.append_assoc, List.replicate_append_replicate]
theorem tw_get (v : Int) (n i : Nat) (h : i < n) : (tw v n).getD i 0 = v := by
 unfold tw
 rw [List.getD_eq_getElem?_getD, List.getElem?_append_left (by simpa using h)]
 simp [h]
theorem one_cell {w : World} {b : Nat} {v : Int} (hc : w.cell? ⟨b, 0, none⟩ = some (.int .i64 v)) : ∀ j u, ((List.replicate 1 v).map (Value.int .i64))[j]? = some u -> w.cell? ((⟨b, 0, none⟩ : Addr).add j) = some u := by
 intro j u hj
 have hj0 : j = 0 := by
  have := (List.getElem?_eq_some_iff.1 hj).1
  simpa using this
 subst hj0
 simp at hj
 rw [<- hj]
 simpa [Addr.add] using hc
theorem tw_cell {w : World} {nb n : Nat} {v : Int} (hr : w.heap[nb]? = some (.cells ((tw v n).map (Value.int .i64)).toArray 2 (0, 0))) (hn : n <= 12) (m : Nat) (hm : m <= n) : ∀ j u, ((List.replicate m v).map (Value.int .i64))[j]? = some u -> w.cell? ((⟨nb, 0, none⟩ : Addr).add j) = some u := by
 intro j u hj
 have hjm : j < m := by
  have := (List.getElem?_eq_some_iff.1 hj).1
  simpa using this
 have hu : u = .int .i64 v := by
  simp [hjm] at hj
  exact hj.symm
 have hl := tw_len v n hn
 have hg := tw_get v n j (by omega)
 rw [List.getD_eq_getElem?_getD, List.getElem?_eq_getElem (by omega : j < (tw v n).length)] at hg
 simp at hg
 have ea : (⟨nb, 0, none⟩ : Addr).add j = ⟨nb, j, none⟩ := by simp [Addr.add]; intro h; exact h.symm
 rw [ea, hu]
 have hlt : j < (tw v n).length := by omega
 simp [World.cell?, hr, List.getElem?_eq_getElem hlt]
 exact hg
theorem mv_tw {w w' : World} {nb n m B : Nat} {v : Int} (hmv : Mv w w' nb ((tw v n).map (Value.int .i64)) n ((List.replicate m v).map (Value.int .i64))) (hr : w.heap[nb]? = some (.cells ((tw v n).map (Value.int .i64)).toArray 2 (0, 0))) (hm : 0 < m) (h : n + m <= 12) (hB : B <= nb) : w'.heap[nb]? = some (.cells ((tw v (n + m)).map (Value.int .i64)).toArray 2 (0, 0)) /\ Below B w w' := by
 rcases hmv with ⟨h0, _⟩ | rfl
 ·have := congrArg List.length h0
  simp at this
  omega
 ·rw [splice_map, tw_step v n m h]
  exact ⟨setRow_heap w nb _ _ _ _ hr, ⟨rfl, rfl, rfl, by simp [World.setRow], fun k hk => setRow_other w nb k _ (by omega)⟩⟩
theorem repeat12_any (w : World) (b : Nat) (v : Int) (hc : w.cell? ⟨b, 0, none⟩ = some (.int .i64 v)) :
  Calls Tryz.prog 109 #[.slice (some ⟨b, 0, none⟩) 1 1, .int .i64 12] w fun e w' => ∃ nb, e = .returned (.slice (some ⟨nb, 0, none⟩) 12 12) /\ w.heap.size <= nb /\ w'.heap[nb]? = some (.cells ((tw v 12).map (Value.int .i64)).toArray 2 (0, 0)) /\ Below w.heap.size w w' := by
 obtain ⟨i0, hi, hz0, hz1, hz2⟩ := info_parts info64A
 have lb := World.block_lt_of_cell? w _ hc
 dsimp only at lb
 go_enter Tryz.func109, Tryz.ntmps109
 go_wp2_with fail
 refine (mul_c w).mono ?_
 rintro e w0 ⟨rfl, hw⟩
 have hw := hw.symm
 subst hw
 go_upto_region 7 with (at_make; refine wpList_make_full _ rfl _ _ 42 rfl w.heap.size 2 i0 (.int .i64 0) 1 Tryz.underlying42 hi hz0 hz1 .i64 .i64 _ _ 12 rfl rfl (by omega) (by omega) (by rw [hz2]; omega) (by unfold maxLen; omega) (Nat.le_refl _) ?_; intro w1 hown hgrow)
 have hr : w1.heap[w.heap.size]? = some (.cells ((tw v 0).map (Value.int .i64)).toArray 2 (0, 0)) := by
  have h9 := made_row hown
  simpa [tw] using h9
 have hb1 : Below w.heap.size w w1 := (Below.refl _ w).grown hgrow (Nat.le_refl _) (fun _ h => by cases h)
 have x1 := (hb1.cell (p := ⟨b, 0, none⟩) lb).trans hc
 clear hown hgrow
 have H1 : Hid (∀ j u, ((List.replicate 1 v).map (Value.int .i64))[j]? = some u -> w1.cell? ((⟨b, 0, none⟩ : Addr).add j) = some u) := one_cell x1
 have H2 : Hid (w1.heap[w.heap.size]? = some (.cells ((tw v 0).map (Value.int .i64)).toArray 2 (0, 0))) := hr
 have H3 : Hid (((List.replicate 1 v).map (Value.int .i64)).length = Nat.min 1 12) := rfl
 have H4 : Hid (0 + ((List.replicate 1 v).map (Value.int .i64)).length <= ((tw v 0).map (Value.int .i64)).length) := by show _ <= _; rw [List.length_map, List.length_map, tw_len v 0 (by omega)]; simp
 clear x1 hr
 go_wp2_with (refine wpList_copy_mv rfl _ _ 42 42 2 rfl Tryz.underlying42 size64 (some ⟨w.heap.size, 0, none⟩) (some ⟨b, 0, none⟩) 12 12 1 1 rfl rfl w.heap.size 0 ((tw v 0).map (Value.int .i64)) 2 H2.out ((List.replicate 1 v).map (Value.int .i64)) H3.out (fun _ => ⟨rfl, _, rfl, H1.out⟩) H4.out (ints_one _) ?_; intro w2 hmv)
 obtain ⟨hr2, hb2⟩ := mv_tw (B := w.heap.size) hmv H2.out (by omega) (by omega) (Nat.le_refl _)
 have hb12 := hb1.trans hb2
 clear hmv H1 H2 H3 H4 hb1 hb2
 go_loopw [8] (fun nv wr => ∃ n : Nat, 1 <= n /\ n <= 12 /\ nv = .int .i64 n /\ Hid (wr.heap[w.heap.size]? = some (.cells ((tw v n).map (Value.int .i64)).toArray 2 (0, 0))) /\ Below w.heap.size w wr) (fun nv _ => 12 - (intOf nv).toNat)
 case atStart => exact ⟨1, Nat.le_refl _, by omega, rfl, hr2, hb12⟩
 case round =>
  clear hr2 hb12
  obtain ⟨n, n1, n2, rfl, HR, hb⟩ := hrel
  by_cases hlt : n < 12
  ·obtain ⟨m, hm, hm1, hm2, hm3⟩ : ∃ m, m = Nat.min n (12 - n) /\ 0 < m /\ n + m <= 12 /\ m <= n := ⟨_, rfl, by simp only [Nat.min_def]; split <;> omega, by simp only [Nat.min_def]; split <;> omega, by simp only [Nat.min_def]; split <;> omega⟩
   have HRd : Hid (wr.drew.heap[w.heap.size]? = some (.cells ((tw v n).map (Value.int .i64)).toArray 2 (0, 0))) := HR.out
   have H1 : Hid (∀ j u, ((List.replicate m v).map (Value.int .i64))[j]? = some u -> wr.drew.cell? ((⟨w.heap.size, 0, none⟩ : Addr).add j) = some u) := tw_cell HRd.out n2 m hm3
   have H3 : Hid (((List.replicate m v).map (Value.int .i64)).length = Nat.min n (12 - n)) := by show _ = _; rw [<- hm]; simp
   have H4 : Hid (n + ((List.replicate m v).map (Value.int .i64)).length <= ((tw v n).map (Value.int .i64)).length) := by show _ <= _; rw [List.length_map, List.length_map, tw_len v n n2]; simpa using hm2
   have hne : ¬ 12 = n := by omega
   have i0 : (0 : Int) <= (n : Int) := by omega
   have i1 : (n : Int) <= 12 := by omega
   have i2 : (n : Int) < 12 := by omega
   clear HR
   go_wp2_with fail
   go_region_law (refine step_copy_mv rfl (.tmp 41) (.tmp 44) 42 42 2 rfl Tryz.underlying42 size64 (some ⟨w.heap.size, n, none⟩) (some ⟨w.heap.size, 0, none⟩) (12 - n) (12 - n) n 12 ?_ ?_ w.heap.size n ((tw v n).map (Value.int .i64)) 2 HRd.out ((List.replicate m v).map (Value.int .i64)) H3.out (fun _ => ⟨rfl, _, rfl, H1.out⟩) H4.out (ints_one _) ?_; (simp [Act.eval, Act.put]); (simp [Act.eval, Act.put]); intro w3 hmv3)
   obtain ⟨hr3, hb3⟩ := mv_tw (B := w.heap.size) hmv3 HRd.out hm1 hm2 (Nat.le_refl _)
   have HR3 : Hid (w3.heap[w.heap.size]? = some (.cells ((tw v (n + m)).map (Value.int .i64)).toArray 2 (0, 0))) := hr3
   have hb13 := hb.drew.trans hb3
   have hw : IntKind.i64.wrap ((n : Int) + (m : Int)) = ((n + m : Nat) : Int) := by rw [IntKind.wrap_i64]; omega
   clear hr3 hb3 hmv3 HRd H1 H3 H4 hb
   simp [Act.put, go_sem, Exit.inBlock]
   rw [<- hm, hw]
   refine ⟨⟨_, _, _, _, _, _, _, _, _, _, _, _, _, _, ?rel, rfl⟩, ?measure⟩
   case rel => exact ⟨n + m, by omega, hm2, rfl, HR3, hb13⟩
   case measure => simp [intOf]; omega
  ·obtain rfl : n = 12 := by omega
   have HR2 := HR.out
   go_wp2_with fail
   go_ret
   exact ⟨w.heap.size, rfl, Nat.le_refl _, HR2, hb⟩
end Go.Proofs.YtalgochmjddodaaGreat

namespace Go.Proofs.YtalgochmjddodaaGreat
set_option maxRecDepth 100000
set_option maxHeartbeats 1000000
open Go.RowKit W
theorem newW_yes (n o : Nat) (w : World) (h0 : 16 <= n) (h1 : n <= 256) (h3 : o <= 1024) :
  Calls Tryz.prog 45 #[.int .i64 n, .int .i64 o] w fun e w' => ∃ pw p q pc pq s nb, e = .returned (.tuple #[.pointer (some ⟨pw, 0, none⟩), .agg #[.int .i64 0, .int .i64 0]]) /\ Wod w' pw p q pc pq n o 0 0 (List.replicate (n + o) 0) (nC o) [] (.pointer (some ⟨s, 0, none⟩)) (.slice (some ⟨nb, 0, none⟩) 12 12) /\ w'.heap[s]? = some (.cells #[.slice none 0 0, .slice none 0 0] 72 (0, 0)) /\ w'.heap[nb]? = some (.cells ((tw 2 12).map (Value.int .i64)).toArray 2 (0, 0)) /\
   (w.heap.size <= pw /\ w.heap.size <= p /\ w.heap.size <= q /\ w.heap.size <= pc /\ w.heap.size <= pq /\ w.heap.size <= s /\ w.heap.size <= nb) /\ Below w.heap.size w w' := by
 have hba := (Below.refl w.heap.size w).alloc (Nat.le_refl _) (.cells #[.int .i64 0, .int .i64 0] 28)
 have hr0 := heap_alloc_new w (.cells #[.int .i64 0, .int .i64 0] 28)
 have P := new_yes n o (w.alloc (.cells #[.int .i64 0, .int .i64 0] 28)) (by omega) (by omega) (by omega) (by omega)
 simp only [Int.toNat_natCast] at P
 go_enter Tryz.func45, Tryz.ntmps45
 go_wp2_with fail
 refine P.mono ?_
 clear P
 rintro e w1 ⟨p, q, rfl, hA1, hp, hq, hb1⟩
 have hr1 := (hb1.block w.heap.size (by simp)).trans hr0
 have hB1 := hba.trans (hb1.mono (by simp))
 simp at hp hq
 have hs1 := hb1.size
 simp at hs1
 have hA2 := hA1.alloc (.cells #[.int .i64 0, .int .i64 0] 28)
 have hba2 := (Below.refl w1.heap.size w1).alloc (Nat.le_refl _) (.cells #[.int .i64 0, .int .i64 0] 28)
 have hB2 := hB1.trans (hba2.mono (by omega))
 clear hb1 hr0 hba
 go_wp2_with fail
 refine (bounds_any _ hA2).mono ?_
 rintro e w3 ⟨rfl, hb3⟩
 have hA3 := hA2.below hb3 (Nat.le_refl _)
 have hB3 := hB2.trans (hb3.mono (by simp; omega))
 have hs3 := hb3.size
 simp at hs3
 have hr3 := ((hb3.block w.heap.size (by simp; omega)).trans (hba2.block w.heap.size (by omega))).trans hr1
 clear hA1 hA2 hb3 hba2 hr1
 go_wp2_with fail
 refine (newC_any n o w3 (by omega)).mono ?_
 rintro e w4 ⟨pc, pq, rfl, hC4, hpc, hpq, hb4⟩
 have hA4 := hA3.below hb4 (Nat.le_refl _)
 have hB4 := hB3.trans (hb4.mono (by omega))
 have hs4 := hb4.size
 have hr4 := (hb4.block w.heap.size (by omega)).trans hr3
 clear hA3 hb4 hr3
 go_wp2_with fail
 have hba5 := (Below.refl w4.heap.size w4).alloc (Nat.le_refl _) (.cells #[.slice none 0 0, .slice none 0 0] 72)
 have hsd5 := heap_alloc_new w4 (.cells #[.slice none 0 0, .slice none 0 0] 72)
 refine (nil_any _).mono ?_
 rintro e w5 ⟨rfl, hw⟩
 have sz5 : w5.heap.size = w4.heap.size + 1 := by rw [hw]; simp
 rw [<- hw] at hba5 hsd5
 clear hw
 have hA5 := hA4.below hba5 (Nat.le_refl _)
 have hC5 := hC4.below hba5 (Nat.le_refl _)
 have hB5 := hB4.trans (hba5.mono (by omega))
 have hr5 := (hba5.block w.heap.size (by omega)).trans hr4
 clear hA4 hC4 hr4 hba5
 go_wp2_with fail
 have hba6 := (Below.refl w5.heap.size w5).alloc (Nat.le_refl _) (.cells #[.int .i64 2] 2)
 refine (repeat12_any _ (w4.heap.size + 1) 2 (by rw [<- sz5]; simp)).mono ?_
 rintro e w6 ⟨nb, rfl, hnb, hrow, hb6⟩
 have hb56 := hba6.trans (hb6.mono (by simp))
 have hA6 := hA5.below hb56 (Nat.le_refl _)
 have hC6 := hC5.below hb56 (Nat.le_refl _)
 have hB6 := hB5.trans (hb56.mono (by omega))
 have hr6 := (hb56.block w.heap.size (by omega)).trans hr5
 have hsd6 := (hb56.block w4.heap.size (by omega)).trans hsd5
 have hs6 := hb56.size
 have hnb' : w.heap.size < nb := by simp at hnb; omega
 have hnl := lt_of_some hrow
 have y0 : w6.cell? ⟨w.heap.size, 0, none⟩ = some (.int .i64 0) := by simp [World.cell?, hr6]
 have y1 : w6.cell? ⟨w.heap.size, 1, none⟩ = some (.int .i64 0) := by simp [World.cell?, hr6]
 have f0 : w6.frozen? ⟨w.heap.size, 0, none⟩ = false := by simp [World.frozen?, hr6]
 have f1 : w6.frozen? ⟨w.heap.size, 1, none⟩ = false := by simp [World.frozen?, hr6]
 have l6 : w.heap.size < w6.heap.size := by omega
 clear hA5 hC5 hr5 hsd5 hb6 hb56 hba6 hnb
 go_wp2_with fail
 obtain ⟨W0, hW0⟩ : ∃ W0, W0 = (w6.setCell ⟨w.heap.size, 0, none⟩ (.int .i64 0)).setCell ⟨w.heap.size, 1, none⟩ (.int .i64 0) := ⟨_, rfl⟩
 rw [<- hW0]
 have sz0 : W0.heap.size = w6.heap.size := by rw [hW0]; simp [World.setCell]
 have k0 : ∀ k, k ≠ w.heap.size -> W0.heap[k]? = w6.heap[k]? := fun k hk => by rw [hW0]; exact (Below.heap_setCell _ _ _ _ hk).trans (Below.heap_setCell _ _ _ _ hk)
 have g0 : W0.cell? ⟨w.heap.size, 0, none⟩ = some (.int .i64 0) := by
  rw [hW0, World.cell?_setCell_other _ _ _ _ (by simp)]
  exact World.cell?_setCell_same _ _ _ y0
 have g1 : W0.cell? ⟨w.heap.size, 1, none⟩ = some (.int .i64 0) := by
  rw [hW0]
  exact World.cell?_setCell_same _ _ _ ((World.cell?_setCell_other w6 ⟨w.heap.size, 0, none⟩ ⟨w.heap.size, 1, none⟩ _ (by simp)).trans y1)
 have hF0 : Below w.heap.size w W0 := by
  rw [hW0]
  exact hB6.trans ((((Fr.refl (fun k => k = w.heap.size) w6).set w.heap.size 0 _ rfl).set w.heap.size 1 _ rfl).below (Nat.le_of_lt l6) (fun x e => by have e : x = w.heap.size := e; omega))
 have hn0 := heap_alloc_new W0 (.cells #[.pointer (some ⟨p, 0, none⟩), .pointer (some ⟨pc, 0, none⟩), .pointer (some ⟨w4.heap.size, 0, none⟩), .slice (some ⟨nb, 0, none⟩) 12 12] 44)
 rw [sz0] at hn0
 have hbN := (Below.refl W0.heap.size W0).alloc (Nat.le_refl _) (.cells #[.pointer (some ⟨p, 0, none⟩), .pointer (some ⟨pc, 0, none⟩), .pointer (some ⟨w4.heap.size, 0, none⟩), .slice (some ⟨nb, 0, none⟩) 12 12] 44)
 have hA7 := (hA6.same (w' := W0) (k0 p (by omega)) (k0 q (by omega))).below hbN (Nat.le_refl _)
 have hC7 := (hC6.same (w' := W0) (k0 pc (by omega)) (k0 pq (by omega))).below hbN (Nat.le_refl _)
 have hsd7 := ((hbN.block w4.heap.size (by omega)).trans (k0 _ (by omega))).trans hsd6
 have hrow7 := ((hbN.block nb (by omega)).trans (k0 _ (by omega))).trans hrow
 have r0 := (hbN.cell (p := ⟨w.heap.size, 0, none⟩) (by show w.heap.size < _; omega)).trans g0
 have r1 := (hbN.cell (p := ⟨w.heap.size, 1, none⟩) (by show w.heap.size < _; omega)).trans g1
 have hfin := hF0.trans (hbN.mono (by omega))
 clear y0 y1 f0 f1 hW0
 generalize W0.alloc (.cells #[.pointer (some ⟨p, 0, none⟩), .pointer (some ⟨pc, 0, none⟩), .pointer (some ⟨w4.heap.size, 0, none⟩), .slice (some ⟨nb, 0, none⟩) 12 12] 44) = WF at *
 refine bodyPost_ret (v := .tuple #[.pointer (some ⟨w6.heap.size, 0, none⟩), .agg #[.int .i64 0, .int .i64 0]]) (by simp [results, Tryz.results45, go_sem, r0, r1]) rfl ⟨w6.heap.size, p, q, pc, pq, w4.heap.size, nb, rfl, ⟨hn0, hA7, hC7⟩, hsd7, hrow7, ⟨by omega, by omega, by omega, by omega, by omega, by omega, by omega⟩, hfin⟩
end Go.Proofs.YtalgochmjddodaaGreat

namespace Go.Proofs.YtalgochmjddodaaGreat
set_option maxRecDepth 100000
set_option maxHeartbeats 1000000
open Go.RowKit W
theorem newW_no (n o : Int) (w : World) (h : n < 16 \/ 256 < n \/ o < 0 \/ 1024 < o) :
  Calls Tryz.prog 45 #[.int .i64 n, .int .i64 o] w fun e w' => e = .returned (.tuple #[.pointer none, .agg #[.int .i64 1, .int .i64 (-1)]]) /\ Below w.heap.size w w' := by
 have hba := (Below.refl w.heap.size w).alloc (Nat.le_refl _) (.cells #[.int .i64 0, .int .i64 0] 28)
 have hr0 := heap_alloc_new w (.cells #[.int .i64 0, .int .i64 0] 28)
 have P := new_no n o (w.alloc (.cells #[.int .i64 0, .int .i64 0] 28)) h
 clear h
 go_enter Tryz.func45, Tryz.ntmps45
 go_wp2_with fail
 refine P.mono ?_
 clear P
 rintro e w1 ⟨rfl, hb1⟩
 have hr1 := (hb1.block w.heap.size (by simp)).trans hr0
 have hB1 := hba.trans (hb1.mono (by simp))
 have hs1 := hb1.size
 simp at hs1
 have y0 : w1.cell? ⟨w.heap.size, 0, none⟩ = some (.int .i64 0) := by simp [World.cell?, hr1]
 have y1 : w1.cell? ⟨w.heap.size, 1, none⟩ = some (.int .i64 0) := by simp [World.cell?, hr1]
 have f0 : w1.frozen? ⟨w.heap.size, 0, none⟩ = false := by simp [World.frozen?, hr1]
 have f1 : w1.frozen? ⟨w.heap.size, 1, none⟩ = false := by simp [World.frozen?, hr1]
 have l1 : w.heap.size < w1.heap.size := by omega
 have hne : ¬ w.heap.size = w1.heap.size := by omega
 have hne2 : ¬ w1.heap.size = w.heap.size := by omega
 clear hb1 hr0 hba hr1
 go_wp2_with fail
 go_region_law (fail)
 all_goals
  obtain ⟨W0, hW0⟩ : ∃ W0, W0 = (w1.setCell ⟨w.heap.size, 0, none⟩ (.int .i64 1)).setCell ⟨w.heap.size, 1, none⟩ (.int .i64 (-1)) := ⟨_, rfl⟩
  rw [<- hW0]
  have sz0 : W0.heap.size = w1.heap.size := by rw [hW0]; simp [World.setCell]
  have g0 : W0.cell? ⟨w.heap.size, 0, none⟩ = some (.int .i64 1) := by
   rw [hW0, World.cell?_setCell_other _ _ _ _ (by simp)]
   exact World.cell?_setCell_same _ _ _ y0
  have g1 : W0.cell? ⟨w.heap.size, 1, none⟩ = some (.int .i64 (-1)) := by
   rw [hW0]
   exact World.cell?_setCell_same _ _ _ ((World.cell?_setCell_other w1 ⟨w.heap.size, 0, none⟩ ⟨w.heap.size, 1, none⟩ _ (by simp)).trans y1)
  have hF0 : Below w.heap.size w W0 := by
   rw [hW0]
   exact hB1.trans ((((Fr.refl (fun k => k = w.heap.size) w1).set w.heap.size 0 _ rfl).set w.heap.size 1 _ rfl).below (Nat.le_of_lt l1) (fun x e => by have e : x = w.heap.size := e; omega))
  have hbN := ((Below.refl W0.heap.size W0).alloc (Nat.le_refl _) (.cells #[.int .i64 1, .int .i64 (-1)] 28)).drew
  have r0 := (hbN.cell (p := ⟨w.heap.size, 0, none⟩) (by show w.heap.size < _; omega)).trans g0
  have r1 := (hbN.cell (p := ⟨w.heap.size, 1, none⟩) (by show w.heap.size < _; omega)).trans g1
  have hfin := hF0.trans (hbN.mono (by omega))
  clear y0 y1 f0 f1 hW0 hbN g0 g1
  generalize (W0.alloc (.cells #[.int .i64 1, .int .i64 (-1)] 28)).drew = WF at *
  go_wp2_with fail
  refine bodyPost_ret (v := .tuple #[.pointer none, .agg #[.int .i64 1, .int .i64 (-1)]]) (by simp [results, Tryz.results45, go_sem, r0, r1]) rfl ⟨rfl, hfin⟩
end Go.Proofs.YtalgochmjddodaaGreat

namespace Go.Proofs.YtalgochmjddodaaGreat
open Go.RowKit W Kp Stl
structure Wf (w : World) (pw p q pc pq sd nb N O y g : Nat) (ws : List Int) (c : Int) (M rs : List Int) : Prop where
  wod : Wod w pw p q pc pq N O y g ws c M (.pointer (some ⟨sd, 0, none⟩)) (.slice (some ⟨nb, 0, none⟩) 12 12)
  sid : w.heap[sd]? = some (.cells #[.slice none 0 0, .slice none 0 0] 72 (0, 0))
  rts : w.heap[nb]? = some (.cells (rs.map (Value.int .i64)).toArray 2 (0, 0))
  rl : rs.length = 12
  nq : nb ≠ q
section
variable {w w' : World} {pw p q pc pq sd nb N O y g : Nat} {ws : List Int} {c : Int} {M rs : List Int}
theorem Wf.apart (h : Wf w pw p q pc pq sd nb N O y g ws c M rs) : (sd ≠ p /\ sd ≠ q /\ sd ≠ pc /\ sd ≠ pq) /\ (nb ≠ p /\ nb ≠ q /\ nb ≠ pc /\ nb ≠ pq) /\ nb ≠ pw /\ nb ≠ sd := by
 obtain ⟨D, ⟨es, clock, hb, _⟩, _⟩ := h.wod.cd.hq
 have h1 := h.wod.blk
 have h2 := h.wod.ar.hp
 have h3 := h.wod.ar.hq
 have h4 := h.wod.cd.hp
 have h5 := h.sid
 have h6 := h.rts
 refine ⟨⟨fun e => ?_, fun e => ?_, fun e => ?_, fun e => ?_⟩, ⟨fun e => ?_, h.nq, fun e => ?_, fun e => ?_⟩, fun e => ?_, fun e => ?_⟩
 ·rw [e, h2] at h5; simp at h5
 ·rw [e, h3] at h5; simp at h5
 ·rw [e, h4] at h5; simp at h5
 ·rw [e, hb] at h5; simp at h5
 ·rw [e, h2] at h6; simp at h6
 ·rw [e, h4] at h6; simp at h6
 ·rw [e, hb] at h6; simp at h6
 ·rw [e, h1] at h6; simp at h6
 ·rw [e, h5] at h6; simp at h6
end
def W0b : List Int := fil (List.replicate 24 0) 0 (hw 1 2) 2
def W1b : List Int := stW 16 3 0 W0b (ew 3 0) 1 20
def R0b : List Int := (tw 2 12).set 0 (ew 3 0)
theorem b1 : fcC 16 3 0 W0b (ew 3 0) 1 = 0 := by decide +kernel
theorem b2 : stM 16 3 0 W0b (ew 3 0) 1 20 (nC 8) [] = [] := by decide +kernel
theorem b3 : fcC 16 3 0 W1b (ew 3 0) 1 = 0 := by decide +kernel
theorem b4 : ld 16 3 0 W1b (aV (ew 3 0) + 1 + 1) = 20 := by decide +kernel
theorem b5 : (vwL 16 3 0 W1b [] R0b).1 = [(3, 0), (0, 0), (0, 0), (0, 0), (0, 0), (0, 0), (0, 0), (0, 0), (0, 0), (0, 0), (0, 0), (0, 0)] := by decide +kernel
theorem b6 : (vwL 16 3 0 W1b [] R0b).2.2 = [(1, [(0, 0), (1, 5)])] := by decide +kernel
end Go.Proofs.YtalgochmjddodaaGreat

namespace Go.Proofs.YtalgochmjddodaaGreat
open Go.RowKit W Kp Stl
theorem wf_new {w w' : World} {pw p q pc pq s nb n o : Nat} (hW : Wod w' pw p q pc pq n o 0 0 (List.replicate (n + o) 0) (nC o) [] (.pointer (some ⟨s, 0, none⟩)) (.slice (some ⟨nb, 0, none⟩) 12 12)) (hs : w'.heap[s]? = some (.cells #[.slice none 0 0, .slice none 0 0] 72 (0, 0))) (hr : w'.heap[nb]? = some (.cells ((tw 2 12).map (Value.int .i64)).toArray 2 (0, 0))) (_ : Below w.heap.size w w') (h0 : 16 <= n) :
  Wf w' pw p q pc pq s nb n o 0 0 (List.replicate (n + o) 0) (nC o) [] (tw 2 12) := by
 refine ⟨hW, hs, hr, by decide, fun e => ?_⟩
 have := hW.ar.hq
 rw [<- e, hr] at this
 simp only [Option.some.injEq, Obj.cells.injEq, and_true] at this
 have h2 := congrArg (fun a : Array Value => a[0]?) this
 rw [show n + o = (n + o - 1) + 1 by omega] at h2
 simp [tw, List.replicate_succ] at h2
end Go.Proofs.YtalgochmjddodaaGreat

namespace Go.Proofs.YtalgochmjddodaaGreat
set_option maxRecDepth 100000
set_option maxHeartbeats 2000000
open Go.RowKit W Kp Stl
theorem wf_ws {w : World} {pw p q pc pq sd nb N O y g : Nat} {ws M rs : List Int} (h : Wf w pw p q pc pq sd nb N O y g ws (nC O) M rs) (hr : rs.length = 12) (hrt : w.heap[nb]? = some (.cells (rs.map (Value.int .i64)).toArray 2 (0, 0))) (hs : w.heap[sd]? = some (.cells #[.slice none 0 0, .slice none 0 0] 72 (0, 0))) :
    ∃ F, (wsO ⟨pw, p, q, pc, sd, nb, N, O⟩).J F ⟨⟨y, g, ws, M, rs⟩, [], []⟩ w /\ ∀ b, F b -> b = pw \/ b = p \/ b = q \/ b = pc \/ b = pq \/ b = sd \/ b = nb := by
  obtain ⟨a1, a2, a3, a4, a5, a6, a7, a8⟩ := h.wod.apart
  obtain ⟨⟨s1, s2, s3, s4⟩, ⟨n1, n2, n3, n4⟩, n5, n6⟩ := h.apart
  have s5 : sd ≠ pw := fun e => by
    have h1 := h.wod.blk
    rw [<- e, hs] at h1
    simp at h1
  have lq : pq < w.heap.size := h.wod.cd.ltq
  refine ⟨fun b => b = pw \/ b = p \/ b = q \/ b = pc \/ b = pq \/ b = sd \/ b = nb, ⟨fun b => b = pw \/ b = p \/ b = q \/ b = pc \/ b = pq \/ b = sd \/ b = nb, none, 0, ⟨fun b => b = pw \/ b = p \/ b = q \/ b = pc \/ b = pq \/ b = nb, none, 0, ⟨fun b => if b = p \/ b = q then 1 else if b = pc \/ b = pq then 2 else if b = pw then 3 else if b = nb then 4 else 0, pq, ?_, fun b => ?_⟩, hs, World.ownsRow_nil _ _ _ _, fun b d => ?_, Or.inr (Or.inr (Or.inr (Or.inr (Or.inr (Or.inl rfl))))), fun d => ?_, fun b e => by simp [Value.ownBlock] at e, fun b d => ?_⟩, World.ownsRow_nil _ _ _ _, fun b e => by simp [Value.ownBlock] at e, fun b => ?_⟩, fun b d => d⟩
  · exact { ar := h.wod.ar, cd := h.wod.cd, wd := h.wod.blk, rt := hrt, rl := hr
            a1 := by simp
            a2 := by simp
            c1 := by simp [Ne.symm a5, Ne.symm a7]
            c2 := by simp [Ne.symm a6, Ne.symm a8]
            w1 := by simp [a1, a2, a3, a4]
            r1 := by simp [n1, n2, n3, n4, n5]
            le := fun b => by
              split
              · decide
              · split
                · decide
                · split
                  · decide
                  · split <;> decide
            lt := fun b d => by
              have k1 := h.wod.ar.ltp
              have k2 := h.wod.ar.ltq
              have k3 := h.wod.cd.ltp
              have k4 := lt_of_some h.wod.blk
              have k5 := lt_of_some hrt
              by_cases e1 : b = p \/ b = q
              · rcases e1 with e | e <;> (rw [e]; assumption)
              · rw [if_neg e1] at d
                by_cases e2 : b = pc \/ b = pq
                · rcases e2 with e | e <;> (rw [e]; assumption)
                · rw [if_neg e2] at d
                  by_cases e3 : b = pw
                  · rw [e3]; assumption
                  · rw [if_neg e3] at d
                    by_cases e4 : b = nb
                    · rw [e4]; assumption
                    · rw [if_neg e4] at d
                      exact absurd rfl d }
  · dsimp only
    by_cases e1 : b = p \/ b = q
    · rw [if_pos e1]
      rcases e1 with e | e <;> simp [e]
    · rw [if_neg e1]
      by_cases e2 : b = pc \/ b = pq
      · rw [if_pos e2]
        rcases e2 with e | e <;> simp [e]
      · rw [if_neg e2]
        by_cases e3 : b = pw
        · rw [if_pos e3]
          simp [e3]
        · rw [if_neg e3]
          by_cases e4 : b = nb
          · rw [if_pos e4]
            simp [e4]
          · rw [if_neg e4]
            simp only [not_or] at e1 e2
            simp [e1, e2, e3, e4]
  · rcases d with d | d | d | d | d | d
    · exact Or.inl d
    · exact Or.inr (Or.inl d)
    · exact Or.inr (Or.inr (Or.inl d))
    · exact Or.inr (Or.inr (Or.inr (Or.inl d)))
    · exact Or.inr (Or.inr (Or.inr (Or.inr (Or.inl d))))
    · exact Or.inr (Or.inr (Or.inr (Or.inr (Or.inr (Or.inr d)))))
  · rcases d with d | d | d | d | d | d
    · exact s5 d
    · exact s1 d
    · exact s2 d
    · exact s3 d
    · exact s4 d
    · exact n6 d.symm
  · rcases d with d | d | d | d | d | d | d
    · rw [d]; exact lt_of_some h.wod.blk
    · rw [d]; exact h.wod.ar.ltp
    · rw [d]; exact h.wod.ar.ltq
    · rw [d]; exact h.wod.cd.ltp
    · rw [d]; exact lq
    · rw [d]; exact lt_of_some hs
    · rw [d]; exact lt_of_some hrt
  · exact ⟨Or.inl, fun d => d.elim id (fun e => by simp [Value.ownBlock] at e)⟩
def bo0 (n o : Nat) : Ww × Wrs := (⟨⟨0, 0, List.replicate (n + o) 0, [], tw 2 12⟩, [], []⟩, ⟨[], List.replicate 12 (0, 0), [], []⟩)
theorem start_yes (n o : Nat) (w : World) (h0 : 16 <= n) (h1 : n <= 256) (h3 : o <= 1024) :
  Calls Tryz.prog 13 #[.int .i64 n, .int .i64 o] w fun e w' => ∃ c F, e = .returned (.tuple #[.pointer (some ⟨c.pb, 0, none⟩), .bool true]) /\ (boO c).J F (bo0 n o) w' /\ (c.a.N = n /\ c.a.O = o /\ c.most = n /\ c.grow = o) /\ (∀ b, F b -> w.heap.size <= b) /\ Below w.heap.size w w' := by
 have P := newW_yes n o w h0 h1 h3
 go_enter Tryz.func13, Tryz.ntmps13
 go_wp2_with fail
 refine P.mono ?_
 clear P
 rintro e w1 ⟨pw, p, q, pc, pq, s, nb, rfl, hW, hs, hr, hg, hb1⟩
 obtain ⟨F1, j1, g1⟩ := wf_ws (wf_new hW hs hr hb1 (by omega)) (by decide) hr hs
 have hba := (Below.refl w1.heap.size w1).alloc (Nat.le_refl _) (.cells #[.int .i64 0, .int .i64 0] 28)
 have j2 := (wsO ⟨pw, p, q, pc, s, nb, n, o⟩).below j1 hba
 have c3 : (w1.alloc (.cells #[.int .i64 0, .int .i64 0] 28)).cell? ⟨pw, 3, none⟩ = some (.slice (some ⟨nb, 0, none⟩) 12 12) := (hba.cell (p := ⟨pw, 3, none⟩) (lt_of_some hW.blk)).trans hW.cells.2.2.2.1
 have HJ : Hid ((wsO ⟨pw, p, q, pc, s, nb, n, o⟩).J F1 (bo0 n o).1 (w1.alloc (.cells #[.int .i64 0, .int .i64 0] 28)) /\ (∀ b, F1 b -> w.heap.size <= b) /\ Below w.heap.size w (w1.alloc (.cells #[.int .i64 0, .int .i64 0] 28))) := ⟨j2, fun b d => by
  obtain ⟨g1', g2, g3, g4, g5, g6, g7⟩ := hg
  rcases g1 b d with e | e | e | e | e | e | e <;> (rw [e]; assumption), hb1.trans (hba.mono hb1.size)⟩
 clear hW hs hr hg hb1 j1 g1 hba j2
 go_wp2_with fail
 generalize w1.alloc (.cells #[.int .i64 0, .int .i64 0] 28) = w2 at *
 refine (newWorld_any n o _).mono ?_
 rintro e w3 ⟨rp, rb, F3, rfl, j3, g3, b3⟩
 have hba := (Below.refl w3.heap.size w3).alloc (Nat.le_refl _) (.cells #[.pointer (some ⟨pw, 0, none⟩), .pointer (some ⟨rp, 0, none⟩)] 37)
 have HF : Hid ((boO ⟨⟨pw, p, q, pc, s, nb, n, o⟩, rp, rb, n, o, w3.heap.size⟩).J (fun b => F1 b \/ F3 b \/ b = w3.heap.size) (bo0 n o) (w3.alloc (.cells #[.pointer (some ⟨pw, 0, none⟩), .pointer (some ⟨rp, 0, none⟩)] 37)) /\ (∀ b, (F1 b \/ F3 b \/ b = w3.heap.size) -> w.heap.size <= b) /\ Below w.heap.size w (w3.alloc (.cells #[.pointer (some ⟨pw, 0, none⟩), .pointer (some ⟨rp, 0, none⟩)] 37))) := by
  have hs2 := HJ.out.2.2.size
  have hs3 := b3.size
  have k1 := (wsO ⟨pw, p, q, pc, s, nb, n, o⟩).lt HJ.out.1
  have k3 := (wrO rp rb n o).lt j3
  refine ⟨⟨F1, F3, (wsO ⟨pw, p, q, pc, s, nb, n, o⟩).below ((wsO ⟨pw, p, q, pc, s, nb, n, o⟩).below HJ.out.1 b3) hba, (wrO rp rb n o).below j3 hba, heap_alloc_new _ _, fun b d e => ?_, fun d => ?_, fun d => ?_, fun b => Iff.rfl⟩, fun b d => ?_, (HJ.out.2.2.trans (b3.mono hs2)).trans (hba.mono (by omega))⟩
  ·have h4 := k1 b d
   have h5 := g3 b e
   omega
  ·have h4 : w3.heap.size < w2.heap.size := k1 _ d
   omega
  ·have h4 : w3.heap.size < w3.heap.size := k3 _ d
   omega
  ·rcases d with d | d | d
   ·exact HJ.out.2.1 b d
   ·have := g3 b d
    omega
   ·omega
 clear j3 g3 b3 hba HJ
 go_wp2_with fail
 exact bodyPost_ret (v := .tuple #[.pointer (some ⟨w3.heap.size, 0, none⟩), .bool true]) (by simp [results, Tryz.results13, go_sem]) rfl ⟨⟨⟨pw, p, q, pc, s, nb, n, o⟩, rp, rb, n, o, w3.heap.size⟩, _, rfl, HF.out.1, ⟨rfl, rfl, rfl, rfl⟩, HF.out.2.1, HF.out.2.2⟩
theorem start_no (n o : Int) (w : World) (h : n < 16 \/ 256 < n \/ o < 0 \/ 1024 < o) :
  Calls Tryz.prog 13 #[.int .i64 n, .int .i64 o] w fun e w' => e = .returned (.tuple #[.pointer none, .bool false]) /\ Below w.heap.size w w' := by
 have P := newW_no n o w h
 clear h
 go_enter Tryz.func13, Tryz.ntmps13
 go_wp2_with fail
 refine P.mono ?_
 clear P
 rintro e w1 ⟨rfl, hb1⟩
 have HB : Hid (Below w.heap.size w (w1.alloc (.cells #[.int .i64 1, .int .i64 (-1)] 28))) := hb1.trans (((Below.refl w1.heap.size w1).alloc (Nat.le_refl _) _).mono hb1.size)
 clear hb1
 go_wp2_with fail
 exact bodyPost_ret (v := .tuple #[.pointer none, .bool false]) (by simp [results, Tryz.results13, go_sem]) rfl ⟨rfl, HB.out⟩
end Go.Proofs.YtalgochmjddodaaGreat

namespace Go.Proofs.YtalgochmjddodaaGreat
open Go.RowKit W Kp Stl
def doS (c : Bc) (S : Ww × Wrs) (d A B C : Int) : Ww × Wrs :=
 if d = 0 then boM c S A B C else if d = 1 then boS c S A B C else if d = 2 then boG c S A B C else if d = 3 then boI S A C
 else if d = 4 then (⟨{ S.1.s with rs := S.1.s.rs.set (rtN C) 2 }, S.1.r, S.1.q⟩, { S.2 with rs := S.2.rs.set (rtN C) (0, 0) }) else if d = 5 then boR c S A C else S
def doB (c : Bc) (S : Ww × Wrs) (d A B C : Int) : Bool :=
 if d = 0 then S.2.fB c.most A B == decide (0 <= mkR c.a.N S.1.s.y A B) else if d = 1 \/ d = 2 then fcC c.a.N S.1.s.y S.1.s.g S.1.s.ws (S.1.s.rs.getD (rtN A) 0) B == S.2.gc (rtN A) B
 else if d = 3 then vc 1 A == rc A (-1152921504606846976) else if d = 5 then (S.1.rK c.a (rtN A) (rtN C) && !fulB (S.1.r.length + S.1.q.length)) == (S.2.rc (rtN A) (rtN C) == 0) else true
section
variable {c : Bc} {F : Nat -> Prop} {S : Ww × Wrs} {w : World}
theorem do_any (h : (boO c).J F S w) (hB : RB S.2) (m0 : 0 <= c.most) (m1 : c.most <= 100000) (hM : S.1.s.M.length <= 100000) (hr : S.1.r.length <= 90000) (hq : S.1.q.length <= 90000) (d A B C : Int) :
  Calls Tryz.prog 15 #[.pointer (some ⟨c.pb, 0, none⟩), csV d A B C] w fun e w' => ∃ F', e = .returned (.bool (doB c S d A B C)) /\ (boO c).J F' (doS c S d A B C) w' /\ Tn F w F' w' := by
 unfold doB doS
 by_cases e0 : d = 0
 ·subst e0
  exact do0_any h hB m0 m1 A B C
 by_cases e1 : d = 1
 ·subst e1
  exact do1_any h hB hM A B C
 by_cases e2 : d = 2
 ·subst e2
  exact do2_any h hB A B C
 by_cases e3 : d = 3
 ·subst e3
  exact do3_any h A B C
 by_cases e4 : d = 4
 ·subst e4
  exact do4_any h A B C
 by_cases e5 : d = 5
 ·subst e5
  exact do5_any h hB hr hq A B C
 rw [if_neg e0, if_neg e0, if_neg e1, if_neg (fun e => e.elim e1 e2), if_neg e2, if_neg e3, if_neg e3, if_neg e4, if_neg e5, if_neg e5]
 exact do9_any h d A B C (by omega)
end
/-! ### the world alone -/
structure Wok (s : Wrs) : Prop where
  rl : s.rs.length = 12
  rv : ∀ v ∈ s.rs, v.1 = 3 -> 0 <= v.2 /\ v.2 < s.T.length
  tv : ∀ t ∈ s.T, ∀ v ∈ t.2.1, v.1 = 3 -> 0 <= v.2 /\ v.2 < s.T.length
  tl : ∀ t ∈ s.T, t.2.1.length <= 12
theorem mem_set_or {α : Type} {l : List α} {i : Nat} {x y : α} (h : y ∈ l.set i x) : y ∈ l \/ y = x := List.mem_or_eq_of_mem_set h
theorem getD_mem_or {α : Type} (l : List α) (i : Nat) (x : α) : l.getD i x ∈ l \/ l.getD i x = x := by
 by_cases h : i < l.length
 ·left
  rw [List.getD_eq_getElem?_getD, List.getElem?_eq_getElem h]
  exact List.getElem_mem h
 ·right
  rw [List.getD_eq_getElem?_getD, List.getElem?_eq_none (by omega)]
  rfl
theorem Wok.start (n o : Nat) : Wok (bo0 n o).2 := ⟨by simp [bo0], fun v hv e => by
 have h1 := List.eq_of_mem_replicate hv
 subst h1
 exact absurd e (by decide), fun t ht => (by cases ht), fun t ht => (by cases ht)⟩
theorem Wok.th {s : Wrs} (h : Wok s) (i : Nat) (hi : 0 <= s.th i) : s.th i < s.T.length := by
 unfold Wrs.th at hi ⊢
 split at hi
 ·rename_i e
  rw [if_pos e]
  rcases getD_mem_or s.rs i (0, 0) with d | d
  ·exact (h.rv _ d e).2
  ·rw [d] at e
   exact absurd e (by decide)
 ·omega
theorem Wok.root {s : Wrs} (h : Wok s) (i : Nat) (v : Int × Int) (hv : v.1 = 3 -> 0 <= v.2 /\ v.2 < s.T.length) : Wok { s with rs := s.rs.set i v } :=
 ⟨by rw [List.length_set]; exact h.rl, fun x hx e => (mem_set_or hx).elim (fun d => h.rv x d e) (fun d => by subst d; exact hv e), h.tv, h.tl⟩
theorem Wok.field {s : Wrs} (h : Wok s) (A : Nat) (I : Int) (e : (s.gf A I).1 = 3) : 0 <= (s.gf A I).2 /\ (s.gf A I).2 < s.T.length := by
 unfold Wrs.gf at e ⊢
 rcases getD_mem_or s.T (s.th A).toNat (0, [], false, false) with d | d
 ·rcases getD_mem_or (s.T.getD (s.th A).toNat (0, [], false, false)).2.1 I.toNat (0, 0) with g | g
  ·exact h.tv _ d _ g e
  ·rw [g] at e
   exact absurd e (by decide)
 ·rw [d] at e
  exact absurd e (by simp)
theorem Wok.set {s : Wrs} (h : Wok s) (A B : Nat) (I : Int) : Wok { s with T := s.sT A B I } := by
 have hlen : (s.sT A B I).length = s.T.length := List.length_set ..
 refine ⟨h.rl, fun v hv e => by have := h.rv v hv e; dsimp only; omega, fun t ht v hv e => ?_, fun t ht => ?_⟩
 ·dsimp only at ht ⊢
  rw [hlen]
  rcases mem_set_or ht with d | d
  ·exact h.tv t d v hv e
  ·subst d
   dsimp only at hv
   rcases mem_set_or hv with g | g
   ·rcases getD_mem_or s.T (s.th A).toNat (0, [], false, false) with k | k
    ·exact h.tv _ k v g e
    ·rw [k] at g
     cases g
   ·subst g
    rcases getD_mem_or s.rs B (0, 0) with k | k
    ·exact h.rv _ k e
    ·rw [k] at e
     exact absurd e (by decide)
 ·rcases mem_set_or ht with d | d
  ·exact h.tl t d
  ·subst d
   dsimp only
   rw [List.length_set]
   rcases getD_mem_or s.T (s.th A).toNat (0, [], false, false) with k | k
   ·exact h.tl _ k
   ·rw [k]
    simp
theorem Wok.fr {s : Wrs} (h : Wok s) (most : Int) (i : Nat) (k f : Int) : Wok (s.fr most i k f) /\ (s.fr most i k f).T.length <= s.T.length + 1 := by
 unfold Wrs.fr
 split
 ·rename_i hb
  have hf := hc_bd k f (of_decide_eq_true hb).1
  refine ⟨⟨by simp [h.rl], fun v hv e => ?_, fun t ht v hv e => ?_, fun t ht => ?_⟩, by simp⟩
  ·simp only [List.length_append, List.length_cons, List.length_nil]
   rcases mem_set_or hv with d | d
   ·have := h.rv v d e
    omega
   ·subst d
    dsimp only
    omega
  ·simp only [List.length_append, List.length_cons, List.length_nil]
   rcases List.mem_append.1 ht with d | d
   ·have := h.tv t d v hv e
    omega
   ·rw [List.mem_singleton] at d
    subst d
    have h1 := List.eq_of_mem_replicate hv
    subst h1
    exact absurd e (by decide)
  ·rcases List.mem_append.1 ht with d | d
   ·exact h.tl t d
   ·rw [List.mem_singleton] at d
    subst d
    dsimp only
    rw [List.length_replicate]
    omega
 ·exact ⟨h, by omega⟩
end Go.Proofs.YtalgochmjddodaaGreat

namespace Go.Proofs.YtalgochmjddodaaGreat
open Go.RowKit W Kp Stl
theorem doS_world {c : Bc} {S : Ww × Wrs} (h : Wok S.2) (d A B C : Int) : Wok (doS c S d A B C).2 /\ (doS c S d A B C).2.T.length <= S.2.T.length + 1 /\ (doS c S d A B C).2.rg.length <= S.2.rg.length + 1 /\ (doS c S d A B C).2.wt = S.2.wt := by
 unfold doS
 by_cases e0 : d = 0
 ·rw [if_pos e0]
  obtain ⟨h1, h2⟩ := h.fr c.most (rtN C) A B
  refine ⟨h1, h2, ?_, ?_⟩
  ·show (S.2.fr c.most (rtN C) A B).rg.length <= _
   unfold Wrs.fr
   split <;> simp
  ·show (S.2.fr c.most (rtN C) A B).wt = _
   unfold Wrs.fr
   split <;> rfl
 rw [if_neg e0]
 by_cases e1 : d = 1
 ·rw [if_pos e1]
  unfold boS
  dsimp only
  split
  ·exact ⟨h.set (rtN A) (rtN C) B, by simp [Wrs.sT], by simp, rfl⟩
  ·exact ⟨h, by omega, by omega, rfl⟩
 rw [if_neg e1]
 by_cases e2 : d = 2
 ·rw [if_pos e2]
  unfold boG
  dsimp only
  split
  ·exact ⟨h.root _ _ (fun e => h.field _ _ e), by simp, by simp, rfl⟩
  ·exact ⟨h, by omega, by omega, rfl⟩
 rw [if_neg e2]
 by_cases e3 : d = 3
 ·rw [if_pos e3]
  unfold boI
  dsimp only
  split
  ·exact ⟨h.root _ _ (fun e => absurd e (by simp)), by simp, by simp, rfl⟩
  ·exact ⟨h, by omega, by omega, rfl⟩
 rw [if_neg e3]
 by_cases e4 : d = 4
 ·rw [if_pos e4]
  exact ⟨h.root _ _ (fun e => absurd e (by simp)), by simp, by simp, rfl⟩
 rw [if_neg e4]
 by_cases e5 : d = 5
 ·rw [if_pos e5]
  unfold boR
  dsimp only
  split
  ·exact ⟨⟨h.rl, h.rv, h.tv, h.tl⟩, by simp, by simp, rfl⟩
  ·exact ⟨h, by omega, by omega, rfl⟩
 rw [if_neg e5]
 exact ⟨h, by omega, by omega, rfl⟩
theorem Wok.rb {s : Wrs} (h : Wok s) (h1 : s.T.length <= 10000) (h2 : s.rg.length <= 10000) (h3 : s.wt.length <= 10000) : RB s :=
 ⟨fun i _ hi => h.th i hi, h.tl, h1, h2, h3⟩
end Go.Proofs.YtalgochmjddodaaGreat
