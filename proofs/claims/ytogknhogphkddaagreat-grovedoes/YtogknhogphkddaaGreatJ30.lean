/- Joined: Wr, Wr2, Gx21, Gx22. -/
import Derived.Test.YtogknhogphkddaaGreatJ03
import Derived.Test.YtogknhogphkddaaGreatJ04
import Derived.Deep.DeepCutAuto
import Derived.Test.YtogknhogphkddaaGreatJ25
import Derived.Test.YtogknhogphkddaaGreatJ29
import Derived.Test.YtogknhogphkddaaGreatJ14
/- slices.Repeat of one word, twelve times: a contract. -/
namespace Go.Proofs.YtogknhogphkddaaGreat
open Go.RowKit W

theorem wp_copy_mv {P : Program} {o : Oper} {a : Act} {w : World} {K : Act → World → Prop} {Q : Exit → Act → World → Prop} (hgd : o.guard = none) (d s : Operand) (dT sT elem : TypeId)
    (ho : o.op = .call { callee := .builtin .copy, args := #[d, s], argTypes := #[dT, sT] }) (hu : P.underlying dT = some (.slice elem)) (hsz : (P.info? elem).map (·.size) = some 1)
    (dp sp : Option Addr) (dLen dCap sLen sCap : Nat) (hd : a.eval d = .slice dp dLen dCap) (hs : a.eval s = .slice sp sLen sCap)
    (g off : Nat) (cur : List Value) (t : TypeId) (hg : w.heap[g]? = some (.cells cur.toArray t (0, 0))) (cs : List Value) (hn : cs.length = Nat.min sLen dLen)
    (hpos : 0 < cs.length → dp = some ⟨g, off, none⟩ ∧ ∃ ad, sp = some ad ∧ ∀ j v, cs[j]? = some v → w.cell? (ad.add j) = some v)
    (hfit : off + cs.length ≤ cur.length) (h1 : ∀ v ∈ cs, v.oneCell' = true)
    (h : ∀ w', Mv w w' g cur off cs → K (a.put o.dst (goInt cs.length)) w') : Oper.wp P o a w K Q := by
  have := step_copy_mv (P := P) (ops := #[]) (o := o) (a := a) (w := w) (K := K) (Q := Q) (E := False) hgd d s dT sT elem ho hu hsz dp sp dLen dCap sLen sCap hd hs g off cur t hg cs hn hpos hfit h1 h
  rwa [if_pos (show Region.wanted o (yielded #[] a.tmps) = true by simp [Region.wanted, hgd])] at this
theorem wpList_copy_mv {P : Program} {ops : Array Oper} {rest : List Oper} {o : Oper} {a : Act} {w : World} {Q : Exit → Act → World → Prop} (hgd : o.guard = none) (d s : Operand) (dT sT elem : TypeId)
    (ho : o.op = .call { callee := .builtin .copy, args := #[d, s], argTypes := #[dT, sT] }) (hu : P.underlying dT = some (.slice elem)) (hsz : (P.info? elem).map (·.size) = some 1)
    (dp sp : Option Addr) (dLen dCap sLen sCap : Nat) (hd : a.eval d = .slice dp dLen dCap) (hs : a.eval s = .slice sp sLen sCap)
    (g off : Nat) (cur : List Value) (t : TypeId) (hg : w.heap[g]? = some (.cells cur.toArray t (0, 0))) (cs : List Value) (hn : cs.length = Nat.min sLen dLen)
    (hpos : 0 < cs.length → dp = some ⟨g, off, none⟩ ∧ ∃ ad, sp = some ad ∧ ∀ j v, cs[j]? = some v → w.cell? (ad.add j) = some v)
    (hfit : off + cs.length ≤ cur.length) (h1 : ∀ v ∈ cs, v.oneCell' = true)
    (h : ∀ w', Mv w w' g cur off cs → wpList P ops Q rest (a.put o.dst (goInt cs.length)) w') : wpList P ops Q (o :: rest) a w :=
  wpList_plain hgd fun _ hK => wp_copy_mv hgd d s dT sT elem ho hu hsz dp sp dLen dCap sLen sCap hd hs g off cur t hg cs hn hpos hfit h1 (fun w' hw => hK _ _ (h w' hw))

set_option maxRecDepth 100000 in
set_option maxHeartbeats 400000 in
theorem mul64_c (w : World) : Calls Tryz.prog 62 #[.int .u64 1, .int .u64 12] w fun e w' => e = .returned (.tuple #[.int .u64 0, .int .u64 12]) ∧ w' = w := by
  go_enter Tryz.func62, Tryz.ntmps62
  go_wp2_with fail
  go_ret2
  exact ⟨rfl, rfl⟩

set_option maxRecDepth 100000 in
set_option maxHeartbeats 400000 in
theorem mul_c (w : World) : Calls Tryz.prog 36 #[.int .u64 1, .int .u64 12] w fun e w' => e = .returned (.tuple #[.int .u64 0, .int .u64 12]) ∧ w' = w := by
  go_enter Tryz.func36, Tryz.ntmps36
  go_wp2_with fail
  refine (mul64_c w).mono ?_
  rintro e w1 ⟨rfl, hw⟩
  have hw := hw.symm
  subst hw
  go_wp2_with fail
  go_ret2
  exact ⟨rfl, rfl⟩

end Go.Proofs.YtogknhogphkddaaGreat

/- slices.Repeat of one word, twelve times: a contract. -/
namespace Go.Proofs.YtogknhogphkddaaGreat
open Go.RowKit W

def tw (v : Int) (n : Nat) : List Int := List.replicate n v ++ List.replicate (12 - n) 0
theorem tw_len (v : Int) (n : Nat) (h : n ≤ 12) : (tw v n).length = 12 := by simp [tw]; omega
theorem tw_step (v : Int) (n m : Nat) (h : n + m ≤ 12) : splice (tw v n) n (List.replicate m v) = tw v (n + m) := by
  unfold splice tw
  rw [List.take_left' (by simp), List.length_replicate, List.drop_append, List.length_replicate]
  simp only [List.drop_replicate]
  rw [show n - (n + m) = 0 by omega, show 12 - n - (n + m - n) = 12 - (n + m) by omega]
  simp
  rw [← List.append_assoc, List.replicate_append_replicate]
theorem tw_get (v : Int) (n i : Nat) (h : i < n) : (tw v n).getD i 0 = v := by
  unfold tw
  rw [List.getD_eq_getElem?_getD, List.getElem?_append_left (by simpa using h)]
  simp [h]
theorem one_cell {w : World} {b : Nat} {v : Int} (hc : w.cell? ⟨b, 0, none⟩ = some (.int .i64 v)) : ∀ j u, ((List.replicate 1 v).map (Value.int .i64))[j]? = some u → w.cell? ((⟨b, 0, none⟩ : Addr).add j) = some u := by
  intro j u hj
  have hj0 : j = 0 := by
    have := (List.getElem?_eq_some_iff.1 hj).1
    simpa using this
  subst hj0
  simp at hj
  rw [← hj]
  simpa [Addr.add] using hc
theorem tw_cell {w : World} {nb n : Nat} {v : Int} (hr : w.heap[nb]? = some (.cells ((tw v n).map (Value.int .i64)).toArray 2 (0, 0))) (hn : n ≤ 12) (m : Nat) (hm : m ≤ n) : ∀ j u, ((List.replicate m v).map (Value.int .i64))[j]? = some u → w.cell? ((⟨nb, 0, none⟩ : Addr).add j) = some u := by
  intro j u hj
  have hjm : j < m := by
    have := (List.getElem?_eq_some_iff.1 hj).1
    simpa using this
  have hu : u = .int .i64 v := by
    simp [hjm] at hj
    exact hj.symm
  have hl := tw_len v n hn
  have hg := tw_get v n j (by omega)
  rw [List.getD_eq_getElem?_getD, List.getElem?_eq_getElem (by omega : j < (tw v n).length)] at hg
  simp at hg
  have ea : (⟨nb, 0, none⟩ : Addr).add j = ⟨nb, j, none⟩ := by simp [Addr.add]; intro h; exact h.symm
  rw [ea, hu]
  have hlt : j < (tw v n).length := by omega
  simp [World.cell?, hr, List.getElem?_eq_getElem hlt]
  exact hg

theorem mv_tw {w w' : World} {nb n m B : Nat} {v : Int} (hmv : Mv w w' nb ((tw v n).map (Value.int .i64)) n ((List.replicate m v).map (Value.int .i64))) (hr : w.heap[nb]? = some (.cells ((tw v n).map (Value.int .i64)).toArray 2 (0, 0))) (hm : 0 < m) (h : n + m ≤ 12) (hB : B ≤ nb) : w'.heap[nb]? = some (.cells ((tw v (n + m)).map (Value.int .i64)).toArray 2 (0, 0)) ∧ Below B w w' := by
  rcases hmv with ⟨h0, _⟩ | rfl
  · have := congrArg List.length h0
    simp at this
    omega
  · rw [splice_map, tw_step v n m h]
    exact ⟨setRow_heap w nb _ _ _ _ hr, ⟨rfl, rfl, rfl, by simp [World.setRow], fun k hk => setRow_other w nb k _ (by omega)⟩⟩

set_option maxRecDepth 100000 in
set_option maxHeartbeats 400000 in
theorem repeat12_any (w : World) (b : Nat) (v : Int) (hc : w.cell? ⟨b, 0, none⟩ = some (.int .i64 v)) :
    Calls Tryz.prog 59 #[.slice (some ⟨b, 0, none⟩) 1 1, .int .i64 12] w fun e w' => ∃ nb, e = .returned (.slice (some ⟨nb, 0, none⟩) 12 12) ∧ w.heap.size ≤ nb ∧ w'.heap[nb]? = some (.cells ((tw v 12).map (Value.int .i64)).toArray 2 (0, 0)) ∧ Below w.heap.size w w' := by
  obtain ⟨i0, hi, hz0, hz1, hz2⟩ := info_parts info64A
  have lb := World.block_lt_of_cell? w _ hc
  dsimp only at lb
  go_enter Tryz.func59, Tryz.ntmps59
  go_wp2_with fail
  refine (mul_c w).mono ?_
  rintro e w0 ⟨rfl, hw⟩
  have hw := hw.symm
  subst hw
  go_upto_region 7 with (at_make; refine wpList_make_full _ rfl _ _ 118 rfl w.heap.size 2 i0 (.int .i64 0) 1 Tryz.underlying118 hi hz0 hz1 .i64 .i64 _ _ 12 rfl rfl (by omega) (by omega) (by rw [hz2]; omega) (by unfold maxLen; omega) (Nat.le_refl _) ?_; intro w1 hown hgrow)
  have hr : w1.heap[w.heap.size]? = some (.cells ((tw v 0).map (Value.int .i64)).toArray 2 (0, 0)) := by
    have h9 := made_row hown
    simpa [tw] using h9
  have hb1 : Below w.heap.size w w1 := (Below.refl _ w).grown hgrow (Nat.le_refl _) (fun _ h => by cases h)
  have x1 := (hb1.cell (p := ⟨b, 0, none⟩) lb).trans hc
  clear hown hgrow
  have H1 : Hid (∀ j u, ((List.replicate 1 v).map (Value.int .i64))[j]? = some u → w1.cell? ((⟨b, 0, none⟩ : Addr).add j) = some u) := one_cell x1
  have H2 : Hid (w1.heap[w.heap.size]? = some (.cells ((tw v 0).map (Value.int .i64)).toArray 2 (0, 0))) := hr
  have H3 : Hid (((List.replicate 1 v).map (Value.int .i64)).length = Nat.min 1 12) := rfl
  have H4 : Hid (0 + ((List.replicate 1 v).map (Value.int .i64)).length ≤ ((tw v 0).map (Value.int .i64)).length) := by show _ ≤ _; rw [List.length_map, List.length_map, tw_len v 0 (by omega)]; simp
  clear x1 hr
  go_wp2_with (refine wpList_copy_mv rfl _ _ 118 118 2 rfl Tryz.underlying118 size64 (some ⟨w.heap.size, 0, none⟩) (some ⟨b, 0, none⟩) 12 12 1 1 rfl rfl w.heap.size 0 ((tw v 0).map (Value.int .i64)) 2 H2.out ((List.replicate 1 v).map (Value.int .i64)) H3.out (fun _ => ⟨rfl, _, rfl, H1.out⟩) H4.out (ints_one _) ?_; intro w2 hmv)
  obtain ⟨hr2, hb2⟩ := mv_tw (B := w.heap.size) hmv H2.out (by omega) (by omega) (Nat.le_refl _)
  have hb12 := hb1.trans hb2
  clear hmv H1 H2 H3 H4 hb1 hb2
  go_loopw [8] (fun nv wr => ∃ n : Nat, 1 ≤ n ∧ n ≤ 12 ∧ nv = .int .i64 n ∧ Hid (wr.heap[w.heap.size]? = some (.cells ((tw v n).map (Value.int .i64)).toArray 2 (0, 0))) ∧ Below w.heap.size w wr) (fun nv _ => 12 - (intOf nv).toNat)
  case atStart => exact ⟨1, Nat.le_refl _, by omega, rfl, hr2, hb12⟩
  case round =>
    clear hr2 hb12
    obtain ⟨n, n1, n2, rfl, HR, hb⟩ := hrel
    by_cases hlt : n < 12
    · obtain ⟨m, hm, hm1, hm2, hm3⟩ : ∃ m, m = Nat.min n (12 - n) ∧ 0 < m ∧ n + m ≤ 12 ∧ m ≤ n := ⟨_, rfl, by simp only [Nat.min_def]; split <;> omega, by simp only [Nat.min_def]; split <;> omega, by simp only [Nat.min_def]; split <;> omega⟩
      have HRd : Hid (wr.drew.heap[w.heap.size]? = some (.cells ((tw v n).map (Value.int .i64)).toArray 2 (0, 0))) := HR.out
      have H1 : Hid (∀ j u, ((List.replicate m v).map (Value.int .i64))[j]? = some u → wr.drew.cell? ((⟨w.heap.size, 0, none⟩ : Addr).add j) = some u) := tw_cell HRd.out n2 m hm3
      have H3 : Hid (((List.replicate m v).map (Value.int .i64)).length = Nat.min n (12 - n)) := by show _ = _; rw [← hm]; simp
      have H4 : Hid (n + ((List.replicate m v).map (Value.int .i64)).length ≤ ((tw v n).map (Value.int .i64)).length) := by show _ ≤ _; rw [List.length_map, List.length_map, tw_len v n n2]; simpa using hm2
      have hne : ¬ 12 = n := by omega
      have i0 : (0 : Int) ≤ (n : Int) := by omega
      have i1 : (n : Int) ≤ 12 := by omega
      have i2 : (n : Int) < 12 := by omega
      clear HR
      go_wp2_with fail
      go_region_law (refine step_copy_mv rfl (.tmp 41) (.tmp 44) 118 118 2 rfl Tryz.underlying118 size64 (some ⟨w.heap.size, n, none⟩) (some ⟨w.heap.size, 0, none⟩) (12 - n) (12 - n) n 12 ?_ ?_ w.heap.size n ((tw v n).map (Value.int .i64)) 2 HRd.out ((List.replicate m v).map (Value.int .i64)) H3.out (fun _ => ⟨rfl, _, rfl, H1.out⟩) H4.out (ints_one _) ?_; (simp [Act.eval, Act.put]); (simp [Act.eval, Act.put]); intro w3 hmv3)
      obtain ⟨hr3, hb3⟩ := mv_tw (B := w.heap.size) hmv3 HRd.out hm1 hm2 (Nat.le_refl _)
      have HR3 : Hid (w3.heap[w.heap.size]? = some (.cells ((tw v (n + m)).map (Value.int .i64)).toArray 2 (0, 0))) := hr3
      have hb13 := hb.drew.trans hb3
      have hw : IntKind.i64.wrap ((n : Int) + (m : Int)) = ((n + m : Nat) : Int) := by rw [IntKind.wrap_i64]; omega
      clear hr3 hb3 hmv3 HRd H1 H3 H4 hb
      simp [Act.put, go_sem, Exit.inBlock]
      rw [← hm, hw]
      refine ⟨⟨_, _, _, _, _, _, _, _, _, _, _, _, _, _, ?rel, rfl⟩, ?measure⟩
      case rel => exact ⟨n + m, by omega, hm2, rfl, HR3, hb13⟩
      case measure => simp [intOf]; omega
    · obtain rfl : n = 12 := by omega
      have HR2 := HR.out
      go_wp2_with fail
      go_ret
      exact ⟨w.heap.size, rfl, Nat.le_refl _, HR2, hb⟩

end Go.Proofs.YtogknhogphkddaaGreat

/- slices.Repeat of one value, up to twelve times: a contract. -/
namespace Go.Proofs.YtogknhogphkddaaGreat
open Go.RowKit W Kp Stl

theorem run_copy_none2 {P : Program} (w : World) (dT sT ty elem : TypeId) (d a : Option Addr) (dLen dCap sLen sCap : Nat) (hu : P.underlying dT = some (.slice elem)) (hs : (P.info? elem).map (·.size) = some 2) (hn : Nat.min sLen dLen = 0) :
    (Builtin.copy_ #[dT, sT] ty #[.slice d dLen dCap, .slice a sLen sCap]).run P w = .ok (goInt 0) w := by
  cases hq : P.info? elem with
  | none => simp [hq] at hs
  | some i =>
    have hl : ∀ (x : Addr), (loadCells x 0).run P w = .ok #[] w := fun x => by simpa using run_loadCells_list (P := P) w x [] (by simp)
    cases d <;> cases a <;> simp [Builtin.copy_, run_underlying hu, Builtin.lenOf, Builtin.firstCells, sizeOf, typeInfo, hq, hn, storeCells, hl]
theorem run_copy_row2 {P : Program} (w : World) (dT sT ty elem : TypeId) (g o dLen dCap : Nat) (a : Addr) (sLen sCap : Nat) (cur : Array Value) (t : TypeId) (cs : List Value) (n : Nat)
    (hu : P.underlying dT = some (.slice elem)) (hs : (P.info? elem).map (·.size) = some 2)
    (hg : w.heap[g]? = some (.cells cur t (0, 0))) (hm : n = Nat.min sLen dLen) (hn : cs.length = n * 2)
    (hsrc : ∀ j v, cs[j]? = some v → w.cell? (a.add j) = some v) (hfit : o + cs.length ≤ cur.size) (h1 : ∀ v ∈ cs, v.oneCell' = true) :
    (Builtin.copy_ #[dT, sT] ty #[.slice (some ⟨g, o, none⟩) dLen dCap, .slice (some a) sLen sCap]).run P w =
      .ok (goInt n) (w.setRow g (cur.toList.take o ++ cs ++ cur.toList.drop (o + cs.length)).toArray) := by
  have hl := run_loadCells_list (P := P) w a cs hsrc
  have hst := run_storeCells_at P g o t cs 0 cur w hg (by simpa using hfit) h1
  rw [hn] at hl
  cases hq : P.info? elem with
  | none => simp [hq] at hs
  | some i =>
    have hi : i.size = 2 := by simpa [hq] using hs
    simp [Builtin.copy_, run_underlying hu, Builtin.lenOf, Builtin.firstCells, sizeOf, typeInfo, hq, hi, ← hm, hl, hst]

theorem step_copy_mv2 {P : Program} {ops : Array Oper} {o : Oper} {a : Act} {w : World} {K : Act → World → Prop} {Q : Exit → Act → World → Prop} {E : Prop} (hgd : o.guard = none) (d s : Operand) (dT sT elem : TypeId)
    (ho : o.op = .call { callee := .builtin .copy, args := #[d, s], argTypes := #[dT, sT] }) (hu : P.underlying dT = some (.slice elem)) (hsz : (P.info? elem).map (·.size) = some 2)
    (dp sp : Option Addr) (dLen dCap sLen sCap : Nat) (hd : a.eval d = .slice dp dLen dCap) (hs : a.eval s = .slice sp sLen sCap)
    (g off : Nat) (cur : List Value) (t : TypeId) (hg : w.heap[g]? = some (.cells cur.toArray t (0, 0))) (cs : List Value) (n : Nat) (hm : n = Nat.min sLen dLen) (hn : cs.length = n * 2)
    (hpos : 0 < n → dp = some ⟨g, off, none⟩ ∧ ∃ ad, sp = some ad ∧ ∀ j v, cs[j]? = some v → w.cell? (ad.add j) = some v)
    (hfit : off + cs.length ≤ cur.length) (h1 : ∀ v ∈ cs, v.oneCell' = true)
    (h : ∀ w', Mv w w' g cur off cs → K (a.put o.dst (goInt n)) w') :
    if Region.wanted o (yielded ops a.tmps) = true then Oper.wp P o a w K Q else E := by
  rw [if_pos (show Region.wanted o (yielded ops a.tmps) = true by simp [Region.wanted, hgd])]
  rcases Nat.eq_zero_or_pos n with h0 | h0
  · subst h0
    have ec : cs = [] := List.eq_nil_of_length_eq_zero (by omega)
    subst ec
    have hrun := run_copy_none2 (P := P) w dT sT o.type elem dp sp dLen dCap sLen sCap hu hsz hm.symm
    unfold Oper.wp
    simp [execOp, ho, resolve, invoke, builtin, hd, hs, hrun, Result.andThen]
    exact h w (Or.inl ⟨rfl, rfl⟩)
  · obtain ⟨ed, ad, es, hsrc⟩ := hpos h0
    subst ed es
    have hrun := run_copy_row2 (P := P) w dT sT o.type elem g off dLen dCap ad sLen sCap cur.toArray t cs n hu hsz hg hm hn hsrc (by simpa using hfit) h1
    unfold Oper.wp
    simp [execOp, ho, resolve, invoke, builtin, hd, hs, hrun, Result.andThen]
    exact h _ (Or.inr (by simp [splice]))
theorem wpList_copy_mv2 {P : Program} {ops : Array Oper} {rest : List Oper} {o : Oper} {a : Act} {w : World} {Q : Exit → Act → World → Prop} (hgd : o.guard = none) (d s : Operand) (dT sT elem : TypeId)
    (ho : o.op = .call { callee := .builtin .copy, args := #[d, s], argTypes := #[dT, sT] }) (hu : P.underlying dT = some (.slice elem)) (hsz : (P.info? elem).map (·.size) = some 2)
    (dp sp : Option Addr) (dLen dCap sLen sCap : Nat) (hd : a.eval d = .slice dp dLen dCap) (hs : a.eval s = .slice sp sLen sCap)
    (g off : Nat) (cur : List Value) (t : TypeId) (hg : w.heap[g]? = some (.cells cur.toArray t (0, 0))) (cs : List Value) (n : Nat) (hm : n = Nat.min sLen dLen) (hn : cs.length = n * 2)
    (hpos : 0 < n → dp = some ⟨g, off, none⟩ ∧ ∃ ad, sp = some ad ∧ ∀ j v, cs[j]? = some v → w.cell? (ad.add j) = some v)
    (hfit : off + cs.length ≤ cur.length) (h1 : ∀ v ∈ cs, v.oneCell' = true)
    (h : ∀ w', Mv w w' g cur off cs → wpList P ops Q rest (a.put o.dst (goInt n)) w') : wpList P ops Q (o :: rest) a w :=
  wpList_plain hgd fun K hK => by
    have := step_copy_mv2 (P := P) (ops := #[]) (o := o) (a := a) (w := w) (K := K) (Q := Q) (E := False) hgd d s dT sT elem ho hu hsz dp sp dLen dCap sLen sCap hd hs g off cur t hg cs n hm hn hpos hfit h1 (fun w' hw => hK _ _ (h w' hw))
    rwa [if_pos (show Region.wanted o (yielded #[] a.tmps) = true by simp [Region.wanted, hgd])] at this

set_option maxRecDepth 100000 in
set_option maxHeartbeats 4000000 in
theorem mulV64 (c : Nat) (hc : c ≤ 12) (w : World) : Calls Tryz.prog 62 #[.int .u64 1, .int .u64 c] w fun e w' => e = .returned (.tuple #[.int .u64 0, .int .u64 c]) ∧ w' = w := by
  rcases (show c = 0 ∨ c = 1 ∨ c = 2 ∨ c = 3 ∨ c = 4 ∨ c = 5 ∨ c = 6 ∨ c = 7 ∨ c = 8 ∨ c = 9 ∨ c = 10 ∨ c = 11 ∨ c = 12 by omega) with rfl | rfl | rfl | rfl | rfl | rfl | rfl | rfl | rfl | rfl | rfl | rfl | rfl <;>
  (go_enter Tryz.func62, Tryz.ntmps62
   go_wp2_with fail
   go_ret2
   exact ⟨rfl, rfl⟩)

set_option maxRecDepth 100000 in
set_option maxHeartbeats 400000 in
theorem mulV (c : Nat) (hc : c ≤ 12) (w : World) : Calls Tryz.prog 36 #[.int .u64 1, .int .u64 c] w fun e w' => e = .returned (.tuple #[.int .u64 0, .int .u64 c]) ∧ w' = w := by
  have P := mulV64 c hc w
  go_enter Tryz.func36, Tryz.ntmps36
  go_wp2_with fail
  refine P.mono ?_
  rintro e w1 ⟨rfl, hw⟩
  have hw := hw.symm
  subst hw
  go_wp2_with fail
  go_ret2
  exact ⟨rfl, rfl⟩

def rv_ (c : Nat) (v : Int × Int) (n : Nat) : List (Int × Int) := List.replicate n v ++ List.replicate (c - n) (0, 0)
theorem rv_len (c : Nat) (v : Int × Int) (n : Nat) (h : n ≤ c) : (rv_ c v n).length = c := by simp [rv_]; omega
theorem ev_rep (n : Nat) (v : Int × Int) : (ev (List.replicate n v)).length = n * 2 := by rw [ev_length, List.length_replicate]
theorem rv_step (c : Nat) (v : Int × Int) (n m : Nat) (h : n + m ≤ c) : splice (ev (rv_ c v n)) (n * 2) (ev (List.replicate m v)) = ev (rv_ c v (n + m)) := by
  unfold splice rv_
  have e1 : (List.replicate (c - n) ((0 : Int), (0 : Int))) = List.replicate m (0, 0) ++ List.replicate (c - (n + m)) (0, 0) := by
    rw [List.replicate_append_replicate]
    congr 1
    omega
  have ed : List.drop (n * 2 + m * 2) (ev (List.replicate n v) ++ (ev (List.replicate m ((0 : Int), (0 : Int))) ++ ev (List.replicate (c - (n + m)) (0, 0)))) = ev (List.replicate (c - (n + m)) (0, 0)) := by
    rw [← List.append_assoc]
    exact List.drop_left' (by rw [List.length_append, ev_rep, ev_rep])
  rw [ev_append, List.take_left' (ev_rep n v), ev_rep, e1, ev_append, ed, ← List.replicate_append_replicate, ev_append, ev_append, List.append_assoc]
theorem rv_pre (c : Nat) (v : Int × Int) (n m : Nat) (hm : m ≤ n) : ∃ r, ev (rv_ c v n) = ev (List.replicate m v) ++ r := by
  refine ⟨ev (List.replicate (n - m) v) ++ ev (List.replicate (c - n) (0, 0)), ?_⟩
  unfold rv_
  rw [← List.append_assoc, ← ev_append, List.replicate_append_replicate, ← ev_append]
  congr 3
  omega
theorem rv_cell {c : Nat} {w : World} {nb n : Nat} {v : Int × Int} (hr : w.heap[nb]? = some (.cells (ev (rv_ c v n)).toArray 54 (0, 0))) (m : Nat) (hm : m ≤ n) : ∀ j u, (ev (List.replicate m v))[j]? = some u → w.cell? ((⟨nb, 0, none⟩ : Addr).add j) = some u := by
  intro j u hj
  obtain ⟨r, e⟩ := rv_pre c v n m hm
  have hlt := (List.getElem?_eq_some_iff.1 hj).1
  rw [Addr.add_lit]
  have : (ev (rv_ c v n))[j]? = some u := by rw [e, List.getElem?_append_left hlt]; exact hj
  rw [Nat.zero_add]
  simp [World.cell?, hr, this]
theorem mv_rv {c : Nat} {w w' : World} {nb n m B : Nat} {v : Int × Int} (hmv : Mv w w' nb (ev (rv_ c v n)) (n * 2) (ev (List.replicate m v))) (hr : w.heap[nb]? = some (.cells (ev (rv_ c v n)).toArray 54 (0, 0))) (h : n + m ≤ c) (hB : B ≤ nb) : w'.heap[nb]? = some (.cells (ev (rv_ c v (n + m))).toArray 54 (0, 0)) ∧ Below B w w' := by
  rcases hmv with ⟨h0, rfl⟩ | rfl
  · have := congrArg List.length h0
    rw [ev_rep] at this
    simp only [List.length_nil] at this
    obtain rfl : m = 0 := by omega
    exact ⟨hr, Below.refl _ _⟩
  · rw [rv_step c v n m h]
    exact ⟨setRow_heap w nb _ _ _ _ hr, ⟨rfl, rfl, rfl, by simp [World.setRow], fun k hk => setRow_other w nb k _ (by omega)⟩⟩
theorem sizeVr : (Tryz.prog.info? 54).map (·.size) = some 2 := by kernel_rfl
theorem made_rowV {w : World} {b k n : Nat} (hn : n ≤ 12) (h : w.ownsRow b 54 2 (.slice (some ⟨k, 0, none⟩) n n) n (madeCells (Value.agg #[.int .i64 0, .int .i64 0]).cells (n * 2)).toList) :
    w.heap[k]? = some (.cells (ev (List.replicate n (0, 0))).toArray 54 (0, 0)) := by
  obtain ⟨h1, h2⟩ := h
  rcases h2 with ⟨e, _⟩ | ⟨k', cap, cur, hv, hb, hh, h3, h4, h5, h6⟩
  · cases e
  · cases hv
    rw [hh]
    have : cur.toList = ev (List.replicate n (0, 0)) := by
      rw [← List.take_of_length_le (l := cur.toList) (i := n * 2) (by simp; omega), h6]
      rcases (show n = 0 ∨ n = 1 ∨ n = 2 ∨ n = 3 ∨ n = 4 ∨ n = 5 ∨ n = 6 ∨ n = 7 ∨ n = 8 ∨ n = 9 ∨ n = 10 ∨ n = 11 ∨ n = 12 by omega) with rfl | rfl | rfl | rfl | rfl | rfl | rfl | rfl | rfl | rfl | rfl | rfl | rfl <;> kernel_rfl
    rw [← this]
theorem one_cells {w : World} {b : Nat} {v : Int × Int} {m : Nat} (hm : m ≤ 1) (h0 : w.cell? ⟨b, 0, none⟩ = some (.int .i64 v.1)) (h1 : w.cell? ⟨b, 1, none⟩ = some (.int .i64 v.2)) : ∀ j u, (ev (List.replicate m v))[j]? = some u → w.cell? ((⟨b, 0, none⟩ : Addr).add j) = some u := by
  intro j u hj
  have hlt := (List.getElem?_eq_some_iff.1 hj).1
  rw [ev_rep] at hlt
  obtain rfl : m = 1 := by omega
  match j, hj with
  | 0, hj => simp [ev] at hj; rw [← hj]; simpa [Addr.add] using h0
  | 1, hj => simp [ev] at hj; rw [← hj]; simpa [Addr.add] using h1
  | j + 2, _ => omega

set_option maxRecDepth 100000 in
set_option maxHeartbeats 1000000 in
theorem repeatV_any (w : World) (b c : Nat) (v : Int × Int) (h1 : c ≤ 12) (hc0 : w.cell? ⟨b, 0, none⟩ = some (.int .i64 v.1)) (hc1 : w.cell? ⟨b, 1, none⟩ = some (.int .i64 v.2)) :
    Calls Tryz.prog 16 #[.slice (some ⟨b, 0, none⟩) 1 1, .int .i64 c] w fun e w' => ∃ nb, e = .returned (.slice (some ⟨nb, 0, none⟩) c c) ∧ w.heap.size ≤ nb ∧ w'.heap[nb]? = some (.cells (ev (List.replicate c v)).toArray 54 (0, 0)) ∧ Below w.heap.size w w' := by
  obtain ⟨i0, hi, hz0, hz1, hz2⟩ := info_parts infoVn
  have lb := World.block_lt_of_cell? w _ hc0
  dsimp only at lb
  have PM := mulV c h1 w
  have EC : Hid (rv_ c v c = List.replicate c v) := by show _ = _; simp [rv_]
  have c1 : (c : Int) ≤ 12 := by omega
  go_enter Tryz.func16, Tryz.ntmps16
  go_wp2_with fail
  refine PM.mono ?_
  clear PM
  rintro e w0 ⟨rfl, hw⟩
  have hw := hw.symm
  subst hw
  go_upto_region 7 with (at_make; refine wpList_make_full _ rfl _ _ 38 rfl w.heap.size 54 i0 (.agg #[.int .i64 0, .int .i64 0]) 2 Tryz.underlying38 hi hz0 hz1 .i64 .i64 _ _ c rfl rfl (by omega) (by omega) (by rw [hz2]; omega) (by unfold maxLen; omega) (Nat.le_refl _) ?_; intro w1 hown hgrow)
  have hr : w1.heap[w.heap.size]? = some (.cells (ev (rv_ c v 0)).toArray 54 (0, 0)) := by
    have h9 := made_rowV h1 hown
    simpa [rv_] using h9
  have hb1 : Below w.heap.size w w1 := (Below.refl _ w).grown hgrow (Nat.le_refl _) (fun _ h => by cases h)
  have x1 := (hb1.cell (p := ⟨b, 0, none⟩) lb).trans hc0
  have x2 := (hb1.cell (p := ⟨b, 1, none⟩) lb).trans hc1
  clear hown hgrow
  have hm1 : Nat.min 1 c ≤ 1 := Nat.min_le_left _ _
  have hm2 : Nat.min 1 c ≤ c := Nat.min_le_right _ _
  have hm3 : 0 < c → 1 ≤ Nat.min 1 c := fun h => by simp only [Nat.min_def]; split <;> omega
  have H1 : Hid (∀ j u, (ev (List.replicate (Nat.min 1 c) v))[j]? = some u → w1.cell? ((⟨b, 0, none⟩ : Addr).add j) = some u) := one_cells hm1 x1 x2
  have H2 : Hid (w1.heap[w.heap.size]? = some (.cells (ev (rv_ c v 0)).toArray 54 (0, 0))) := hr
  have H4 : Hid (0 * 2 + (ev (List.replicate (Nat.min 1 c) v)).length ≤ (ev (rv_ c v 0)).length) := by show _ ≤ _; rw [ev_rep, ev_length, rv_len c v 0 (by omega)]; omega
  clear x1 x2 hr
  go_wp2_with (refine wpList_copy_mv2 rfl _ _ 38 38 54 rfl Tryz.underlying38 sizeVr (some ⟨w.heap.size, 0, none⟩) (some ⟨b, 0, none⟩) c c 1 1 rfl rfl w.heap.size (0 * 2) (ev (rv_ c v 0)) 54 H2.out (ev (List.replicate (Nat.min 1 c) v)) (Nat.min 1 c) rfl (ev_rep _ _) (fun _ => ⟨rfl, _, rfl, H1.out⟩) H4.out (ev_one _) ?_; intro w2 hmv)
  obtain ⟨hr2, hb2⟩ := mv_rv (B := w.heap.size) hmv H2.out (by omega) (Nat.le_refl _)
  rw [Nat.zero_add] at hr2
  have hb12 := hb1.trans hb2
  have HM : Hid (Nat.min 1 c ≤ c ∧ (0 < c → 1 ≤ Nat.min 1 c)) := ⟨hm2, hm3⟩
  clear hmv H1 H2 H4 hb1 hb2 hm1 hm2 hm3
  generalize Nat.min 1 c = m0 at *
  go_loopw [8] (fun nv wr => ∃ n : Nat, (0 < c → 1 ≤ n) ∧ n ≤ c ∧ nv = .int .i64 n ∧ Hid (wr.heap[w.heap.size]? = some (.cells (ev (rv_ c v n)).toArray 54 (0, 0))) ∧ Below w.heap.size w wr) (fun nv _ => c - (intOf nv).toNat)
  case atStart => exact ⟨m0, HM.out.2, HM.out.1, rfl, hr2, hb12⟩
  case round =>
    clear hr2 hb12 HM
    obtain ⟨n, n1, n2, rfl, HR, hb⟩ := hrel
    by_cases hlt : n < c
    · have n1 := n1 (by omega)
      obtain ⟨m, hm, hm1, hm2, hm3⟩ : ∃ m, m = Nat.min n (c - n) ∧ 0 < m ∧ n + m ≤ c ∧ m ≤ n := ⟨_, rfl, by simp only [Nat.min_def]; split <;> omega, by simp only [Nat.min_def]; split <;> omega, by simp only [Nat.min_def]; split <;> omega⟩
      have HRd : Hid (wr.drew.heap[w.heap.size]? = some (.cells (ev (rv_ c v n)).toArray 54 (0, 0))) := HR.out
      have H1 : Hid (∀ j u, (ev (List.replicate m v))[j]? = some u → wr.drew.cell? ((⟨w.heap.size, 0, none⟩ : Addr).add j) = some u) := rv_cell HRd.out m hm3
      have H4 : Hid (n * 2 + (ev (List.replicate m v)).length ≤ (ev (rv_ c v n)).length) := by show _ ≤ _; rw [ev_rep, ev_length, rv_len c v n n2]; omega
      have hne : ¬ c = n := by omega
      have i0 : (0 : Int) ≤ (n : Int) := by omega
      have i1 : (n : Int) ≤ (c : Int) := by omega
      have i2 : (n : Int) < (c : Int) := by omega
      clear HR
      go_wp2_with fail
      go_region_law (refine step_copy_mv2 rfl (.tmp 41) (.tmp 44) 38 38 54 rfl Tryz.underlying38 sizeVr (some ⟨w.heap.size, n * 2, none⟩) (some ⟨w.heap.size, 0, none⟩) (c - n) (c - n) n c ?_ ?_ w.heap.size (n * 2) (ev (rv_ c v n)) 54 HRd.out (ev (List.replicate m v)) m hm (ev_rep _ _) (fun _ => ⟨rfl, _, rfl, H1.out⟩) H4.out (ev_one _) ?_; (simp [Act.eval, Act.put]); (simp [Act.eval, Act.put]); intro w3 hmv3)
      obtain ⟨hr3, hb3⟩ := mv_rv (B := w.heap.size) hmv3 HRd.out hm2 (Nat.le_refl _)
      have HR3 : Hid (w3.heap[w.heap.size]? = some (.cells (ev (rv_ c v (n + m))).toArray 54 (0, 0))) := hr3
      have hb13 := hb.drew.trans hb3
      have hw : IntKind.i64.wrap ((n : Int) + (m : Int)) = ((n + m : Nat) : Int) := by rw [IntKind.wrap_i64]; omega
      clear hr3 hb3 hmv3 HRd H1 H4 hb
      simp [Act.put, go_sem, Exit.inBlock]
      rw [← hm, hw]
      refine ⟨⟨_, _, _, _, _, _, _, _, _, _, _, _, _, _, ?rel, rfl⟩, ?measure⟩
      case rel => exact ⟨n + m, fun _ => by omega, hm2, rfl, HR3, hb13⟩
      case measure => simp [intOf]; omega
    · obtain rfl : n = c := by omega
      have HR2 := HR.out
      rw [EC.out] at HR2
      go_wp2_with fail
      go_ret
      exact ⟨w.heap.size, rfl, Nat.le_refl _, HR2, hb⟩

end Go.Proofs.YtogknhogphkddaaGreat

/- A grove in memory: root, case by case: two roots become a thing. -/
namespace Go.Proofs.YtogknhogphkddaaGreat
open Go.RowKit W Kp Stl

section
variable {gp rb : Nat} {most grow : Int} {F : Nat → Prop} {s : Wrs} {w : World} {g : Gfn}

theorem cut_rs (g : List Bool → List Bool) (s : Wrs) (grow : Int) (mj : Bool) : (s.cut g grow mj).rs = s.rs := by
  unfold Wrs.cut
  split <;> rfl
theorem room_rs (g : Gfn) (most grow : Int) (s : Wrs) (m : Int) : (s.room g most grow m).2.rs = s.rs := by
  unfold Wrs.room
  split
  · rfl
  · exact cut_rs _ _ _ _
theorem grow_rs (g : Gfn) (most grow : Int) (s : Wrs) (kd : Int) (fl : List (Int × Int)) : (s.grow g most grow kd fl).2.2.rs = s.rs := by
  unfold Wrs.grow
  split
  · exact room_rs _ _ _ _ _
  · exact room_rs _ _ _ _ _
theorem popW_rs (s : Wrs) (v : Int × Int) : (s.pop v).2.2.rs = s.rs := by
  unfold Wrs.pop
  split
  · split <;> rfl
  · rfl
theorem grO_lk (h : (grO gp most grow rb).J F s w) : w.cell? ⟨gp, 6, none⟩ = some (.slice (some ⟨rb, 0, none⟩) 12 12) ∧ (∀ i, i < 12 → w.cell? ⟨rb, i * 2, none⟩ = some (.int .i64 (s.rs.getD i (0, 0)).1) ∧ w.cell? ⟨rb, i * 2 + 1, none⟩ = some (.int .i64 (s.rs.getD i (0, 0)).2)) ∧ F gp ∧ F rb := by
  obtain ⟨l, h, rfl, hF⟩ := h
  have c := h.g4.cells.2.2
  exact ⟨h.cells.2.2.2.2.2.2.1, fun i hi => ⟨(c i hi).1, (c i hi).2.1⟩, (hF _).2 (by rw [h.bo]; decide), (hF _).2 (by rw [h.g4.ro]; decide)⟩

theorem far2 {w : World} {b c o : Nat} {x v0 v1 : Value} (hn : b ≠ c) (h : w.cell? ⟨b, o, none⟩ = some x) : ((w.setCell ⟨c, 0, none⟩ v0).setCell ⟨c, 1, none⟩ v1).cell? ⟨b, o, none⟩ = some x := by
  rw [World.cell?_setCell_far _ _ _ _ (fun e => hn e.symm), World.cell?_setCell_far _ _ _ _ (fun e => hn e.symm)]
  exact h

set_option maxRecDepth 100000 in
set_option maxHeartbeats 4000000 in
theorem rootG_pr (h : (grO gp most grow rb).J F s w) (hv : Wcv s) (hG : Gok s.T s.wt (g s.T s.wt)) (g0 : -1000000 ≤ grow) (g1 : grow ≤ 1000000) (m0 : -1000000 ≤ most) (m1 : most ≤ 1000000) (R I n : Int) {k kd : Int} (hk : k = 4 ∧ kd = 1 ∨ k = 6 ∧ kd = 3 ∨ k = 7 ∧ kd = 4) (A B : Nat) (hA : A < 12) (hB : B < 12) :
    Calls Tryz.prog 23 #[.pointer (some ⟨gp, 0, none⟩), hsV k R A B I n] w fun e w' => ∃ F', e = .returned (.tuple #[.agg #[.int .i64 (s.grow g most grow kd [s.rs.getD A (0, 0), s.rs.getD B (0, 0)]).1.1, .int .i64 (s.grow g most grow kd [s.rs.getD A (0, 0), s.rs.getD B (0, 0)]).1.2], .int .i64 (s.grow g most grow kd [s.rs.getD A (0, 0), s.rs.getD B (0, 0)]).2.1]) ∧ (grO gp most grow rb).J F' (s.grow g most grow kd [s.rs.getD A (0, 0), s.rs.getD B (0, 0)]).2.2 w' ∧ Tn F w F' w' := by
  have lF : ∀ b, F b → b < w.heap.size := fun b hb => (grO gp most grow rb).lt h b hb
  have hb0 : Below w.heap.size w ((w.alloc (hsC k R A B I n)).alloc (.cells #[.int .i64 0, .int .i64 0] 54)) := ((Below.refl _ _).alloc (Nat.le_refl _) _).alloc (by simp) _
  have x0 : ((w.alloc (hsC k R A B I n)).alloc (.cells #[.int .i64 0, .int .i64 0] 54)).heap[w.heap.size]? = some (hsC k R A B I n) := (Below.heap_alloc _ _ _ (by simp)).trans (heap_alloc_new w _)
  have x1 := alloc_snd w (hsC k R A B I n) (.cells #[.int .i64 0, .int .i64 0] 54)
  obtain ⟨c6, rt, Fg, Fr_⟩ := grO_lk ((grO gp most grow rb).below h hb0)
  obtain ⟨ra0, ra1⟩ := rt A hA
  obtain ⟨rb0, rb1⟩ := rt B hB
  obtain ⟨q0, q1, q2, q3, q4, q5⟩ := hs_cells x0
  have lg := lF _ Fg
  have lr := lF _ Fr_
  have sz0 : ((w.alloc (hsC k R A B I n)).alloc (.cells #[.int .i64 0, .int .i64 0] 54)).heap.size = w.heap.size + 1 + 1 := by simp
  have HP : Calls Tryz.prog 47 #[.pointer (some ⟨gp, 0, none⟩), .int .i64 kd, .slice (some ⟨w.heap.size + 1 + 1, 0, none⟩) 2 2] (((w.alloc (hsC k R A B I n)).alloc (.cells #[.int .i64 0, .int .i64 0] 54)).drew.alloc (.cells #[.int .i64 (s.rs.getD A (0, 0)).1, .int .i64 (s.rs.getD A (0, 0)).2, .int .i64 (s.rs.getD B (0, 0)).1, .int .i64 (s.rs.getD B (0, 0)).2] 54)) fun e w2 => ∃ F', e = .returned (.tuple #[.agg #[.int .i64 (s.grow g most grow kd [s.rs.getD A (0, 0), s.rs.getD B (0, 0)]).1.1, .int .i64 (s.grow g most grow kd [s.rs.getD A (0, 0), s.rs.getD B (0, 0)]).1.2], .int .i64 (s.grow g most grow kd [s.rs.getD A (0, 0), s.rs.getD B (0, 0)]).2.1]) ∧
      (w2.cell? ⟨gp, 6, none⟩ = some (.slice (some ⟨rb, 0, none⟩) 12 12) ∧ w2.cell? ⟨rb, A * 2, none⟩ = some (.int .i64 (s.rs.getD A (0, 0)).1) ∧ w2.cell? ⟨rb, A * 2 + 1, none⟩ = some (.int .i64 (s.rs.getD A (0, 0)).2) ∧ w2.cell? ⟨rb, B * 2, none⟩ = some (.int .i64 (s.rs.getD B (0, 0)).1) ∧ w2.cell? ⟨rb, B * 2 + 1, none⟩ = some (.int .i64 (s.rs.getD B (0, 0)).2) ∧ w2.cell? ⟨w.heap.size, 2, none⟩ = some (.int .i64 A) ∧ w2.cell? ⟨w.heap.size, 3, none⟩ = some (.int .i64 B)) ∧
      w2.heap[w.heap.size + 1]? = some (.cells #[.int .i64 0, .int .i64 0] 54 (0, 0)) ∧ Hid ((grO gp most grow rb).J F' (s.grow g most grow kd [s.rs.getD A (0, 0), s.rs.getD B (0, 0)]).2.2 w2 ∧ Tn F w F' w2 ∧ ¬ F' (w.heap.size + 1)) := by
    have b1 : Below w.heap.size w (((w.alloc (hsC k R A B I n)).alloc (.cells #[.int .i64 0, .int .i64 0] 54)).drew.alloc (.cells #[.int .i64 (s.rs.getD A (0, 0)).1, .int .i64 (s.rs.getD A (0, 0)).2, .int .i64 (s.rs.getD B (0, 0)).1, .int .i64 (s.rs.getD B (0, 0)).2] 54)) := hb0.drew.alloc (by simp; omega) _
    have z1 : (((w.alloc (hsC k R A B I n)).alloc (.cells #[.int .i64 0, .int .i64 0] 54)).drew.alloc (.cells #[.int .i64 (s.rs.getD A (0, 0)).1, .int .i64 (s.rs.getD A (0, 0)).2, .int .i64 (s.rs.getD B (0, 0)).1, .int .i64 (s.rs.getD B (0, 0)).2] 54)).heap.size = w.heap.size + 1 + 1 + 1 := by simp
    have hn := heap_alloc_new ((w.alloc (hsC k R A B I n)).alloc (.cells #[.int .i64 0, .int .i64 0] 54)).drew (.cells #[.int .i64 (s.rs.getD A (0, 0)).1, .int .i64 (s.rs.getD A (0, 0)).2, .int .i64 (s.rs.getD B (0, 0)).1, .int .i64 (s.rs.getD B (0, 0)).2] 54)
    have sz0' : ((w.alloc (hsC k R A B I n)).alloc (.cells #[.int .i64 0, .int .i64 0] 54)).drew.heap.size = w.heap.size + 1 + 1 := sz0
    rw [sz0'] at hn
    refine (growG_any (g := g) (kd := kd) (fl := [s.rs.getD A (0, 0), s.rs.getD B (0, 0)]) (ad := some ⟨w.heap.size + 1 + 1, 0, none⟩) (cap := 2) ((grO gp most grow rb).below h b1) hv hG g0 g1 m0 m1 (by simp) ⟨fun _ => ⟨w.heap.size + 1 + 1, 0, rfl, by rw [z1]; omega, fun i hi => ?_⟩, by simp, fun e => by cases e⟩).mono ?_
    · have hi : i < 2 := hi
      rcases (show i = 0 ∨ i = 1 by omega) with rfl | rfl <;> simp only [World.cell?, hn] <;> exact ⟨rfl, rfl⟩
    · rintro e w2 ⟨F', rfl, hj, tn⟩
      obtain ⟨d6, rt', _, _⟩ := grO_lk hj
      rw [grow_rs] at rt'
      have kp : ∀ b, w.heap.size ≤ b → b < w.heap.size + 1 + 1 → w2.heap[b]? = ((w.alloc (hsC k R A B I n)).alloc (.cells #[.int .i64 0, .int .i64 0] 54)).heap[b]? := fun b h1 h2 => (tn.fr.block b (by rw [z1]; omega) (fun d => by have := lF b d; omega)).trans (Below.heap_alloc ((w.alloc (hsC k R A B I n)).alloc (.cells #[.int .i64 0, .int .i64 0] 54)).drew _ b (by rw [sz0']; omega))
      have y0 := (kp _ (Nat.le_refl _) (by omega)).trans x0
      obtain ⟨_, _, p2, p3, _, _⟩ := hs_cells y0
      refine ⟨F', rfl, ⟨d6, (rt' A hA).1, (rt' A hA).2, (rt' B hB).1, (rt' B hB).2, p2, p3⟩, (kp _ (by omega) (by omega)).trans x1, hj, (Tn.of b1).trans tn, fun d => ?_⟩
      rcases tn.sub _ d with d | d
      · have := lF _ d
        omega
      · rw [z1] at d
        omega
  generalize s.grow g most grow kd [s.rs.getD A (0, 0), s.rs.getD B (0, 0)] = gr at *
  obtain ⟨⟨v0, v1⟩, cd, S2⟩ := gr
  dsimp only at HP ⊢
  generalize (s.rs.getD A (0, 0)).1 = a0 at *
  generalize (s.rs.getD A (0, 0)).2 = a1 at *
  generalize (s.rs.getD B (0, 0)).1 = e0 at *
  generalize (s.rs.getD B (0, 0)).2 = e1 at *
  have i0 : (0 : Int) ≤ (A : Int) := by omega
  have i1 : (A : Int) < 12 := by omega
  have i2 : (0 : Int) ≤ (B : Int) := by omega
  have i3 : (B : Int) < 12 := by omega
  have ng : gp ≠ w.heap.size + 1 := by omega
  have nr : rb ≠ w.heap.size + 1 := by omega
  have nx : w.heap.size ≠ w.heap.size + 1 := by omega
  clear h hv hG hb0 x0 x1 rt lF Fg Fr_ q0 q1 q4 q5 sz0
  rcases hk with ⟨rfl, rfl⟩ | ⟨rfl, rfl⟩ | ⟨rfl, rfl⟩
  all_goals
    go_enter Tryz.func23, Tryz.ntmps23
    go_wp2_with fail
    go_region_held3 (fun w' => w'.cell? ⟨gp, 6, none⟩ = some (.slice (some ⟨rb, 0, none⟩) 12 12) ∧ w'.cell? ⟨rb, A * 2, none⟩ = some (.int .i64 a0) ∧ w'.cell? ⟨rb, A * 2 + 1, none⟩ = some (.int .i64 a1) ∧ w'.cell? ⟨rb, B * 2, none⟩ = some (.int .i64 e0) ∧ w'.cell? ⟨rb, B * 2 + 1, none⟩ = some (.int .i64 e1) ∧ w'.cell? ⟨w.heap.size, 2, none⟩ = some (.int .i64 A) ∧ w'.cell? ⟨w.heap.size, 3, none⟩ = some (.int .i64 B)) (first | exact ⟨far2 ng d1, far2 nr d2, far2 nr d3, far2 nr d4, far2 nr d5, far2 nx d6, far2 nx d7⟩ | (go_keep; done))
      (first | (go_at_call 47; refine HP.mono ?_; clear HP; rintro e w2 ⟨F', rfl, ⟨d1, d2, d3, d4, d5, d6, d7⟩, y1, HJ⟩; obtain ⟨r0, r1, f0, lw⟩ := two_cells y1; have HN : Hid (_ = _) := y1; clear y1 c6 ra0 ra1 rb0 rb1 q2 q3))
    all_goals
      clear d1 d2 d3 d4 d5 d6 d7 ‹_ ∧ _›
      go_wp2_with fail
      obtain ⟨r0', r1', _, _⟩ := two_cells (set_two (v1 := .int .i64 v0) (v2 := .int .i64 v1) HN.out)
      exact bodyPost_ret (v := .tuple #[.agg #[.int .i64 v0, .int .i64 v1], .int .i64 cd]) (by simp [results, Tryz.results23, go_sem, r0', r1']) rfl ⟨F', rfl, Ob.set2 _ HJ.out.1 HJ.out.2.2 _ _, HJ.out.2.1.set2 (Nat.le_succ _) _ _⟩
end

end Go.Proofs.YtogknhogphkddaaGreat
