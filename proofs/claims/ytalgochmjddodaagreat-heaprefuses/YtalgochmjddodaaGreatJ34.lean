/- Joined: Rp, Hp2. -/
import Derived.Test.YtalgochmjddodaaGreatJ17
import Derived.Test.YtalgochmjddodaaGreatJ21
import Derived.Test.YtalgochmjddodaaGreatJ32
namespace Go.Proofs.YtalgochmjddodaaGreat
set_option maxRecDepth 100000
set_option maxHeartbeats 4000000
open Go.RowKit W
theorem mul64_n (c : Nat) (hc : c <= 12) (w : World) : Calls Tryz.prog 224 #[.int .u64 1, .int .u64 c] w fun e w' => e = .returned (.tuple #[.int .u64 0, .int .u64 c]) /\ w' = w := by
  rcases (show c = 0 \/ c = 1 \/ c = 2 \/ c = 3 \/ c = 4 \/ c = 5 \/ c = 6 \/ c = 7 \/ c = 8 \/ c = 9 \/ c = 10 \/ c = 11 \/ c = 12 by omega) with rfl | rfl | rfl | rfl | rfl | rfl | rfl | rfl | rfl | rfl | rfl | rfl | rfl <;>
  (go_enter Tryz.func224, Tryz.ntmps224
   go_wp2_with fail
   go_ret2
   exact ⟨rfl, rfl⟩)
theorem mul_n (c : Nat) (hc : c <= 12) (w : World) : Calls Tryz.prog 178 #[.int .u64 1, .int .u64 c] w fun e w' => e = .returned (.tuple #[.int .u64 0, .int .u64 c]) /\ w' = w := by
 have P := mul64_n c hc w
 go_enter Tryz.func178, Tryz.ntmps178
 go_wp2_with fail
 refine P.mono ?_
 rintro e w1 ⟨rfl, hw⟩
 have hw := hw.symm
 subst hw
 go_wp2_with fail
 go_ret2
 exact ⟨rfl, rfl⟩
def rw_ (c : Nat) (v : Int) (n : Nat) : List Int := List.replicate n v ++ List.replicate (c - n) 0
theorem rw_len (c : Nat) (v : Int) (n : Nat) (h : n <= c) : (rw_ c v n).length = c := by simp [rw_]; omega
theorem rw_step (c : Nat) (v : Int) (n m : Nat) (h : n + m <= c) : splice (rw_ c v n) n (List.replicate m v) = rw_ c v (n + m) := by
 unfold splice rw_
 rw [List.take_left' (by simp), List.length_replicate, List.drop_append, List.length_replicate]
 simp only [List.drop_replicate]
 rw [show n - (n + m) = 0 by omega, show c - n - (n + m - n) = c - (n + m) by omega]
 simp
 rw [<- List.append_assoc, List.replicate_append_replicate]
theorem rw_get (c : Nat) (v : Int) (n i : Nat) (h : i < n) : (rw_ c v n).getD i 0 = v := by
 unfold rw_
 rw [List.getD_eq_getElem?_getD, List.getElem?_append_left (by simpa using h)]
 simp [h]
theorem rw_cell {c : Nat} {w : World} {nb n : Nat} {v : Int} (hr : w.heap[nb]? = some (.cells ((rw_ c v n).map (Value.int .i64)).toArray 3 (0, 0))) (hn : n <= c) (m : Nat) (hm : m <= n) : ∀ j u, ((List.replicate m v).map (Value.int .i64))[j]? = some u -> w.cell? ((⟨nb, 0, none⟩ : Addr).add j) = some u := by
 intro j u hj
 have hjm : j < m := by
  have := (List.getElem?_eq_some_iff.1 hj).1
  simpa using this
 have hu : u = .int .i64 v := by
  simp [hjm] at hj
  exact hj.symm
 have hl := rw_len c v n hn
 have hg := rw_get c v n j (by omega)
 rw [List.getD_eq_getElem?_getD, List.getElem?_eq_getElem (by omega : j < (rw_ c v n).length)] at hg
 simp at hg
 have ea : (⟨nb, 0, none⟩ : Addr).add j = ⟨nb, j, none⟩ := by simp [Addr.add]; intro h; exact h.symm
 rw [ea, hu]
 have hlt : j < (rw_ c v n).length := by omega
 simp [World.cell?, hr, List.getElem?_eq_getElem hlt]
 exact hg
theorem mv_rw {c : Nat} {w w' : World} {nb n m B : Nat} {v : Int} (hmv : Mv w w' nb ((rw_ c v n).map (Value.int .i64)) n ((List.replicate m v).map (Value.int .i64))) (hr : w.heap[nb]? = some (.cells ((rw_ c v n).map (Value.int .i64)).toArray 3 (0, 0))) (hm : 0 < m) (h : n + m <= c) (hB : B <= nb) : w'.heap[nb]? = some (.cells ((rw_ c v (n + m)).map (Value.int .i64)).toArray 3 (0, 0)) /\ Below B w w' := by
 rcases hmv with ⟨h0, _⟩ | rfl
 ·have := congrArg List.length h0
  simp at this
  omega
 ·rw [splice_map, rw_step c v n m h]
  exact ⟨setRow_heap w nb _ _ _ _ hr, ⟨rfl, rfl, rfl, by simp [World.setRow], fun k hk => setRow_other w nb k _ (by omega)⟩⟩
theorem infoIr : (Tryz.prog.info? 3).map (fun i => (i.zero, i.size, i.bytes)) = some (some (.int .i64 0), 1, 8) := by kernel_rfl
theorem sizeIr : (Tryz.prog.info? 3).map (·.size) = some 1 := by kernel_rfl
theorem made_rowI {w : World} {b k n : Nat} (h : w.ownsRow b 3 1 (.slice (some ⟨k, 0, none⟩) n n) n (madeCells (Value.int .i64 0).cells (n * 1)).toList) :
  w.heap[k]? = some (.cells ((List.replicate n (0 : Int)).map (Value.int .i64)).toArray 3 (0, 0)) := by
 obtain ⟨h1, h2⟩ := h
 rcases h2 with ⟨e, _⟩ | ⟨k', cap, cur, hv, hb, hh, h3, h4, h5, h6⟩
 ·cases e
 ·cases hv
  rw [hh]
  have : cur.toList = (List.replicate n (0 : Int)).map (Value.int .i64) := by
   rw [<- List.take_of_length_le (l := cur.toList) (i := n * 1) (by simp; omega), h6]
   show (madeCells #[Value.int .i64 0] (n * 1)).toList = _
   rw [toList_madeCells_one]
   simp
  rw [<- this]
theorem repeatI_any (w : World) (b c : Nat) (v : Int) (h0 : 0 < c) (h1 : c <= 12) (hc : w.cell? ⟨b, 0, none⟩ = some (.int .i64 v)) :
  Calls Tryz.prog 174 #[.slice (some ⟨b, 0, none⟩) 1 1, .int .i64 c] w fun e w' => ∃ nb, e = .returned (.slice (some ⟨nb, 0, none⟩) c c) /\ w.heap.size <= nb /\ w'.heap[nb]? = some (.cells ((List.replicate c v).map (Value.int .i64)).toArray 3 (0, 0)) /\ Below w.heap.size w w' := by
 obtain ⟨i0, hi, hz0, hz1, hz2⟩ := info_parts infoIr
 have lb := World.block_lt_of_cell? w _ hc
 dsimp only at lb
 have PM := mul_n c h1 w
 have EC : Hid (rw_ c v c = List.replicate c v) := by show _ = _; simp [rw_]
 have c0 : (0 : Int) < (c : Int) := by omega
 have c1 : (c : Int) <= 12 := by omega
 go_enter Tryz.func174, Tryz.ntmps174
 go_wp2_with fail
 refine PM.mono ?_
 clear PM
 rintro e w0 ⟨rfl, hw⟩
 have hw := hw.symm
 subst hw
 go_upto_region 7 with (at_make; refine wpList_make_full _ rfl _ _ 105 rfl w.heap.size 3 i0 (.int .i64 0) 1 Tryz.underlying105 hi hz0 hz1 .i64 .i64 _ _ c rfl rfl (by omega) (by omega) (by rw [hz2]; omega) (by unfold maxLen; omega) (Nat.le_refl _) ?_; intro w1 hown hgrow)
 have hr : w1.heap[w.heap.size]? = some (.cells ((rw_ c v 0).map (Value.int .i64)).toArray 3 (0, 0)) := by
  have h9 := made_rowI hown
  simpa [rw_] using h9
 have hb1 : Below w.heap.size w w1 := (Below.refl _ w).grown hgrow (Nat.le_refl _) (fun _ h => by cases h)
 have x1 := (hb1.cell (p := ⟨b, 0, none⟩) lb).trans hc
 clear hown hgrow
 have H1 : Hid (∀ j u, ((List.replicate 1 v).map (Value.int .i64))[j]? = some u -> w1.cell? ((⟨b, 0, none⟩ : Addr).add j) = some u) := one_cell x1
 have H2 : Hid (w1.heap[w.heap.size]? = some (.cells ((rw_ c v 0).map (Value.int .i64)).toArray 3 (0, 0))) := hr
 have H3 : Hid (((List.replicate 1 v).map (Value.int .i64)).length = Nat.min 1 c) := by show _ = _; simp only [List.length_map, List.length_replicate, Nat.min_def]; split <;> omega
 have H4 : Hid (0 + ((List.replicate 1 v).map (Value.int .i64)).length <= ((rw_ c v 0).map (Value.int .i64)).length) := by show _ <= _; rw [List.length_map, List.length_map, rw_len c v 0 (by omega)]; simp; omega
 clear x1 hr
 go_wp2_with (refine wpList_copy_mv rfl _ _ 105 105 3 rfl Tryz.underlying105 sizeIr (some ⟨w.heap.size, 0, none⟩) (some ⟨b, 0, none⟩) c c 1 1 rfl rfl w.heap.size 0 ((rw_ c v 0).map (Value.int .i64)) 3 H2.out ((List.replicate 1 v).map (Value.int .i64)) H3.out (fun _ => ⟨rfl, _, rfl, H1.out⟩) H4.out (ints_one _) ?_; intro w2 hmv)
 obtain ⟨hr2, hb2⟩ := mv_rw (B := w.heap.size) hmv H2.out (by omega) (by omega) (Nat.le_refl _)
 have hb12 := hb1.trans hb2
 clear hmv H1 H2 H3 H4 hb1 hb2
 go_loopw [8] (fun nv wr => ∃ n : Nat, 1 <= n /\ n <= c /\ nv = .int .i64 n /\ Hid (wr.heap[w.heap.size]? = some (.cells ((rw_ c v n).map (Value.int .i64)).toArray 3 (0, 0))) /\ Below w.heap.size w wr) (fun nv _ => c - (intOf nv).toNat)
 case atStart => exact ⟨1, Nat.le_refl _, by omega, rfl, hr2, hb12⟩
 case round =>
  clear hr2 hb12
  obtain ⟨n, n1, n2, rfl, HR, hb⟩ := hrel
  by_cases hlt : n < c
  ·obtain ⟨m, hm, hm1, hm2, hm3⟩ : ∃ m, m = Nat.min n (c - n) /\ 0 < m /\ n + m <= c /\ m <= n := ⟨_, rfl, by simp only [Nat.min_def]; split <;> omega, by simp only [Nat.min_def]; split <;> omega, by simp only [Nat.min_def]; split <;> omega⟩
   have HRd : Hid (wr.drew.heap[w.heap.size]? = some (.cells ((rw_ c v n).map (Value.int .i64)).toArray 3 (0, 0))) := HR.out
   have H1 : Hid (∀ j u, ((List.replicate m v).map (Value.int .i64))[j]? = some u -> wr.drew.cell? ((⟨w.heap.size, 0, none⟩ : Addr).add j) = some u) := rw_cell HRd.out n2 m hm3
   have H3 : Hid (((List.replicate m v).map (Value.int .i64)).length = Nat.min n (c - n)) := by show _ = _; rw [<- hm]; simp
   have H4 : Hid (n + ((List.replicate m v).map (Value.int .i64)).length <= ((rw_ c v n).map (Value.int .i64)).length) := by show _ <= _; rw [List.length_map, List.length_map, rw_len c v n n2]; simpa using hm2
   have hne : ¬ c = n := by omega
   have i0 : (0 : Int) <= (n : Int) := by omega
   have i1 : (n : Int) <= (c : Int) := by omega
   have i2 : (n : Int) < (c : Int) := by omega
   clear HR
   go_wp2_with fail
   go_region_law (refine step_copy_mv rfl (.tmp 41) (.tmp 44) 105 105 3 rfl Tryz.underlying105 sizeIr (some ⟨w.heap.size, n, none⟩) (some ⟨w.heap.size, 0, none⟩) (c - n) (c - n) n c ?_ ?_ w.heap.size n ((rw_ c v n).map (Value.int .i64)) 3 HRd.out ((List.replicate m v).map (Value.int .i64)) H3.out (fun _ => ⟨rfl, _, rfl, H1.out⟩) H4.out (ints_one _) ?_; (simp [Act.eval, Act.put]); (simp [Act.eval, Act.put]); intro w3 hmv3)
   obtain ⟨hr3, hb3⟩ := mv_rw (B := w.heap.size) hmv3 HRd.out hm1 hm2 (Nat.le_refl _)
   have HR3 : Hid (w3.heap[w.heap.size]? = some (.cells ((rw_ c v (n + m)).map (Value.int .i64)).toArray 3 (0, 0))) := hr3
   have hb13 := hb.drew.trans hb3
   have hw : IntKind.i64.wrap ((n : Int) + (m : Int)) = ((n + m : Nat) : Int) := by rw [IntKind.wrap_i64]; omega
   clear hr3 hb3 hmv3 HRd H1 H3 H4 hb
   simp [Act.put, go_sem, Exit.inBlock]
   rw [<- hm, hw]
   refine ⟨⟨_, _, _, _, _, _, _, _, _, _, _, _, _, _, ?rel, rfl⟩, ?measure⟩
   case rel => exact ⟨n + m, by omega, hm2, rfl, HR3, hb13⟩
   case measure => simp [intOf]; omega
  ·obtain rfl : n = c := by omega
   have HR2 := HR.out
   rw [EC.out] at HR2
   go_wp2_with fail
   go_ret
   exact ⟨w.heap.size, rfl, Nat.le_refl _, HR2, hb⟩
theorem repeatI_none (w : World) (b : Nat) (v : Int) :
  Calls Tryz.prog 174 #[.slice (some ⟨b, 0, none⟩) 1 1, .int .i64 0] w fun e w' => ∃ nb, e = .returned (.slice (some ⟨nb, 0, none⟩) 0 0) /\ Below w.heap.size w w' := by
 obtain ⟨i0, hi, hz0, hz1, hz2⟩ := info_parts infoIr
 have PM := mul_n 0 (by omega) w
 go_enter Tryz.func174, Tryz.ntmps174
 go_wp2_with fail
 refine PM.mono ?_
 clear PM
 rintro e w0 ⟨rfl, hw⟩
 have hw := hw.symm
 subst hw
 go_upto_region 7 with (at_make; refine wpList_make_full _ rfl _ _ 105 rfl w.heap.size 3 i0 (.int .i64 0) 1 Tryz.underlying105 hi hz0 hz1 .i64 .i64 _ _ 0 rfl rfl (by omega) (by omega) (by rw [hz2]; omega) (by unfold maxLen; omega) (Nat.le_refl _) ?_; intro w1 hown hgrow)
 have hb1 : Below w.heap.size w w1 := (Below.refl _ w).grown hgrow (Nat.le_refl _) (fun _ h => by cases h)
 have H2 : Hid (w1.heap[w.heap.size]? = some (.cells ((rw_ 0 v 0).map (Value.int .i64)).toArray 3 (0, 0))) := by
  have h9 := made_rowI hown
  show _ = _
  simpa [rw_] using h9
 clear hown hgrow
 go_wp2_with (refine wpList_copy_mv rfl _ _ 105 105 3 rfl Tryz.underlying105 sizeIr (some ⟨w.heap.size, 0, none⟩) (some ⟨b, 0, none⟩) 0 0 1 1 rfl rfl w.heap.size 0 ((rw_ 0 v 0).map (Value.int .i64)) 3 H2.out [] rfl (fun h => absurd h (by decide)) (by simp) (fun _ h => by cases h) ?_; intro w2 hmv)
 have hb2 : Below w.heap.size w w2 := by
  rcases hmv with ⟨_, e⟩ | e
  ·rw [e]
   exact hb1
  ·rw [e]
   exact hb1.trans ⟨rfl, rfl, rfl, by simp [World.setRow], fun k hk => setRow_other w1 w.heap.size k _ (by omega)⟩
 clear hmv H2 hb1
 go_loopw [8] (fun nv wr => nv = .int .i64 0 /\ Below w.heap.size w wr) (fun _ _ => 0)
 case atStart => exact ⟨rfl, hb2⟩
 case round =>
  clear hb2
  obtain ⟨rfl, hb⟩ := hrel
  go_wp2_with fail
  go_ret
  exact ⟨w.heap.size, rfl, hb⟩
end Go.Proofs.YtalgochmjddodaaGreat

namespace Go.Proofs.YtalgochmjddodaaGreat
open Go.RowKit W Kp Stl
structure Hok (a : Wc) (S : Ww) (j : Nat) : Prop where
  kv : ∃ Y G, KInv a S.s Y G
  eo : Eo a S
  m : S.s.M.length <= j
  rq : S.r.length + S.q.length <= 24
def Vok (a : Wc) (S : Ww) (v : Int) : Prop := aB v = true -> tB a.N S.s.y S.s.g S.s.ws v = true
section
variable {a : Wc} {S : Ww} {j : Nat}
theorem Hok.start (a : Wc) (n o : Nat) : Hok a (bo0 n o).1 0 := by
 refine ⟨⟨[], [], ⟨Full2.start, fun x hx ha => ?_, fun v hv => ?_⟩, fun v hv => (by cases hv)⟩, fun e he => ?_, Nat.le_refl _, (show (0 : Nat) <= 24 by decide)⟩
 ·have hx : x ∈ tw 2 12 := hx
  have e : x = 2 := by simpa [tw] using hx
  rw [e, aB_two] at ha
  cases ha
 ·rcases hv with d | d <;> cases d
 ·rcases he with d | d <;> cases d
theorem Hok.mono {i : Nat} (h : Hok a S j) (hi : j <= i) : Hok a S i := ⟨h.kv, h.eo, Nat.le_trans h.m hi, h.rq⟩
theorem Hok.cut (h : Hok a S j) (hb : Wbd a S.s) : Hok a (S.cut a) j /\ Wbd a (S.cut a).s := by
 obtain ⟨Y, G, hk⟩ := h.kv
 have l1 := cut_len a S
 have l2 := h.rq
 refine ⟨⟨hk.cut hb, h.eo.cut hk hb, ?_, by omega⟩, hk.cutb hb⟩
 have := h.m
 unfold Ww.cut
 split
 ·omega
 ·exact Nat.zero_le _
theorem Hok.gcut (h : Hok a S j) (hb : Wbd a S.s) : Hok a (S.gcut a) j /\ Wbd a (S.gcut a).s := by
 obtain ⟨Y, G, hk⟩ := h.kv
 obtain ⟨_, g2, g3⟩ := hk.gcut hb
 have l1 := gcut_len a S
 have l2 := h.rq
 have l3 := h.m
 exact ⟨⟨g2, h.eo.gcut hk hb, by omega, by omega⟩, hk.gcutb hb⟩
theorem Hok.slg (h : Hok a S j) (hb : Wbd a S.s) : S.jfull a = false -> ∃ F, SlG (S.k5 a) (S.j5 a) F /\ F 0 (S.k5 a, 0) := by
 obtain ⟨Y, G, hk⟩ := h.kv
 exact (hk.gcut hb).1
theorem cut_code (h : S.code a ≠ 0) : S.cut a = S := by
 unfold Ww.code at h
 unfold Ww.cut
 split at h
 ·rename_i c
  rw [if_pos c]
 ·exact absurd rfl h
theorem gcut_code (h : S.gcode a ≠ 0) : S.gcut a = S := by
 unfold Ww.gcode at h
 unfold Ww.gcut
 split at h
 ·rename_i c
  rw [if_pos c]
 ·exact absurd rfl h
theorem cut_y (h : S.code a = 0) : (S.cut a).s.y = 0 := by
 unfold Ww.code at h
 unfold Ww.cut
 split at h
 ·omega
 ·rename_i c
  rw [if_neg c]
theorem gcut_y {Y G : List Int} (hk : KInv a S.s Y G) (hb : Wbd a S.s) (h : S.gcode a = 0) : (S.gcut a).s.y = 0 := by
 have hf : S.jfull a = false := by
  unfold Ww.gcode at h
  split at h
  ·omega
  ·rename_i c
   simpa using c
 obtain ⟨_, g, _⟩ := great_in hk hb hf
 exact g.gc.y
theorem Hok.room (h : Hok a S j) (hb : Wbd a S.s) (m : Int) : Hok a (S.room a m).2 j /\ Wbd a (S.room a m).2.s /\ ((S.room a m).1 = 0 -> m <= 16 -> m <= (a.N : Int) - (S.room a m).2.s.y) /\ ((S.room a m).1 ≠ 0 -> (S.room a m).2 = S) := by
 obtain ⟨Y, G, hk⟩ := h.kv
 have n0 := hb.n0
 unfold Ww.room
 split
 ·rename_i c
  exact ⟨h, hb, fun _ _ => c, fun q => absurd rfl q⟩
 ·split
  ·obtain ⟨h1, h2⟩ := h.cut hb
   refine ⟨h1, h2, fun q _ => ?_, fun q => cut_code q⟩
   dsimp only
   rw [cut_y q]
   omega
  ·obtain ⟨h1, h2⟩ := h.gcut hb
   refine ⟨h1, h2, fun q _ => ?_, fun q => gcut_code q⟩
   dsimp only
   rw [gcut_y hk hb q]
   omega
theorem Hok.put (h : Hok a S j) (hb : Wbd a S.s) {kd : Int} {rl : List Nat} (hk : hc kd rl.length = 0) (hr : S.s.y + 1 + rl.length <= a.N) : Hok a (S.put a kd rl) j /\ Wbd a (S.put a kd rl).s /\ Vok a (S.put a kd rl) (ew 3 S.s.y) := by
 obtain ⟨Y, G, kv⟩ := h.kv
 have p := putI kv hb hk hr rl.length (Nat.le_refl _)
 have hb2 : Wbd a (S.put a kd rl).s := ⟨hb.n0, hb.n1, hb.o1, hr, hb.g1, p.l, hb.r1⟩
 have n1 := hb.n1
 have y1 := hb.y1
 refine ⟨⟨⟨_, _, p.k⟩, ?_, h.m, h.rq⟩, hb2, fun _ => ?_⟩
 ·exact h.eo.more kv hb (s' := (S.put a kd rl).s) p.k.inv.full hb2.y1 hb2.g1 (fun v hv => hv.imp (fun c => List.mem_append_left _ c) id)
 ·obtain ⟨e1, e2⟩ := ew_at S.s.y (by omega)
  exact (tB_iff (O := a.O) p.k.inv.full hb2.n1 hb2.y1 hb2.o1 hb2.g1).2 ⟨e1, Or.inl (by rw [e2]; simp)⟩
theorem Hok.grow (h : Hok a S j) (hb : Wbd a S.s) {kd : Int} {rl : List Nat} (hk : hc kd rl.length = 0) : Hok a (S.grow a kd rl).2.2 j /\ Wbd a (S.grow a kd rl).2.2.s /\ ((S.grow a kd rl).2.1 = 0 -> Vok a (S.grow a kd rl).2.2 (S.grow a kd rl).1) /\ ((S.grow a kd rl).2.1 ≠ 0 -> (S.grow a kd rl).2.2 = S) := by
 obtain ⟨h1, h2, h3, h4⟩ := h.room hb (1 + rl.length)
 have hl := hc_bd kd rl.length hk
 unfold Ww.grow
 split
 ·rename_i c
  obtain ⟨p1, p2, p3⟩ := h1.put h2 hk (by have := h3 c (by omega); omega)
  exact ⟨p1, p2, fun _ => p3, fun q => absurd rfl q⟩
 ·rename_i c
  exact ⟨h1, h2, fun q => absurd q c, fun _ => h4 c⟩
theorem Hok.root (h : Hok a S j) (hb : Wbd a S.s) (i : Nat) : Vok a S (S.s.rs.getD i 0) := fun ha => by
 obtain ⟨Y, G, kv⟩ := h.kv
 exact (tB_iff (O := a.O) kv.inv.full hb.n1 hb.y1 hb.o1 hb.g1).2 ⟨ha, kv.any i ha⟩
theorem no_ref {n : Int} (h : vc 1 n = 0) : Vok a S (ew 1 n) := fun ha => by
 rw [(at_enc 1 n h).1] at ha
 exact absurd ha (by decide)
theorem Hok.rt (h : Hok a S j) (hb : Wbd a S.s) {k n : Int} (A B : Nat) (I : Int) (hk : ckN k n = 0) : Hok a (S.rt a k A B I n).2.2 j /\ Wbd a (S.rt a k A B I n).2.2.s /\ ((S.rt a k A B I n).2.1 = 0 -> Vok a (S.rt a k A B I n).2.2 (S.rt a k A B I n).1) /\ ((S.rt a k A B I n).2.1 ≠ 0 -> (S.rt a k A B I n).2.2 = S) := by
 unfold Ww.rt
 by_cases e1 : k = 1
 ·rw [if_pos e1]
  exact ⟨h, hb, fun q => no_ref q, fun _ => rfl⟩
 rw [if_neg e1]
 by_cases e3 : k = 3
 ·rw [if_pos e3]
  exact ⟨h, hb, fun _ => h.root hb A, fun _ => rfl⟩
 rw [if_neg e3]
 by_cases e4 : k = 4
 ·rw [if_pos e4]
  exact h.grow hb rfl
 rw [if_neg e4]
 by_cases e5 : k = 5
 ·rw [if_pos e5]
  refine h.grow hb ?_
  unfold ckN at hk
  rw [if_neg e1, if_pos e5] at hk
  have := hc_bd 2 n hk
  rw [List.length_replicate, show ((n.toNat : Nat) : Int) = n by omega]
  exact hk
 rw [if_neg e5]
 by_cases e6 : k = 6
 ·rw [if_pos e6]
  exact h.grow hb rfl
 rw [if_neg e6]
 by_cases e7 : k = 7
 ·rw [if_pos e7]
  exact h.grow hb rfl
 rw [if_neg e7]
 by_cases e8 : k = 8
 ·rw [if_pos e8]
  exact h.grow hb rfl
 rw [if_neg e8]
 by_cases e10 : k = 10
 ·rw [if_pos e10]
  unfold Ww.pop
  generalize S.s.rs.getD A 0 = x
  split
  ·split
   ·rename_i hi
    have hmem : S.q.getD (pqI x S.q) (0, 0) ∈ S.q := by
     rw [List.getD_eq_getElem?_getD, List.getElem?_eq_getElem hi]
     exact List.getElem_mem hi
    have sub : ∀ e, e ∈ S.q.take (pqI x S.q) ++ S.q.drop (pqI x S.q + 1) -> e ∈ S.q := fun e he => by
     rcases List.mem_append.1 he with d | d
     ·exact List.mem_of_mem_take d
     ·exact List.mem_of_mem_drop d
    refine ⟨⟨h.kv, fun e he => h.eo e (he.imp id (sub e)), h.m, ?_⟩, hb, fun _ _ => (h.eo _ (Or.inr hmem)).2, fun q => absurd rfl q⟩
    have := h.rq
    dsimp only
    rw [List.length_append, List.length_take, List.length_drop]
    omega
   ·exact ⟨h, hb, fun q => absurd q (by dsimp only; omega), fun _ => rfl⟩
  ·exact ⟨h, hb, fun q => absurd q (by dsimp only; omega), fun _ => rfl⟩
 rw [if_neg e10]
 by_cases e11 : k = 11
 ·rw [if_pos e11]
  refine ⟨h, hb, fun q ha => ?_, fun _ => rfl⟩
  have q : fcC a.N S.s.y S.s.g S.s.ws (S.s.rs.getD A 0) I = 0 := q
  dsimp only at ha ⊢
  rw [if_pos q] at ha ⊢
  obtain ⟨Y, G, kv⟩ := h.kv
  obtain ⟨t1, t2, t3, t4⟩ := fcC_zero q
  obtain ⟨_, hv⟩ := (tB_iff (O := a.O) kv.inv.full hb.n1 hb.y1 hb.o1 hb.g1).1 t1
  rw [kv.inv.full.stands hb.y1 hv] at t4
  exact (tB_iff (O := a.O) kv.inv.full hb.n1 hb.y1 hb.o1 hb.g1).2 ⟨ha, kv.inv.fd _ hv I t3 t4 ha⟩
 rw [if_neg e11]
 by_cases e13 : k = 13
 ·rw [if_pos e13]
  unfold Ww.len
  split
  ·exact ⟨h, hb, fun q => no_ref q, fun _ => rfl⟩
  ·exact ⟨h, hb, fun q => absurd q (by dsimp only; omega), fun _ => rfl⟩
 rw [if_neg e13]
 by_cases e14 : k = 14
 ·rw [if_pos e14]
  refine ⟨h, hb, fun _ => ?_, fun _ => rfl⟩
  dsimp only
  split
  ·exact no_ref (by decide)
  ·exact no_ref (by decide)
 rw [if_neg e14]
 exact ⟨h, hb, fun _ ha => by have ha : aB 2 = true := ha; exact absurd ha (by decide), fun _ => rfl⟩
theorem Hok.st (h : Hok a S j) (hb : Wbd a S.s) {R : Nat} {x : Int} (hx : Vok a S x) : Hok a (S.st R x) j /\ Wbd a (S.st R x).s := by
 obtain ⟨Y, G, kv⟩ := h.kv
 refine ⟨⟨⟨Y, G, kv.root R x (fun ha => (tB_iff (O := a.O) kv.inv.full hb.n1 hb.y1 hb.o1 hb.g1).1 (hx ha) |>.2)⟩, fun e he => h.eo e he, h.m, h.rq⟩, ⟨hb.n0, hb.n1, hb.o1, hb.y1, hb.g1, hb.l1, ?_⟩⟩
 show (S.s.rs.set R x).length = 12
 rw [List.length_set]
 exact hb.r1
theorem Hok.set (h : Hok a S j) (hb : Wbd a S.s) (A B : Nat) (I : Int) : Hok a (S.set a (S.s.rs.getD A 0) I (S.s.rs.getD B 0)) (j + 1) /\ Wbd a (S.set a (S.s.rs.getD A 0) I (S.s.rs.getD B 0)).s := by
 obtain ⟨Y, G, kv⟩ := h.kv
 have hF := kv.inv.full.stW hb.l1 hb.n1 hb.y1 hb.o1 hb.g1 (S.s.rs.getD A 0) I (S.s.rs.getD B 0)
 refine ⟨⟨⟨Y, G, ?_, CdI.set kv.inv kv.cd hb.l1 hb.n1 hb.y1 hb.o1 hb.g1 _ _ _⟩, ?_, ?_, h.rq⟩, ⟨hb.n0, hb.n1, hb.o1, hb.y1, hb.g1, ?_, hb.r1⟩⟩
 ·show WInv a.N S.s.y S.s.g (stW a.N S.s.y S.s.g S.s.ws (S.s.rs.getD A 0) I (S.s.rs.getD B 0)) Y G S.s.rs
  by_cases hfc : fcC a.N S.s.y S.s.g S.s.ws (S.s.rs.getD A 0) I = 0
  ·obtain ⟨t1, t2, t3, t4⟩ := fcC_zero hfc
   obtain ⟨_, hv⟩ := (tB_iff (O := a.O) kv.inv.full hb.n1 hb.y1 hb.o1 hb.g1).1 t1
   rw [kv.inv.full.stands hb.y1 hv] at t4
   have hi := field_i kv.inv.full hv t3 t4
   unfold stW
   rw [if_pos hfc, if_pos hi]
   exact kv.inv.set hb.l1 hb.y1 hb.g1 hv t3 t4 (fun d => kv.any B d)
  ·rw [(fc_no2 (M := S.s.M) (c := nC a.O) hfc).1]
   exact kv.inv
 ·exact h.eo.more kv hb (s' := (S.set a (S.s.rs.getD A 0) I (S.s.rs.getD B 0)).s) hF hb.y1 hb.g1 (fun v hv => hv)
 ·have := h.m
  have := stM_len (N := a.N) (y := S.s.y) (g := S.s.g) (ws := S.s.ws) (S.s.rs.getD A 0) I (S.s.rs.getD B 0) (nC a.O) S.s.M
  show (stM a.N S.s.y S.s.g S.s.ws (S.s.rs.getD A 0) I (S.s.rs.getD B 0) (nC a.O) S.s.M).length <= j + 1
  omega
 ·show (stW a.N S.s.y S.s.g S.s.ws (S.s.rs.getD A 0) I (S.s.rs.getD B 0)).length = a.N + a.O
  unfold stW
  split
  ·split
   ·rw [List.length_set]
    exact hb.l1
   ·exact hb.l1
  ·exact hb.l1
theorem set_code {x i z : Int} (h : fcC a.N S.s.y S.s.g S.s.ws x i ≠ 0) : S.set a x i z = S := by
 unfold Ww.set
 rw [(fc_no2 (M := S.s.M) (c := nC a.O) (z := z) h).1, (fc_no2 (M := S.s.M) (c := nC a.O) (z := z) h).2]
theorem ex_tB {x : Int} (h : S.ex a x = 0) : tB a.N S.s.y S.s.g S.s.ws x = true := by
 unfold Ww.ex at h
 split at h
 ·assumption
 ·omega
theorem kx_tB {x : Int} (h : S.kx a x = 5) : tB a.N S.s.y S.s.g S.s.ws x = true := by
 unfold Ww.kx at h
 split at h
 ·assumption
 ·omega
theorem Hok.reg (h : Hok a S j) (hb : Wbd a S.s) (t g : Int) : Hok a (S.reg a t g).2 j /\ Wbd a (S.reg a t g).2.s /\ ((S.reg a t g).1 ≠ 0 -> (S.reg a t g).2 = S) := by
 unfold Ww.reg
 split
 ·rename_i c1
  split
  ·rename_i c2
   split
   ·exact ⟨h, hb, fun _ => rfl⟩
   ·rename_i c3
    refine ⟨⟨h.kv, fun e he => ?_, h.m, ?_⟩, hb, fun q => absurd rfl q⟩
    ·rcases he with d | d
     ·rcases List.mem_append.1 d with d | d
      ·exact h.eo e (Or.inl d)
      ·rw [List.mem_singleton.1 d]
       exact ⟨kx_tB c2, ex_tB c1⟩
     ·exact h.eo e (Or.inr d)
    ·dsimp only
     rw [List.length_append, List.length_singleton]
     omega
  ·exact ⟨h, hb, fun _ => rfl⟩
 ·exact ⟨h, hb, fun _ => rfl⟩
theorem ck_N {k R A B n : Int} (h : ckC k R A B n = 0) : ckN k n = 0 := by
 unfold ckC at h
 split at h
 ·omega
 ·split at h
  ·omega
  ·exact h
theorem Hok.hd (h : Hok a S j) (hb : Wbd a S.s) (k R A B I n : Int) : Hok a (S.hd a k R A B I n).2 (j + 1) /\ Wbd a (S.hd a k R A B I n).2.s /\ ((S.hd a k R A B I n).1 ≠ 0 -> (S.hd a k R A B I n).2 = S) := by
 unfold Ww.hd
 split
 ·rename_i hc
  split
  ·obtain ⟨r1, r2, r3⟩ := h.reg hb (S.s.rs.getD A.toNat 0) (S.s.rs.getD B.toNat 0)
   exact ⟨r1.mono (by omega), r2, r3⟩
  ·split
   ·obtain ⟨r1, r2⟩ := h.set hb A.toNat B.toNat I
    exact ⟨r1, r2, fun q => set_code q⟩
   ·split
    ·obtain ⟨r1, r2⟩ := h.cut hb
     exact ⟨r1.mono (by omega), r2, fun q => cut_code q⟩
    ·split
     ·obtain ⟨r1, r2⟩ := h.gcut hb
      exact ⟨r1.mono (by omega), r2, fun q => gcut_code q⟩
     ·obtain ⟨r1, r2, r3, r4⟩ := h.rt hb A.toNat B.toNat I (ck_N hc)
      split
      ·rename_i c
       obtain ⟨s1, s2⟩ := r1.st (R := R.toNat) r2 (r3 c)
       exact ⟨s1.mono (by omega), s2, fun q => absurd rfl q⟩
      ·rename_i c
       exact ⟨r1.mono (by omega), r2, fun _ => r4 c⟩
 ·exact ⟨h.mono (by omega), hb, fun _ => rfl⟩
end
end Go.Proofs.YtalgochmjddodaaGreat
