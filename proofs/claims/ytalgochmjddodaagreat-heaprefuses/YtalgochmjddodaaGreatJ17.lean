/- Joined: Vw8, Wr, Wr2, Wo5, Wo6, Wv1, Wv2, Ws10, Hc1, Hc2. -/
import Derived.Test.YtalgochmjddodaaGreatJ16
import Derived.Test.YtalgochmjddodaaGreatJ03
import Derived.Test.YtalgochmjddodaaGreatJ04
import Derived.Deep.DeepCutAuto
import Derived.Test.YtalgochmjddodaaGreatJ06
import Derived.Test.YtalgochmjddodaaGreatJ15
import Derived.Test.YtalgochmjddodaaGreatJ01
namespace Go.Proofs.YtalgochmjddodaaGreat
set_option maxRecDepth 100000
set_option maxHeartbeats 1000000
open Go.RowKit W Kp Stl
def Ln (w : World) (ad : Option Addr) (ns : List (Int × List (Int × Int))) : Prop :=
 ∃ m : List Vnd, nds m = ns /\ (∀ x ∈ m, Lp w x.2.1 x.2.2.2) /\ (0 < m.length -> ∃ b o, ad = some ⟨b, o, none⟩ /\ b < w.heap.size /\ ∀ i x, m[i]? = some x -> w.cell? ⟨b, o + i * 2, none⟩ = some (.int .i64 x.1) /\ w.cell? ⟨b, o + i * 2 + 1, none⟩ = some (.slice x.2.1 x.2.2.2.length x.2.2.1))
theorem Ln.below {w w' : World} {ad : Option Addr} {ns : List (Int × List (Int × Int))} (h : Ln w ad ns) (hb : Below w.heap.size w w') : Ln w' ad ns := by
 obtain ⟨m, h1, h2, h3⟩ := h
 refine ⟨m, h1, fun x hx => (h2 x hx).below hb, fun hp => ?_⟩
 obtain ⟨b, o, e, hl, hc⟩ := h3 hp
 exact ⟨b, o, e, Nat.lt_of_lt_of_le hl hb.size, fun i x hx => ⟨(hb.cell (p := ⟨b, o + i * 2, none⟩) hl).trans (hc i x hx).1, (hb.cell (p := ⟨b, o + i * 2 + 1, none⟩) hl).trans (hc i x hx).2⟩⟩
section
variable {w : World} {pw p q N O y g : Nat} {ws : List Int} {sd : Nat} {v0 : Value} {a1 : Option Addr} {k1 : Nat} {Q : List En} {l : List Int} {ra : Option Addr} {rc : Nat}
def vwL (N y g : Nat) (ws : List Int) (Q : List En) (l : List Int) : List (Int × Int) × Vst :=
 vls (met (thY N y g ws ++ thO N y g ws) (fun a => pk (ld N y g ws a)) (shL N y g ws Q) (thY N y g ws ++ thO N y g ws).length) (thY N y g ws ++ thO N y g ws) ([], []) l
theorem vwL_go (N y g : Nat) (ws : List Int) (Q : List En) (l : List Int) : Vgo (thY N y g ws ++ thO N y g ws) (fun a => pk (ld N y g ws a)) (shL N y g ws Q) ([], []) (vwL N y g ws Q l).2 (vwL N y g ws Q l).1 :=
 vls_go (met_go _) (VOk.start _) (by simp) l
theorem view_any (hq : Wq w pw p q N O y g ws sd v0 a1 k1 Q) (c3 : w.cell? ⟨pw, 3, none⟩ = some (.slice ra l.length rc)) (hl : Lq w ra l) (hm : l.length <= 100000) :
  Calls Tryz.prog 23 #[.pointer (some ⟨pw, 0, none⟩)] w fun e w' => ∃ r2 d2 na nn nc, e = .returned (.agg #[.slice r2 l.length d2, .slice na nn nc]) /\ Lp w' r2 (vwL N y g ws Q l).1 /\ Ln w' na (vwL N y g ws Q l).2.2 /\ nn = (vwL N y g ws Q l).2.2.length /\ Below w.heap.size w w' := by
 have ba := (Below.refl w.heap.size w).alloc (Nat.le_refl _) (.cells #[.slice none 0 0, .slice none 0 0] 52)
 have hr0 := heap_alloc_new w (.cells #[.slice none 0 0, .slice none 0 0] 52)
 have hq0 := hq.low ba
 have hl0 := hl.kf (Kf.of (B := 0) ba)
 have lpw := World.block_lt_of_cell? w _ c3
 have c30 := (ba.cell (p := ⟨pw, 3, none⟩) lpw).trans c3
 have lpw0 : pw < (w.alloc (.cells #[.slice none 0 0, .slice none 0 0] 52)).heap.size := Nat.lt_of_lt_of_le lpw ba.size
 have lr0 : w.heap.size < (w.alloc (.cells #[.slice none 0 0, .slice none 0 0] 52)).heap.size := by simp
 have P := newWalk_any hq0.c0 hq0.ar
 have k1' := hq.ar.hN'
 have k2' := hq.ar.hy
 have k3' := hq.ar.hO
 have k4' := hq.ar.hg
 have hTb : ∀ a ∈ thY N y g ws ++ thO N y g ws, 0 <= a /\ a < 2000 := fun a ha => by
  rcases List.mem_append.1 ha with ha | ha
  ·have := thY_bd a ha; omega
  ·have := thO_bd a ha; omega
 have hTl : (thY N y g ws ++ thO N y g ws).length <= 100000 := by
  have h1 : (thY N y g ws).length <= 2000 := ths_le _ _
  have h2 : (thO N y g ws).length <= 2000 := ths_le _ _
  simp
  omega
 have KV : Hid (∀ (kb mq : Nat) (w1 : World), Wk (w.alloc (.cells #[.slice none 0 0, .slice none 0 0] 52)) w1 kb mq pw (thY N y g ws ++ thO N y g ws) ([], []) (.slice none 0 0) [] -> Calls Tryz.prog 82 #[.pointer (some ⟨kb, 0, none⟩), .slice ra l.length rc] w1 fun e w' => ∃ vn' m' a2 c2, e = .returned (.slice a2 l.length c2) /\ w'.ownsRow w1.heap.size 95 2 (.slice a2 l.length c2) l.length (ev (vwL N y g ws Q l).1) /\ Wk (w.alloc (.cells #[.slice none 0 0, .slice none 0 0] 52)) w' kb mq pw (thY N y g ws ++ thO N y g ws) (vwL N y g ws Q l).2 vn' m' /\ Kv (w.alloc (.cells #[.slice none 0 0, .slice none 0 0] 52)) w1 [] w' m' /\ (∀ k, Fb m' k -> some k ≠ (Value.slice a2 l.length c2).ownBlock)) :=
  fun kb mq w1 h1 => values_any (meet_any hq0 hTb hTl _) (met_go _) h1 (VOk.start _) (by simp) l ra rc (hl0.kf (Kf.of (B := 0) h1.bel)) hm
 have hvl : Hid ((vwL N y g ws Q l).1.length = l.length) := vls_len _ _ _ _
 clear hq hq0 hl hl0 k1' k2' k3' k4' hTb hTl c3
 generalize vwL N y g ws Q l = R at *
 obtain ⟨V, s⟩ := R
 generalize thY N y g ws ++ thO N y g ws = T at *
 dsimp only at *
 go_enter Tryz.func23, Tryz.ntmps23
 go_wp2_with fail
 refine P.mono ?_
 clear P
 rintro e w1 ⟨kb, mq, rfl, h1⟩
 have x3 := (h1.bel.cell (p := ⟨pw, 3, none⟩) lpw0).trans c30
 have H1 : Hid (_) := h1
 clear h1
 go_wp2_with fail
 refine (KV.out kb mq w1 H1.out).mono ?_
 clear KV
 rintro e w2 ⟨vn, m, a2, c2, rfl, hr2, hW2, hK2, _⟩
 obtain ⟨na, nc, e2⟩ := row_slice hW2.row
 subst e2
 have z2 := hW2.cells.2.2.1
 have hb2 := ba.trans (hW2.bel.mono ba.size)
 have hr3 := (hW2.bel.block _ lr0).trans hr0
 have y0 : w2.cell? ⟨w.heap.size, 0, none⟩ = some (.slice none 0 0) := by simp [World.cell?, hr3]
 have y1 : w2.cell? ⟨w.heap.size, 1, none⟩ = some (.slice none 0 0) := by simp [World.cell?, hr3]
 have f0 : w2.frozen? ⟨w.heap.size, 0, none⟩ = false := by simp [World.frozen?, hr3]
 have f1 : w2.frozen? ⟨w.heap.size, 1, none⟩ = false := by simp [World.frozen?, hr3]
 have l2 : w.heap.size < w2.heap.size := lt_of_some hr3
 have HW2 : Hid (_ /\ _) := ⟨hW2, hr2⟩
 have hml : Hid (m.length = s.2.length) := hW2.len
 have HB2 : Hid (_) := hb2
 have HR3 : Hid (_ = _) := hr3
 clear hW2 hr2 hK2 hb2 hr3 ba hr0 x3 c30 H1
 go_wp2_with fail
 obtain ⟨W0, hW0⟩ : ∃ W0, W0 = (w2.setCell ⟨w.heap.size, 0, none⟩ (.slice a2 l.length c2)).setCell ⟨w.heap.size, 1, none⟩ (.slice na m.length nc) := ⟨_, rfl⟩
 rw [<- hW0]
 have g0 : W0.cell? ⟨w.heap.size, 0, none⟩ = some (.slice a2 l.length c2) := by
  rw [hW0, World.cell?_setCell_other _ _ _ _ (by simp)]
  exact World.cell?_setCell_same _ _ _ y0
 have g1 : W0.cell? ⟨w.heap.size, 1, none⟩ = some (.slice na m.length nc) := by
  rw [hW0]
  exact World.cell?_setCell_same _ _ _ ((World.cell?_setCell_other w2 ⟨w.heap.size, 0, none⟩ ⟨w.heap.size, 1, none⟩ _ (by simp)).trans y1)
 have hF : Fr (fun k => k = w.heap.size) w2 W0 := by rw [hW0]; exact ((Fr.refl (fun k => k = w.heap.size) w2).set w.heap.size 0 _ rfl).set w.heap.size 1 _ rfl
 clear hW0
 obtain ⟨hW2, hr2⟩ := HW2.out
 have eL : ∀ {ad : Option Addr} {L : List (Int × Int)}, Lv w2 ad L -> Lp W0 ad L := fun {ad L} h => h.1.keep hF.size (fun hp b e => by
  obtain ⟨b0, o0, cs, e0, hb⟩ := h.2 hp
  rw [e0] at e
  cases e
  refine hF.block _ (lt_of_some hb) (fun c => ?_)
  have c : b0 = w.heap.size := c
  rw [c, HR3.out] at hb
  simp at hb)
 refine bodyPost_ret (v := .agg #[.slice a2 l.length c2, .slice na m.length nc]) (by simp [results, Tryz.results23, go_sem, g0, g1]) rfl ⟨a2, c2, na, m.length, nc, rfl, eL (Lv.of (by rw [hvl.out]; exact hr2)), ⟨m, hW2.nd, fun x hx => eL (hW2.fl x hx), fun hp => ?_⟩, hml.out, HB2.out.trans (hF.below (Nat.le_of_lt l2) (fun k e => Nat.le_of_eq (Eq.symm e)))⟩
 obtain ⟨b, cap, e⟩ := row_shape hW2.row hp
 cases e
 obtain ⟨cur, hcur⟩ := row_type hW2.row b rfl
 have hne : b ≠ w.heap.size := fun c => by
  rw [c, HR3.out] at hcur
  simp at hcur
 refine ⟨b, 0, rfl, Nat.lt_of_lt_of_le (lt_of_some hcur) hF.size, fun i x hx => ?_⟩
 obtain ⟨n1, n2⟩ := nv_get m i x hx
 rw [Nat.zero_add]
 exact ⟨(World.cell?_of_block (a := ⟨b, i * 2, none⟩) (hF.block b (lt_of_some hcur) hne)).trans (row_cell hW2.row n1).1, (World.cell?_of_block (a := ⟨b, i * 2 + 1, none⟩) (hF.block b (lt_of_some hcur) hne)).trans (row_cell hW2.row n2).1⟩
end
end Go.Proofs.YtalgochmjddodaaGreat

namespace Go.Proofs.YtalgochmjddodaaGreat
set_option maxRecDepth 100000
set_option maxHeartbeats 400000
open Go.RowKit W
theorem wp_copy_mv {P : Program} {o : Oper} {a : Act} {w : World} {K : Act -> World -> Prop} {Q : Exit -> Act -> World -> Prop} (hgd : o.guard = none) (d s : Operand) (dT sT elem : TypeId)
  (ho : o.op = .call { callee := .builtin .copy, args := #[d, s], argTypes := #[dT, sT] }) (hu : P.underlying dT = some (.slice elem)) (hsz : (P.info? elem).map (·.size) = some 1)
  (dp sp : Option Addr) (dLen dCap sLen sCap : Nat) (hd : a.eval d = .slice dp dLen dCap) (hs : a.eval s = .slice sp sLen sCap)
  (g off : Nat) (cur : List Value) (t : TypeId) (hg : w.heap[g]? = some (.cells cur.toArray t (0, 0))) (cs : List Value) (hn : cs.length = Nat.min sLen dLen)
  (hpos : 0 < cs.length -> dp = some ⟨g, off, none⟩ /\ ∃ ad, sp = some ad /\ ∀ j v, cs[j]? = some v -> w.cell? (ad.add j) = some v)
  (hfit : off + cs.length <= cur.length) (h1 : ∀ v ∈ cs, v.oneCell' = true)
  (h : ∀ w', Mv w w' g cur off cs -> K (a.put o.dst (goInt cs.length)) w') : Oper.wp P o a w K Q := by
 have := step_copy_mv (P := P) (ops := #[]) (o := o) (a := a) (w := w) (K := K) (Q := Q) (E := False) hgd d s dT sT elem ho hu hsz dp sp dLen dCap sLen sCap hd hs g off cur t hg cs hn hpos hfit h1 h
 rwa [if_pos (show Region.wanted o (yielded #[] a.tmps) = true by simp [Region.wanted, hgd])] at this
theorem wpList_copy_mv {P : Program} {ops : Array Oper} {rest : List Oper} {o : Oper} {a : Act} {w : World} {Q : Exit -> Act -> World -> Prop} (hgd : o.guard = none) (d s : Operand) (dT sT elem : TypeId)
  (ho : o.op = .call { callee := .builtin .copy, args := #[d, s], argTypes := #[dT, sT] }) (hu : P.underlying dT = some (.slice elem)) (hsz : (P.info? elem).map (·.size) = some 1)
  (dp sp : Option Addr) (dLen dCap sLen sCap : Nat) (hd : a.eval d = .slice dp dLen dCap) (hs : a.eval s = .slice sp sLen sCap)
  (g off : Nat) (cur : List Value) (t : TypeId) (hg : w.heap[g]? = some (.cells cur.toArray t (0, 0))) (cs : List Value) (hn : cs.length = Nat.min sLen dLen)
  (hpos : 0 < cs.length -> dp = some ⟨g, off, none⟩ /\ ∃ ad, sp = some ad /\ ∀ j v, cs[j]? = some v -> w.cell? (ad.add j) = some v)
  (hfit : off + cs.length <= cur.length) (h1 : ∀ v ∈ cs, v.oneCell' = true)
  (h : ∀ w', Mv w w' g cur off cs -> wpList P ops Q rest (a.put o.dst (goInt cs.length)) w') : wpList P ops Q (o :: rest) a w :=
 wpList_plain hgd fun _ hK => wp_copy_mv hgd d s dT sT elem ho hu hsz dp sp dLen dCap sLen sCap hd hs g off cur t hg cs hn hpos hfit h1 (fun w' hw => hK _ _ (h w' hw))
theorem mul64_c (w : World) : Calls Tryz.prog 224 #[.int .u64 1, .int .u64 12] w fun e w' => e = .returned (.tuple #[.int .u64 0, .int .u64 12]) /\ w' = w := by
 go_enter Tryz.func224, Tryz.ntmps224
 go_wp2_with fail
 go_ret2
 exact ⟨rfl, rfl⟩
theorem mul_c (w : World) : Calls Tryz.prog 178 #[.int .u64 1, .int .u64 12] w fun e w' => e = .returned (.tuple #[.int .u64 0, .int .u64 12]) /\ w' = w := by
 go_enter Tryz.func178, Tryz.ntmps178
 go_wp2_with fail
 refine (mul64_c w).mono ?_
 rintro e w1 ⟨rfl, hw⟩
 have hw := hw.symm
 subst hw
 go_wp2_with fail
 go_ret2
 exact ⟨rfl, rfl⟩
end Go.Proofs.YtalgochmjddodaaGreat

namespace Go.Proofs.YtalgochmjddodaaGreat
set_option maxRecDepth 100000
set_option maxHeartbeats 400000
open Go.RowKit W
def tw (v : Int) (n : Nat) : List Int := List.replicate n v ++ List.replicate (12 - n) 0
theorem tw_len (v : Int) (n : Nat) (h : n <= 12) : (tw v n).length = 12 := by simp [tw]; omega
theorem tw_step (v : Int) (n m : Nat) (h : n + m <= 12) : splice (tw v n) n (List.replicate m v) = tw v (n + m) := by
 unfold splice tw
 rw [List.take_left' (by simp), List.length_replicate, List.drop_append, List.length_replicate]
 simp only [List.drop_replicate]
 rw [show n - (n + m) = 0 by omega, show 12 - n - (n + m - n) = 12 - (n + m) by omega]
 simp
 rw [<- List.append_assoc, List.replicate_append_replicate]
theorem tw_get (v : Int) (n i : Nat) (h : i < n) : (tw v n).getD i 0 = v := by
 unfold tw
 rw [List.getD_eq_getElem?_getD, List.getElem?_append_left (by simpa using h)]
 simp [h]
theorem one_cell {w : World} {b : Nat} {v : Int} (hc : w.cell? ⟨b, 0, none⟩ = some (.int .i64 v)) : ∀ j u, ((List.replicate 1 v).map (Value.int .i64))[j]? = some u -> w.cell? ((⟨b, 0, none⟩ : Addr).add j) = some u := by
 intro j u hj
 have hj0 : j = 0 := by
  have := (List.getElem?_eq_some_iff.1 hj).1
  simpa using this
 subst hj0
 simp at hj
 rw [<- hj]
 simpa [Addr.add] using hc
theorem tw_cell {w : World} {nb n : Nat} {v : Int} (hr : w.heap[nb]? = some (.cells ((tw v n).map (Value.int .i64)).toArray 2 (0, 0))) (hn : n <= 12) (m : Nat) (hm : m <= n) : ∀ j u, ((List.replicate m v).map (Value.int .i64))[j]? = some u -> w.cell? ((⟨nb, 0, none⟩ : Addr).add j) = some u := by
 intro j u hj
 have hjm : j < m := by
  have := (List.getElem?_eq_some_iff.1 hj).1
  simpa using this
 have hu : u = .int .i64 v := by
  simp [hjm] at hj
  exact hj.symm
 have hl := tw_len v n hn
 have hg := tw_get v n j (by omega)
 rw [List.getD_eq_getElem?_getD, List.getElem?_eq_getElem (by omega : j < (tw v n).length)] at hg
 simp at hg
 have ea : (⟨nb, 0, none⟩ : Addr).add j = ⟨nb, j, none⟩ := by simp [Addr.add]; intro h; exact h.symm
 rw [ea, hu]
 have hlt : j < (tw v n).length := by omega
 simp [World.cell?, hr, List.getElem?_eq_getElem hlt]
 exact hg
theorem mv_tw {w w' : World} {nb n m B : Nat} {v : Int} (hmv : Mv w w' nb ((tw v n).map (Value.int .i64)) n ((List.replicate m v).map (Value.int .i64))) (hr : w.heap[nb]? = some (.cells ((tw v n).map (Value.int .i64)).toArray 2 (0, 0))) (hm : 0 < m) (h : n + m <= 12) (hB : B <= nb) : w'.heap[nb]? = some (.cells ((tw v (n + m)).map (Value.int .i64)).toArray 2 (0, 0)) /\ Below B w w' := by
 rcases hmv with ⟨h0, _⟩ | rfl
 ·have := congrArg List.length h0
  simp at this
  omega
 ·rw [splice_map, tw_step v n m h]
  exact ⟨setRow_heap w nb _ _ _ _ hr, ⟨rfl, rfl, rfl, by simp [World.setRow], fun k hk => setRow_other w nb k _ (by omega)⟩⟩
theorem repeat12_any (w : World) (b : Nat) (v : Int) (hc : w.cell? ⟨b, 0, none⟩ = some (.int .i64 v)) :
  Calls Tryz.prog 109 #[.slice (some ⟨b, 0, none⟩) 1 1, .int .i64 12] w fun e w' => ∃ nb, e = .returned (.slice (some ⟨nb, 0, none⟩) 12 12) /\ w.heap.size <= nb /\ w'.heap[nb]? = some (.cells ((tw v 12).map (Value.int .i64)).toArray 2 (0, 0)) /\ Below w.heap.size w w' := by
 obtain ⟨i0, hi, hz0, hz1, hz2⟩ := info_parts info64A
 have lb := World.block_lt_of_cell? w _ hc
 dsimp only at lb
 go_enter Tryz.func109, Tryz.ntmps109
 go_wp2_with fail
 refine (mul_c w).mono ?_
 rintro e w0 ⟨rfl, hw⟩
 have hw := hw.symm
 subst hw
 go_upto_region 7 with (at_make; refine wpList_make_full _ rfl _ _ 42 rfl w.heap.size 2 i0 (.int .i64 0) 1 Tryz.underlying42 hi hz0 hz1 .i64 .i64 _ _ 12 rfl rfl (by omega) (by omega) (by rw [hz2]; omega) (by unfold maxLen; omega) (Nat.le_refl _) ?_; intro w1 hown hgrow)
 have hr : w1.heap[w.heap.size]? = some (.cells ((tw v 0).map (Value.int .i64)).toArray 2 (0, 0)) := by
  have h9 := made_row hown
  simpa [tw] using h9
 have hb1 : Below w.heap.size w w1 := (Below.refl _ w).grown hgrow (Nat.le_refl _) (fun _ h => by cases h)
 have x1 := (hb1.cell (p := ⟨b, 0, none⟩) lb).trans hc
 clear hown hgrow
 have H1 : Hid (∀ j u, ((List.replicate 1 v).map (Value.int .i64))[j]? = some u -> w1.cell? ((⟨b, 0, none⟩ : Addr).add j) = some u) := one_cell x1
 have H2 : Hid (w1.heap[w.heap.size]? = some (.cells ((tw v 0).map (Value.int .i64)).toArray 2 (0, 0))) := hr
 have H3 : Hid (((List.replicate 1 v).map (Value.int .i64)).length = Nat.min 1 12) := rfl
 have H4 : Hid (0 + ((List.replicate 1 v).map (Value.int .i64)).length <= ((tw v 0).map (Value.int .i64)).length) := by show _ <= _; rw [List.length_map, List.length_map, tw_len v 0 (by omega)]; simp
 clear x1 hr
 go_wp2_with (refine wpList_copy_mv rfl _ _ 42 42 2 rfl Tryz.underlying42 size64 (some ⟨w.heap.size, 0, none⟩) (some ⟨b, 0, none⟩) 12 12 1 1 rfl rfl w.heap.size 0 ((tw v 0).map (Value.int .i64)) 2 H2.out ((List.replicate 1 v).map (Value.int .i64)) H3.out (fun _ => ⟨rfl, _, rfl, H1.out⟩) H4.out (ints_one _) ?_; intro w2 hmv)
 obtain ⟨hr2, hb2⟩ := mv_tw (B := w.heap.size) hmv H2.out (by omega) (by omega) (Nat.le_refl _)
 have hb12 := hb1.trans hb2
 clear hmv H1 H2 H3 H4 hb1 hb2
 go_loopw [8] (fun nv wr => ∃ n : Nat, 1 <= n /\ n <= 12 /\ nv = .int .i64 n /\ Hid (wr.heap[w.heap.size]? = some (.cells ((tw v n).map (Value.int .i64)).toArray 2 (0, 0))) /\ Below w.heap.size w wr) (fun nv _ => 12 - (intOf nv).toNat)
 case atStart => exact ⟨1, Nat.le_refl _, by omega, rfl, hr2, hb12⟩
 case round =>
  clear hr2 hb12
  obtain ⟨n, n1, n2, rfl, HR, hb⟩ := hrel
  by_cases hlt : n < 12
  ·obtain ⟨m, hm, hm1, hm2, hm3⟩ : ∃ m, m = Nat.min n (12 - n) /\ 0 < m /\ n + m <= 12 /\ m <= n := ⟨_, rfl, by simp only [Nat.min_def]; split <;> omega, by simp only [Nat.min_def]; split <;> omega, by simp only [Nat.min_def]; split <;> omega⟩
   have HRd : Hid (wr.drew.heap[w.heap.size]? = some (.cells ((tw v n).map (Value.int .i64)).toArray 2 (0, 0))) := HR.out
   have H1 : Hid (∀ j u, ((List.replicate m v).map (Value.int .i64))[j]? = some u -> wr.drew.cell? ((⟨w.heap.size, 0, none⟩ : Addr).add j) = some u) := tw_cell HRd.out n2 m hm3
   have H3 : Hid (((List.replicate m v).map (Value.int .i64)).length = Nat.min n (12 - n)) := by show _ = _; rw [<- hm]; simp
   have H4 : Hid (n + ((List.replicate m v).map (Value.int .i64)).length <= ((tw v n).map (Value.int .i64)).length) := by show _ <= _; rw [List.length_map, List.length_map, tw_len v n n2]; simpa using hm2
   have hne : ¬ 12 = n := by omega
   have i0 : (0 : Int) <= (n : Int) := by omega
   have i1 : (n : Int) <= 12 := by omega
   have i2 : (n : Int) < 12 := by omega
   clear HR
   go_wp2_with fail
   go_region_law (refine step_copy_mv rfl (.tmp 41) (.tmp 44) 42 42 2 rfl Tryz.underlying42 size64 (some ⟨w.heap.size, n, none⟩) (some ⟨w.heap.size, 0, none⟩) (12 - n) (12 - n) n 12 ?_ ?_ w.heap.size n ((tw v n).map (Value.int .i64)) 2 HRd.out ((List.replicate m v).map (Value.int .i64)) H3.out (fun _ => ⟨rfl, _, rfl, H1.out⟩) H4.out (ints_one _) ?_; (simp [Act.eval, Act.put]); (simp [Act.eval, Act.put]); intro w3 hmv3)
   obtain ⟨hr3, hb3⟩ := mv_tw (B := w.heap.size) hmv3 HRd.out hm1 hm2 (Nat.le_refl _)
   have HR3 : Hid (w3.heap[w.heap.size]? = some (.cells ((tw v (n + m)).map (Value.int .i64)).toArray 2 (0, 0))) := hr3
   have hb13 := hb.drew.trans hb3
   have hw : IntKind.i64.wrap ((n : Int) + (m : Int)) = ((n + m : Nat) : Int) := by rw [IntKind.wrap_i64]; omega
   clear hr3 hb3 hmv3 HRd H1 H3 H4 hb
   simp [Act.put, go_sem, Exit.inBlock]
   rw [<- hm, hw]
   refine ⟨⟨_, _, _, _, _, _, _, _, _, _, _, _, _, _, ?rel, rfl⟩, ?measure⟩
   case rel => exact ⟨n + m, by omega, hm2, rfl, HR3, hb13⟩
   case measure => simp [intOf]; omega
  ·obtain rfl : n = 12 := by omega
   have HR2 := HR.out
   go_wp2_with fail
   go_ret
   exact ⟨w.heap.size, rfl, Nat.le_refl _, HR2, hb⟩
end Go.Proofs.YtalgochmjddodaaGreat

namespace Go.Proofs.YtalgochmjddodaaGreat
set_option maxRecDepth 100000
set_option maxHeartbeats 1000000
open Go.RowKit W
theorem newW_yes (n o : Nat) (w : World) (h0 : 16 <= n) (h1 : n <= 256) (h3 : o <= 1024) :
  Calls Tryz.prog 45 #[.int .i64 n, .int .i64 o] w fun e w' => ∃ pw p q pc pq s nb, e = .returned (.tuple #[.pointer (some ⟨pw, 0, none⟩), .agg #[.int .i64 0, .int .i64 0]]) /\ Wod w' pw p q pc pq n o 0 0 (List.replicate (n + o) 0) (nC o) [] (.pointer (some ⟨s, 0, none⟩)) (.slice (some ⟨nb, 0, none⟩) 12 12) /\ w'.heap[s]? = some (.cells #[.slice none 0 0, .slice none 0 0] 72 (0, 0)) /\ w'.heap[nb]? = some (.cells ((tw 2 12).map (Value.int .i64)).toArray 2 (0, 0)) /\
   (w.heap.size <= pw /\ w.heap.size <= p /\ w.heap.size <= q /\ w.heap.size <= pc /\ w.heap.size <= pq /\ w.heap.size <= s /\ w.heap.size <= nb) /\ Below w.heap.size w w' := by
 have hba := (Below.refl w.heap.size w).alloc (Nat.le_refl _) (.cells #[.int .i64 0, .int .i64 0] 28)
 have hr0 := heap_alloc_new w (.cells #[.int .i64 0, .int .i64 0] 28)
 have P := new_yes n o (w.alloc (.cells #[.int .i64 0, .int .i64 0] 28)) (by omega) (by omega) (by omega) (by omega)
 simp only [Int.toNat_natCast] at P
 go_enter Tryz.func45, Tryz.ntmps45
 go_wp2_with fail
 refine P.mono ?_
 clear P
 rintro e w1 ⟨p, q, rfl, hA1, hp, hq, hb1⟩
 have hr1 := (hb1.block w.heap.size (by simp)).trans hr0
 have hB1 := hba.trans (hb1.mono (by simp))
 simp at hp hq
 have hs1 := hb1.size
 simp at hs1
 have hA2 := hA1.alloc (.cells #[.int .i64 0, .int .i64 0] 28)
 have hba2 := (Below.refl w1.heap.size w1).alloc (Nat.le_refl _) (.cells #[.int .i64 0, .int .i64 0] 28)
 have hB2 := hB1.trans (hba2.mono (by omega))
 clear hb1 hr0 hba
 go_wp2_with fail
 refine (bounds_any _ hA2).mono ?_
 rintro e w3 ⟨rfl, hb3⟩
 have hA3 := hA2.below hb3 (Nat.le_refl _)
 have hB3 := hB2.trans (hb3.mono (by simp; omega))
 have hs3 := hb3.size
 simp at hs3
 have hr3 := ((hb3.block w.heap.size (by simp; omega)).trans (hba2.block w.heap.size (by omega))).trans hr1
 clear hA1 hA2 hb3 hba2 hr1
 go_wp2_with fail
 refine (newC_any n o w3 (by omega)).mono ?_
 rintro e w4 ⟨pc, pq, rfl, hC4, hpc, hpq, hb4⟩
 have hA4 := hA3.below hb4 (Nat.le_refl _)
 have hB4 := hB3.trans (hb4.mono (by omega))
 have hs4 := hb4.size
 have hr4 := (hb4.block w.heap.size (by omega)).trans hr3
 clear hA3 hb4 hr3
 go_wp2_with fail
 have hba5 := (Below.refl w4.heap.size w4).alloc (Nat.le_refl _) (.cells #[.slice none 0 0, .slice none 0 0] 72)
 have hsd5 := heap_alloc_new w4 (.cells #[.slice none 0 0, .slice none 0 0] 72)
 refine (nil_any _).mono ?_
 rintro e w5 ⟨rfl, hw⟩
 have sz5 : w5.heap.size = w4.heap.size + 1 := by rw [hw]; simp
 rw [<- hw] at hba5 hsd5
 clear hw
 have hA5 := hA4.below hba5 (Nat.le_refl _)
 have hC5 := hC4.below hba5 (Nat.le_refl _)
 have hB5 := hB4.trans (hba5.mono (by omega))
 have hr5 := (hba5.block w.heap.size (by omega)).trans hr4
 clear hA4 hC4 hr4 hba5
 go_wp2_with fail
 have hba6 := (Below.refl w5.heap.size w5).alloc (Nat.le_refl _) (.cells #[.int .i64 2] 2)
 refine (repeat12_any _ (w4.heap.size + 1) 2 (by rw [<- sz5]; simp)).mono ?_
 rintro e w6 ⟨nb, rfl, hnb, hrow, hb6⟩
 have hb56 := hba6.trans (hb6.mono (by simp))
 have hA6 := hA5.below hb56 (Nat.le_refl _)
 have hC6 := hC5.below hb56 (Nat.le_refl _)
 have hB6 := hB5.trans (hb56.mono (by omega))
 have hr6 := (hb56.block w.heap.size (by omega)).trans hr5
 have hsd6 := (hb56.block w4.heap.size (by omega)).trans hsd5
 have hs6 := hb56.size
 have hnb' : w.heap.size < nb := by simp at hnb; omega
 have hnl := lt_of_some hrow
 have y0 : w6.cell? ⟨w.heap.size, 0, none⟩ = some (.int .i64 0) := by simp [World.cell?, hr6]
 have y1 : w6.cell? ⟨w.heap.size, 1, none⟩ = some (.int .i64 0) := by simp [World.cell?, hr6]
 have f0 : w6.frozen? ⟨w.heap.size, 0, none⟩ = false := by simp [World.frozen?, hr6]
 have f1 : w6.frozen? ⟨w.heap.size, 1, none⟩ = false := by simp [World.frozen?, hr6]
 have l6 : w.heap.size < w6.heap.size := by omega
 clear hA5 hC5 hr5 hsd5 hb6 hb56 hba6 hnb
 go_wp2_with fail
 obtain ⟨W0, hW0⟩ : ∃ W0, W0 = (w6.setCell ⟨w.heap.size, 0, none⟩ (.int .i64 0)).setCell ⟨w.heap.size, 1, none⟩ (.int .i64 0) := ⟨_, rfl⟩
 rw [<- hW0]
 have sz0 : W0.heap.size = w6.heap.size := by rw [hW0]; simp [World.setCell]
 have k0 : ∀ k, k ≠ w.heap.size -> W0.heap[k]? = w6.heap[k]? := fun k hk => by rw [hW0]; exact (Below.heap_setCell _ _ _ _ hk).trans (Below.heap_setCell _ _ _ _ hk)
 have g0 : W0.cell? ⟨w.heap.size, 0, none⟩ = some (.int .i64 0) := by
  rw [hW0, World.cell?_setCell_other _ _ _ _ (by simp)]
  exact World.cell?_setCell_same _ _ _ y0
 have g1 : W0.cell? ⟨w.heap.size, 1, none⟩ = some (.int .i64 0) := by
  rw [hW0]
  exact World.cell?_setCell_same _ _ _ ((World.cell?_setCell_other w6 ⟨w.heap.size, 0, none⟩ ⟨w.heap.size, 1, none⟩ _ (by simp)).trans y1)
 have hF0 : Below w.heap.size w W0 := by
  rw [hW0]
  exact hB6.trans ((((Fr.refl (fun k => k = w.heap.size) w6).set w.heap.size 0 _ rfl).set w.heap.size 1 _ rfl).below (Nat.le_of_lt l6) (fun x e => by have e : x = w.heap.size := e; omega))
 have hn0 := heap_alloc_new W0 (.cells #[.pointer (some ⟨p, 0, none⟩), .pointer (some ⟨pc, 0, none⟩), .pointer (some ⟨w4.heap.size, 0, none⟩), .slice (some ⟨nb, 0, none⟩) 12 12] 44)
 rw [sz0] at hn0
 have hbN := (Below.refl W0.heap.size W0).alloc (Nat.le_refl _) (.cells #[.pointer (some ⟨p, 0, none⟩), .pointer (some ⟨pc, 0, none⟩), .pointer (some ⟨w4.heap.size, 0, none⟩), .slice (some ⟨nb, 0, none⟩) 12 12] 44)
 have hA7 := (hA6.same (w' := W0) (k0 p (by omega)) (k0 q (by omega))).below hbN (Nat.le_refl _)
 have hC7 := (hC6.same (w' := W0) (k0 pc (by omega)) (k0 pq (by omega))).below hbN (Nat.le_refl _)
 have hsd7 := ((hbN.block w4.heap.size (by omega)).trans (k0 _ (by omega))).trans hsd6
 have hrow7 := ((hbN.block nb (by omega)).trans (k0 _ (by omega))).trans hrow
 have r0 := (hbN.cell (p := ⟨w.heap.size, 0, none⟩) (by show w.heap.size < _; omega)).trans g0
 have r1 := (hbN.cell (p := ⟨w.heap.size, 1, none⟩) (by show w.heap.size < _; omega)).trans g1
 have hfin := hF0.trans (hbN.mono (by omega))
 clear y0 y1 f0 f1 hW0
 generalize W0.alloc (.cells #[.pointer (some ⟨p, 0, none⟩), .pointer (some ⟨pc, 0, none⟩), .pointer (some ⟨w4.heap.size, 0, none⟩), .slice (some ⟨nb, 0, none⟩) 12 12] 44) = WF at *
 refine bodyPost_ret (v := .tuple #[.pointer (some ⟨w6.heap.size, 0, none⟩), .agg #[.int .i64 0, .int .i64 0]]) (by simp [results, Tryz.results45, go_sem, r0, r1]) rfl ⟨w6.heap.size, p, q, pc, pq, w4.heap.size, nb, rfl, ⟨hn0, hA7, hC7⟩, hsd7, hrow7, ⟨by omega, by omega, by omega, by omega, by omega, by omega, by omega⟩, hfin⟩
end Go.Proofs.YtalgochmjddodaaGreat

namespace Go.Proofs.YtalgochmjddodaaGreat
set_option maxRecDepth 100000
set_option maxHeartbeats 1000000
open Go.RowKit W
theorem newW_no (n o : Int) (w : World) (h : n < 16 \/ 256 < n \/ o < 0 \/ 1024 < o) :
  Calls Tryz.prog 45 #[.int .i64 n, .int .i64 o] w fun e w' => e = .returned (.tuple #[.pointer none, .agg #[.int .i64 1, .int .i64 (-1)]]) /\ Below w.heap.size w w' := by
 have hba := (Below.refl w.heap.size w).alloc (Nat.le_refl _) (.cells #[.int .i64 0, .int .i64 0] 28)
 have hr0 := heap_alloc_new w (.cells #[.int .i64 0, .int .i64 0] 28)
 have P := new_no n o (w.alloc (.cells #[.int .i64 0, .int .i64 0] 28)) h
 clear h
 go_enter Tryz.func45, Tryz.ntmps45
 go_wp2_with fail
 refine P.mono ?_
 clear P
 rintro e w1 ⟨rfl, hb1⟩
 have hr1 := (hb1.block w.heap.size (by simp)).trans hr0
 have hB1 := hba.trans (hb1.mono (by simp))
 have hs1 := hb1.size
 simp at hs1
 have y0 : w1.cell? ⟨w.heap.size, 0, none⟩ = some (.int .i64 0) := by simp [World.cell?, hr1]
 have y1 : w1.cell? ⟨w.heap.size, 1, none⟩ = some (.int .i64 0) := by simp [World.cell?, hr1]
 have f0 : w1.frozen? ⟨w.heap.size, 0, none⟩ = false := by simp [World.frozen?, hr1]
 have f1 : w1.frozen? ⟨w.heap.size, 1, none⟩ = false := by simp [World.frozen?, hr1]
 have l1 : w.heap.size < w1.heap.size := by omega
 have hne : ¬ w.heap.size = w1.heap.size := by omega
 have hne2 : ¬ w1.heap.size = w.heap.size := by omega
 clear hb1 hr0 hba hr1
 go_wp2_with fail
 go_region_law (fail)
 all_goals
  obtain ⟨W0, hW0⟩ : ∃ W0, W0 = (w1.setCell ⟨w.heap.size, 0, none⟩ (.int .i64 1)).setCell ⟨w.heap.size, 1, none⟩ (.int .i64 (-1)) := ⟨_, rfl⟩
  rw [<- hW0]
  have sz0 : W0.heap.size = w1.heap.size := by rw [hW0]; simp [World.setCell]
  have g0 : W0.cell? ⟨w.heap.size, 0, none⟩ = some (.int .i64 1) := by
   rw [hW0, World.cell?_setCell_other _ _ _ _ (by simp)]
   exact World.cell?_setCell_same _ _ _ y0
  have g1 : W0.cell? ⟨w.heap.size, 1, none⟩ = some (.int .i64 (-1)) := by
   rw [hW0]
   exact World.cell?_setCell_same _ _ _ ((World.cell?_setCell_other w1 ⟨w.heap.size, 0, none⟩ ⟨w.heap.size, 1, none⟩ _ (by simp)).trans y1)
  have hF0 : Below w.heap.size w W0 := by
   rw [hW0]
   exact hB1.trans ((((Fr.refl (fun k => k = w.heap.size) w1).set w.heap.size 0 _ rfl).set w.heap.size 1 _ rfl).below (Nat.le_of_lt l1) (fun x e => by have e : x = w.heap.size := e; omega))
  have hbN := ((Below.refl W0.heap.size W0).alloc (Nat.le_refl _) (.cells #[.int .i64 1, .int .i64 (-1)] 28)).drew
  have r0 := (hbN.cell (p := ⟨w.heap.size, 0, none⟩) (by show w.heap.size < _; omega)).trans g0
  have r1 := (hbN.cell (p := ⟨w.heap.size, 1, none⟩) (by show w.heap.size < _; omega)).trans g1
  have hfin := hF0.trans (hbN.mono (by omega))
  clear y0 y1 f0 f1 hW0 hbN g0 g1
  generalize (W0.alloc (.cells #[.int .i64 1, .int .i64 (-1)] 28)).drew = WF at *
  go_wp2_with fail
  refine bodyPost_ret (v := .tuple #[.pointer none, .agg #[.int .i64 1, .int .i64 (-1)]]) (by simp [results, Tryz.results45, go_sem, r0, r1]) rfl ⟨rfl, hfin⟩
end Go.Proofs.YtalgochmjddodaaGreat

namespace Go.Proofs.YtalgochmjddodaaGreat
open Go.RowKit W Kp Stl
structure Wf (w : World) (pw p q pc pq sd nb N O y g : Nat) (ws : List Int) (c : Int) (M rs : List Int) : Prop where
  wod : Wod w pw p q pc pq N O y g ws c M (.pointer (some ⟨sd, 0, none⟩)) (.slice (some ⟨nb, 0, none⟩) 12 12)
  sid : w.heap[sd]? = some (.cells #[.slice none 0 0, .slice none 0 0] 72 (0, 0))
  rts : w.heap[nb]? = some (.cells (rs.map (Value.int .i64)).toArray 2 (0, 0))
  rl : rs.length = 12
  nq : nb ≠ q
section
variable {w w' : World} {pw p q pc pq sd nb N O y g : Nat} {ws : List Int} {c : Int} {M rs : List Int}
theorem Wf.apart (h : Wf w pw p q pc pq sd nb N O y g ws c M rs) : (sd ≠ p /\ sd ≠ q /\ sd ≠ pc /\ sd ≠ pq) /\ (nb ≠ p /\ nb ≠ q /\ nb ≠ pc /\ nb ≠ pq) /\ nb ≠ pw /\ nb ≠ sd := by
 obtain ⟨D, ⟨es, clock, hb, _⟩, _⟩ := h.wod.cd.hq
 have h1 := h.wod.blk
 have h2 := h.wod.ar.hp
 have h3 := h.wod.ar.hq
 have h4 := h.wod.cd.hp
 have h5 := h.sid
 have h6 := h.rts
 refine ⟨⟨fun e => ?_, fun e => ?_, fun e => ?_, fun e => ?_⟩, ⟨fun e => ?_, h.nq, fun e => ?_, fun e => ?_⟩, fun e => ?_, fun e => ?_⟩
 ·rw [e, h2] at h5; simp at h5
 ·rw [e, h3] at h5; simp at h5
 ·rw [e, h4] at h5; simp at h5
 ·rw [e, hb] at h5; simp at h5
 ·rw [e, h2] at h6; simp at h6
 ·rw [e, h4] at h6; simp at h6
 ·rw [e, hb] at h6; simp at h6
 ·rw [e, h1] at h6; simp at h6
 ·rw [e, h5] at h6; simp at h6
end
def W0b : List Int := fil (List.replicate 24 0) 0 (hw 1 2) 2
def W1b : List Int := stW 16 3 0 W0b (ew 3 0) 1 20
def R0b : List Int := (tw 2 12).set 0 (ew 3 0)
theorem b1 : fcC 16 3 0 W0b (ew 3 0) 1 = 0 := by decide +kernel
theorem b2 : stM 16 3 0 W0b (ew 3 0) 1 20 (nC 8) [] = [] := by decide +kernel
theorem b3 : fcC 16 3 0 W1b (ew 3 0) 1 = 0 := by decide +kernel
theorem b4 : ld 16 3 0 W1b (aV (ew 3 0) + 1 + 1) = 20 := by decide +kernel
theorem b5 : (vwL 16 3 0 W1b [] R0b).1 = [(3, 0), (0, 0), (0, 0), (0, 0), (0, 0), (0, 0), (0, 0), (0, 0), (0, 0), (0, 0), (0, 0), (0, 0)] := by decide +kernel
theorem b6 : (vwL 16 3 0 W1b [] R0b).2.2 = [(1, [(0, 0), (1, 5)])] := by decide +kernel
end Go.Proofs.YtalgochmjddodaaGreat

namespace Go.Proofs.YtalgochmjddodaaGreat
open Go.RowKit W Kp Stl
theorem wf_new {w w' : World} {pw p q pc pq s nb n o : Nat} (hW : Wod w' pw p q pc pq n o 0 0 (List.replicate (n + o) 0) (nC o) [] (.pointer (some ⟨s, 0, none⟩)) (.slice (some ⟨nb, 0, none⟩) 12 12)) (hs : w'.heap[s]? = some (.cells #[.slice none 0 0, .slice none 0 0] 72 (0, 0))) (hr : w'.heap[nb]? = some (.cells ((tw 2 12).map (Value.int .i64)).toArray 2 (0, 0))) (_ : Below w.heap.size w w') (h0 : 16 <= n) :
  Wf w' pw p q pc pq s nb n o 0 0 (List.replicate (n + o) 0) (nC o) [] (tw 2 12) := by
 refine ⟨hW, hs, hr, by decide, fun e => ?_⟩
 have := hW.ar.hq
 rw [<- e, hr] at this
 simp only [Option.some.injEq, Obj.cells.injEq, and_true] at this
 have h2 := congrArg (fun a : Array Value => a[0]?) this
 rw [show n + o = (n + o - 1) + 1 by omega] at h2
 simp [tw, List.replicate_succ] at h2
end Go.Proofs.YtalgochmjddodaaGreat

namespace Go.Proofs.YtalgochmjddodaaGreat
open Go.RowKit W Kp Stl
theorem wf_ws {w : World} {pw p q pc pq sd nb N O y g : Nat} {ws M rs : List Int} (h : Wf w pw p q pc pq sd nb N O y g ws (nC O) M rs) (hr : rs.length = 12) (hrt : w.heap[nb]? = some (.cells (rs.map (Value.int .i64)).toArray 2 (0, 0))) (hs : w.heap[sd]? = some (.cells #[.slice none 0 0, .slice none 0 0] 72 (0, 0))) :
    ∃ F, (wsO ⟨pw, p, q, pc, sd, nb, N, O⟩).J F ⟨⟨y, g, ws, M, rs⟩, [], []⟩ w /\ ∀ b, F b -> b = pw \/ b = p \/ b = q \/ b = pc \/ b = pq \/ b = sd \/ b = nb := by
  obtain ⟨a1, a2, a3, a4, a5, a6, a7, a8⟩ := h.wod.apart
  obtain ⟨⟨s1, s2, s3, s4⟩, ⟨n1, n2, n3, n4⟩, n5, n6⟩ := h.apart
  have s5 : sd ≠ pw := fun e => by
    have h1 := h.wod.blk
    rw [<- e, hs] at h1
    simp at h1
  have lq : pq < w.heap.size := h.wod.cd.ltq
  refine ⟨fun b => b = pw \/ b = p \/ b = q \/ b = pc \/ b = pq \/ b = sd \/ b = nb, ⟨fun b => b = pw \/ b = p \/ b = q \/ b = pc \/ b = pq \/ b = sd \/ b = nb, none, 0, ⟨fun b => b = pw \/ b = p \/ b = q \/ b = pc \/ b = pq \/ b = nb, none, 0, ⟨fun b => if b = p \/ b = q then 1 else if b = pc \/ b = pq then 2 else if b = pw then 3 else if b = nb then 4 else 0, pq, ?_, fun b => ?_⟩, hs, World.ownsRow_nil _ _ _ _, fun b d => ?_, Or.inr (Or.inr (Or.inr (Or.inr (Or.inr (Or.inl rfl))))), fun d => ?_, fun b e => by simp [Value.ownBlock] at e, fun b d => ?_⟩, World.ownsRow_nil _ _ _ _, fun b e => by simp [Value.ownBlock] at e, fun b => ?_⟩, fun b d => d⟩
  · exact { ar := h.wod.ar, cd := h.wod.cd, wd := h.wod.blk, rt := hrt, rl := hr
            a1 := by simp
            a2 := by simp
            c1 := by simp [Ne.symm a5, Ne.symm a7]
            c2 := by simp [Ne.symm a6, Ne.symm a8]
            w1 := by simp [a1, a2, a3, a4]
            r1 := by simp [n1, n2, n3, n4, n5]
            le := fun b => by
              split
              · decide
              · split
                · decide
                · split
                  · decide
                  · split <;> decide
            lt := fun b d => by
              have k1 := h.wod.ar.ltp
              have k2 := h.wod.ar.ltq
              have k3 := h.wod.cd.ltp
              have k4 := lt_of_some h.wod.blk
              have k5 := lt_of_some hrt
              by_cases e1 : b = p \/ b = q
              · rcases e1 with e | e <;> (rw [e]; assumption)
              · rw [if_neg e1] at d
                by_cases e2 : b = pc \/ b = pq
                · rcases e2 with e | e <;> (rw [e]; assumption)
                · rw [if_neg e2] at d
                  by_cases e3 : b = pw
                  · rw [e3]; assumption
                  · rw [if_neg e3] at d
                    by_cases e4 : b = nb
                    · rw [e4]; assumption
                    · rw [if_neg e4] at d
                      exact absurd rfl d }
  · dsimp only
    by_cases e1 : b = p \/ b = q
    · rw [if_pos e1]
      rcases e1 with e | e <;> simp [e]
    · rw [if_neg e1]
      by_cases e2 : b = pc \/ b = pq
      · rw [if_pos e2]
        rcases e2 with e | e <;> simp [e]
      · rw [if_neg e2]
        by_cases e3 : b = pw
        · rw [if_pos e3]
          simp [e3]
        · rw [if_neg e3]
          by_cases e4 : b = nb
          · rw [if_pos e4]
            simp [e4]
          · rw [if_neg e4]
            simp only [not_or] at e1 e2
            simp [e1, e2, e3, e4]
  · rcases d with d | d | d | d | d | d
    · exact Or.inl d
    · exact Or.inr (Or.inl d)
    · exact Or.inr (Or.inr (Or.inl d))
    · exact Or.inr (Or.inr (Or.inr (Or.inl d)))
    · exact Or.inr (Or.inr (Or.inr (Or.inr (Or.inl d))))
    · exact Or.inr (Or.inr (Or.inr (Or.inr (Or.inr (Or.inr d)))))
  · rcases d with d | d | d | d | d | d
    · exact s5 d
    · exact s1 d
    · exact s2 d
    · exact s3 d
    · exact s4 d
    · exact n6 d.symm
  · rcases d with d | d | d | d | d | d | d
    · rw [d]; exact lt_of_some h.wod.blk
    · rw [d]; exact h.wod.ar.ltp
    · rw [d]; exact h.wod.ar.ltq
    · rw [d]; exact h.wod.cd.ltp
    · rw [d]; exact lq
    · rw [d]; exact lt_of_some hs
    · rw [d]; exact lt_of_some hrt
  · exact ⟨Or.inl, fun d => d.elim id (fun e => by simp [Value.ownBlock] at e)⟩
def bo0 (n o : Nat) : Ww × Wrs := (⟨⟨0, 0, List.replicate (n + o) 0, [], tw 2 12⟩, [], []⟩, ⟨[], List.replicate 12 (0, 0), [], []⟩)
end Go.Proofs.YtalgochmjddodaaGreat

namespace Go.Proofs.YtalgochmjddodaaGreat
set_option maxRecDepth 100000
set_option maxHeartbeats 1000000
open Go.RowKit W Kp Stl
def usK (k : Int) : Int :=
 if k = 1 \/ k = 2 \/ k = 8 then 1 else if k = 3 \/ k = 5 \/ k = 10 \/ k = 11 \/ k = 13 then 3 else if k = 4 \/ k = 6 \/ k = 7 \/ k = 14 then 7
 else if k = 9 \/ k = 12 then 6 else if k = 15 \/ k = 16 then 0 else -1
def ckN (k n : Int) : Int := if k = 1 then vc 1 n else if k = 5 then hc 2 n else 0
def rtB (r : Int) : Bool := decide (0 <= r) && decide (r < 12)
def ckC (k R A B n : Int) : Int :=
 if usK k = -1 then 2 else if (decide (usK k = 1 \/ usK k = 3 \/ usK k = 7) && !rtB R) || (decide (usK k = 3 \/ usK k = 6 \/ usK k = 7) && !rtB A) || (decide (usK k = 6 \/ usK k = 7) && !rtB B) then 1 else ckN k n
theorem kind_all (k : Int) : k = 1 \/ k = 2 \/ k = 3 \/ k = 4 \/ k = 5 \/ k = 6 \/ k = 7 \/ k = 8 \/ k = 9 \/ k = 10 \/ k = 11 \/ k = 12 \/ k = 13 \/ k = 14 \/ k = 15 \/ k = 16 \/ (k < 1 \/ 16 < k) := by omega
theorem usK_no {k : Int} (h : k < 1 \/ 16 < k) : usK k = -1 := by
 unfold usK
 rw [if_neg (by omega), if_neg (by omega), if_neg (by omega), if_neg (by omega), if_neg (by omega)]
theorem usesH_any (k : Int) (w : World) : Calls Tryz.prog 84 #[.int .i64 k] w fun e w' => e = .returned (.int .i64 (usK k)) /\ w' = w := by
 rcases kind_all k with rfl | rfl | rfl | rfl | rfl | rfl | rfl | rfl | rfl | rfl | rfl | rfl | rfl | rfl | rfl | rfl | h
 case' inr.inr.inr.inr.inr.inr.inr.inr.inr.inr.inr.inr.inr.inr.inr.inr =>
  rw [usK_no h]
  have h1 : ¬ k = 1 := by omega
  have h2 : ¬ k = 2 := by omega
  have h3 : ¬ k = 3 := by omega
  have h4 : ¬ k = 4 := by omega
  have h5 : ¬ k = 5 := by omega
  have h6 : ¬ k = 6 := by omega
  have h7 : ¬ k = 7 := by omega
  have h8 : ¬ k = 8 := by omega
  have h9 : ¬ k = 9 := by omega
  have h10 : ¬ k = 10 := by omega
  have h11 : ¬ k = 11 := by omega
  have h12 : ¬ k = 12 := by omega
  have h13 : ¬ k = 13 := by omega
  have h14 : ¬ k = 14 := by omega
  have h15 : ¬ k = 15 := by omega
  have h16 : ¬ k = 16 := by omega
  clear h
 all_goals
  go_enter Tryz.func84, Tryz.ntmps84
  go_wp2_with fail
  go_ret
  exact ⟨rfl, rfl⟩
theorem isRoot_any (r : Int) (w : World) : Calls Tryz.prog 169 #[.int .i64 r] w fun e w' => e = .returned (.bool (rtB r)) /\ w' = w := by
 by_cases h0 : 0 <= r
 ·by_cases h1 : r < 12
  ·have e : rtB r = true := by unfold rtB; rw [decide_eq_true h0, decide_eq_true h1]; rfl
   rw [e]
   go_enter Tryz.func169, Tryz.ntmps169
   go_wp2_with fail
   go_ret
   exact ⟨rfl, rfl⟩
  ·have e : rtB r = false := by unfold rtB; rw [decide_eq_false h1, Bool.and_false]
   rw [e]
   go_enter Tryz.func169, Tryz.ntmps169
   go_wp2_with fail
   go_ret
   exact ⟨rfl, rfl⟩
 ·have e : rtB r = false := by unfold rtB; rw [decide_eq_false h0, Bool.false_and]
  rw [e]
  go_enter Tryz.func169, Tryz.ntmps169
  go_wp2_with fail
  go_ret
  exact ⟨rfl, rfl⟩
end Go.Proofs.YtalgochmjddodaaGreat

namespace Go.Proofs.YtalgochmjddodaaGreat
set_option maxRecDepth 100000
set_option maxHeartbeats 1000000
open Go.RowKit W Kp Stl
theorem numberH_any (n : Int) (w : World) : Calls Tryz.prog 172 #[.int .i64 n] w fun e w' => e = .returned (.tuple #[.int .i64 (ew 1 n), .int .i64 (vc 1 n)]) /\ Below w.heap.size w w' := by
 go_enter Tryz.func172, Tryz.ntmps172
 go_wp2_with fail
 refine (encode_any 1 n _).mono ?_
 rintro e w1 ⟨rfl, hb⟩
 go_wp2_with fail
 go_ret2
 exact ⟨rfl, hb⟩
theorem checkN_any (k R A B I n : Int) (w : World) : Calls Tryz.prog 170 #[.agg #[.int .i64 k, .int .i64 R, .int .i64 A, .int .i64 B, .int .i64 I, .int .i64 n]] w fun e w' => e = .returned (.int .i64 (ckN k n)) /\ Below w.heap.size w w' := by
 have hb0 := (Below.refl w.heap.size w).alloc (Nat.le_refl _) (.cells #[.int .i64 k, .int .i64 R, .int .i64 A, .int .i64 B, .int .i64 I, .int .i64 n] 65)
 by_cases h1 : k = 1
 ·subst h1
  have e : ckN 1 n = vc 1 n := by unfold ckN; rw [if_pos rfl]
  rw [e]
  go_enter Tryz.func170, Tryz.ntmps170
  go_wp2_with fail
  refine (numberH_any n _).mono ?_
  rintro e w1 ⟨rfl, hb⟩
  go_wp2_with fail
  go_ret
  exact ⟨rfl, hb0.trans (hb.mono hb0.size)⟩
 ·by_cases h5 : k = 5
  ·subst h5
   have e : ckN 5 n = hc 2 n := by unfold ckN; rw [if_neg (by omega), if_pos rfl]
   rw [e]
   go_enter Tryz.func170, Tryz.ntmps170
   go_wp2_with fail
   refine (head_any 2 n _).mono ?_
   rintro e w1 ⟨rfl, rfl⟩
   go_wp2_with fail
   go_ret
   exact ⟨rfl, hb0⟩
  ·have e : ckN k n = 0 := by unfold ckN; rw [if_neg h1, if_neg h5]
   rw [e]
   have h1b : (k == 1) = false := by simpa using h1
   have h5b : (k == 5) = false := by simpa using h5
   go_enter Tryz.func170, Tryz.ntmps170
   go_wp2_with fail
   go_ret
   exact ⟨rfl, hb0⟩
end Go.Proofs.YtalgochmjddodaaGreat
