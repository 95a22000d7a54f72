/- Joined: Vw7, Gr2. -/
import Derived.Test.YtnalfnlmaallmaaGreatJ12
import Derived.Test.YtnalfnlmaallmaaGreatJ11
import Derived.Test.YtnalfnlmaallmaaGreatJ07
namespace Go.Proofs.YtnalfnlmaallmaaGreat
set_option maxRecDepth 100000
set_option maxHeartbeats 2000000
open Go.RowKit W Kp Stl
theorem infoNode : (Tryz.prog.info? 134).map (fun i => (i.zero, i.size, i.bytes)) = some (some (.agg #[.int .i64 0, .slice none 0 0]), 2, 32) := by kernel_rfl
section
variable {w0 w w' w'' : World} {kb mq pw n : Nat} {T : List Int} {s : Vst} {vn : Value} {m : List Vnd}
theorem Wk.turned (h : Wk w0 w kb mq pw T s vn m) (f : Fr (fun k => k = mq) w w') : Kf w0.heap.size w w' /\ w'.heap[kb]? = some (.cells #[.pointer (some ⟨pw, 0, none⟩), .map (some mq), vn] 148 (0, 0)) /\ w'.ownsRow w0.heap.size 134 2 vn m.length (nv m) /\ (∀ x ∈ m, Lv w' x.2.1 x.2.2.2) /\ Below w0.heap.size w0 w' := by
 obtain ⟨D, o1, _⟩ := h.mp
 obtain ⟨es, clock, hb, _⟩ := o1
 have hk : Kf w0.heap.size w w' := ⟨f.os, f.tape, f.output, f.size, fun k hk hl => f.block k hk (fun e => by have e : k = mq := e; have := h.lo.2; omega), fun k cs e mm hk _ _ => f.block k (lt_of_some hk) (fun c => by
  have c : k = mq := c
  rw [c, hb] at hk
  simp at hk)⟩
 refine ⟨hk, (f.block kb (lt_of_some h.blk) (fun c => ?_)).trans h.blk, row_keep h.row (fun k e => f.block k (row_lt h.row k e).2 (fun c => ?_)), fun x hx => (h.fl x hx).kf hk, h.bel.trans (hk.below h.bel.size)⟩
 ·have c : kb = mq := c
  have := h.blk
  rw [c, hb] at this
  simp at this
 ·have c : k = mq := c
  obtain ⟨cur, hcur⟩ := row_type h.row k e
  rw [c, hb] at hcur
  simp at hcur
end
theorem Wk.grown {w0 w w3 w4 : World} {kb mq pw : Nat} {T : List Int} {ms : List Int} {ns : List (Int × List (Int × Int))} {vn v4 : Value} {m : List Vnd} {kd : Int}
  (hk : w.heap[kb]? = some (.cells #[.pointer (some ⟨pw, 0, none⟩), .map (some mq), vn] 148 (0, 0))) (lo : w0.heap.size <= kb /\ w0.heap.size <= mq) (hm : Nm w mq T ms) (hr : w.ownsRow w0.heap.size 134 2 vn m.length (nv m)) (hnd : nds m = ns) (hf : ∀ x ∈ m, Lv w x.2.1 x.2.2.2) (hb : Below w0.heap.size w0 w)
  (h3 : Below w.heap.size w w3) (h4 : w4.ownsRow w0.heap.size 134 2 v4 (m.length + 1) (nv m ++ [.int .i64 kd, .slice none 0 0])) (g4 : w3.grownBy w4 vn.ownBlock) :
  Wk w0 (w4.setCell ⟨kb, 2, none⟩ v4) kb mq pw T (ms, ns ++ [(kd, [])]) v4 (m ++ [(kd, none, 0, [])]) /\ Kv w0 w m (w4.setCell ⟨kb, 2, none⟩ v4) (m ++ [(kd, none, 0, [])]) /\ w4.heap[kb]? = some (.cells #[.pointer (some ⟨pw, 0, none⟩), .map (some mq), vn] 148 (0, 0)) := by
 have hmN := hm
 obtain ⟨D, o1, _⟩ := hm
 obtain ⟨es, clock, hmb, _⟩ := o1
 have kf4 : Kf w0.heap.size w w4 := (Kf.of h3).trans (Kf.grown g4 (fun k e => ⟨(row_lt hr k e.symm).1, fun cs ty mm hc => by
  obtain ⟨cur, hcur⟩ := row_type hr k e.symm
  have := (h3.block k (lt_of_some hcur)).trans hcur
  rw [this] at hc
  simp at hc
  exact Or.inr hc.2.1.symm⟩))
 have hk4 : w4.heap[kb]? = some (.cells #[.pointer (some ⟨pw, 0, none⟩), .map (some mq), vn] 148 (0, 0)) := (g4.block kb (Nat.lt_of_lt_of_le (lt_of_some hk) h3.size) (fun e => by
  obtain ⟨cur, hcur⟩ := row_type hr kb e
  rw [hk] at hcur
  simp at hcur)).trans ((h3.block kb (lt_of_some hk)).trans hk)
 have kf5 : Kf w0.heap.size w (w4.setCell ⟨kb, 2, none⟩ v4) := kf4.trans (Kf.set hk4 (Or.inl rfl) lo.1)
 have nmk : mq ≠ kb := fun e => by rw [e, hk] at hmb; simp at hmb
 have e5 : (nv (m ++ [(kd, none, 0, [])] : List Vnd)) = nv m ++ [.int .i64 kd, .slice none 0 0] := by rw [nv_append]; rfl
 refine ⟨⟨?_, lo, ?_, ?_, ?_, fun x hx => ?_, hb.trans (kf5.below hb.size)⟩, ⟨kf5, fun k hk => ?_⟩, hk4⟩
 ·simp only [World.setCell, Array.getElem?_modify, if_true, hk4, Option.map_some]
  rfl
 ·refine hmN.same ((Below.heap_setCell _ _ _ _ nmk).trans ((g4.block mq (Nat.lt_of_lt_of_le (lt_of_some hmb) h3.size) (fun e => ?_)).trans (h3.block mq (lt_of_some hmb))))
  obtain ⟨cur, hcur⟩ := row_type hr mq e
  rw [hmb] at hcur
  simp at hcur
 ·rw [e5, List.length_append]
  refine row_keep h4 (fun k e => Below.heap_setCell _ _ _ _ (fun c => ?_))
  have c : k = kb := c
  obtain ⟨cur, hcur⟩ := row_type h4 k e
  rw [c, hk4] at hcur
  simp at hcur
 ·simp [nds] at hnd ⊢
  exact hnd
 ·rcases List.mem_append.1 hx with hx | hx
  ·exact (hf x hx).kf kf5
  ·simp at hx
   subst hx
   exact Lv.nil
 ·obtain ⟨x, hx, hl, o, e⟩ := hk
  rcases List.mem_append.1 hx with hx | hx
  ·exact Or.inl ⟨x, hx, hl, o, e⟩
  ·simp at hx
   subst hx
   simp at hl
theorem row_cell {w : World} {base size n g cap : Nat} {e : TypeId} {xs : List Value} (h : w.ownsRow base e size (.slice (some ⟨g, 0, none⟩) n cap) n xs) {i : Nat} {u : Value} (hi : xs[i]? = some u) : w.cell? ⟨g, i, none⟩ = some u /\ w.frozen? ⟨g, i, none⟩ = false := by
 rcases h.2 with ⟨hv, _⟩ | ⟨g', cap', cur, hv, hb, hg, h1, h2, h3, h4⟩
 ·simp at hv
 ·simp at hv
  obtain ⟨rfl, rfl⟩ := hv
  rw [<- h4] at hi
  have hlt : i < n * size := by
   rcases Nat.lt_or_ge i (n * size) with c | c
   ·exact c
   ·rw [List.getElem?_take, if_neg (by omega)] at hi
    simp at hi
  rw [List.getElem?_take_of_lt hlt] at hi
  constructor
  ·simp [World.cell?, hg]
   simpa using hi
  ·simp [World.frozen?, hg]
theorem Wk.filled {w0 w : World} {kb mq pw g cap len : Nat} {T : List Int} {s : Vst} {m : List Vnd} (h : Wk w0 w kb mq pw T s (.slice (some ⟨g, 0, none⟩) len cap) m) {i : Nat} {k0 : Int} {v0 : List (Int × Int)} (hi : s.2[i]? = some (k0, v0)) {base c2 : Nat} {a2 : Option Addr} {vs : List (Int × Int)}
  (hr : w.ownsRow base 100 2 (.slice a2 vs.length c2) vs.length (ev vs)) :
  Wk w0 (w.setCell ⟨g, i * 2 + 1, none⟩ (.slice a2 vs.length c2)) kb mq pw T (s.1, s.2.set i (k0, vs)) (.slice (some ⟨g, 0, none⟩) len cap) (m.set i (k0, a2, c2, vs)) /\ Kf w0.heap.size w (w.setCell ⟨g, i * 2 + 1, none⟩ (.slice a2 vs.length c2)) /\ (∀ k, Fb (m.set i (k0, a2, c2, vs)) k -> Fb m k \/ base <= k) := by
 obtain ⟨cur, hcur⟩ := row_type h.row g rfl
 have hg := (row_lt h.row g rfl).1
 have hkf : Kf w0.heap.size w (w.setCell ⟨g, i * 2 + 1, none⟩ (.slice a2 vs.length c2)) := Kf.set hcur (Or.inr rfl) hg
 obtain ⟨x, hx, hxe⟩ : ∃ x : Vnd, m[i]? = some x /\ (x.1, x.2.2.2) = (k0, v0) := by
  have := hi
  rw [<- h.nd, nds, List.getElem?_map] at this
  obtain ⟨x, hx, e⟩ := Option.map_eq_some_iff.1 this
  exact ⟨x, hx, e⟩
 have e1 : x.1 = k0 := congrArg Prod.fst hxe
 have hlen : len = m.length := by
  rcases h.row.2 with ⟨hv, _⟩ | ⟨g', cap', cur', hv, _⟩
  ·simp at hv
  ·simp at hv
   exact hv.2.1
 refine ⟨⟨(Below.heap_setCell _ _ _ _ (fun c => ?_)).trans h.blk, h.lo, h.mp.same (Below.heap_setCell _ _ _ _ (fun c => ?_)), ?_, ?_, fun y hy => ?_, h.bel.trans (hkf.below h.bel.size)⟩, hkf, fun k hk => ?_⟩
 ·have c : kb = g := c
  have := h.blk
  rw [c, hcur] at this
  simp at this
 ·have c : mq = g := c
  obtain ⟨D, ⟨es, clock, hb, _⟩, _⟩ := h.mp
  rw [c, hcur] at hb
  simp at hb
 ·rw [List.length_set, <- e1, nv_set m i x a2 c2 vs hx]
  have := h.row
  rw [<- hlen] at this ⊢
  exact row_put this _ _
 ·rw [nds, List.map_set]
  show ((nds m).set i (k0, vs)) = _
  rw [h.nd]
 ·rcases List.mem_or_eq_of_mem_set hy with hy | hy
  ·exact (h.fl y hy).kf hkf
  ·subst hy
   exact (Lv.of hr).kf hkf
 ·obtain ⟨y, hy, hl, o, e⟩ := hk
  rcases List.mem_or_eq_of_mem_set hy with hy | hy
  ·exact Or.inl ⟨y, hy, hl, o, e⟩
  ·subst hy
   have e : a2 = some ⟨k, o, none⟩ := e
   exact Or.inr (row_lt hr k (by rw [e]; rfl)).1
section
variable {w0 : World} {kb mq pw p q N O y g : Nat} {ws : List Int} {sd : Nat} {v0 : Value} {a1 : Option Addr} {k1 : Nat} {Q : List En} {T : List Int}
theorem meet_next (hq : Wq w0 pw p q N O y g ws sd v0 a1 k1 Q) (hT : ∀ a ∈ T, 0 <= a /\ a < 2000) (hTl : T.length <= 100000) (n : Nat) (M : Vst -> Int -> Vst) (hM : Meets w0 kb mq pw T M n) (hV : Vmet T (fun a => pk (ld N y g ws a)) (shL N y g ws Q) n M) :
    Meets w0 kb mq pw T (fun s a => ((vls M T (s.1 ++ [a], s.2 ++ [(pk (ld N y g ws a), [])]) (shL N y g ws Q a)).2.1, (vls M T (s.1 ++ [a], s.2 ++ [(pk (ld N y g ws a), [])]) (shL N y g ws Q a)).2.2.set s.1.length (pk (ld N y g ws a), (vls M T (s.1 ++ [a], s.2 ++ [(pk (ld N y g ws a), [])]) (shL N y g ws Q a)).1))) (n + 1) := by
  intro w s vn m a h ho ha hn hl
  obtain ⟨i0, hi, hz0, hz1, hz2⟩ := info_parts infoNode
  have hlt := ho.lt ha hn
  have hbd := hT a ha
  have hml : m.length = s.1.length := by rw [h.len, ho.len]
  have ho2 := ho.more ha hn (pk (ld N y g ws a), [])
  have hlen := vls_len M T (s.1 ++ [a], s.2 ++ [(pk (ld N y g ws a), [])]) (shL N y g ws Q a)
  have G := vls_go hV ho2 (by simp; omega) (shL N y g ws Q a)
  have hsl := shL_len N y g ws Q a
  have hQ := hq.hm
  have hGo : (vls M T (s.1 ++ [a], s.2 ++ [(pk (ld N y g ws a), [])]) (shL N y g ws Q a)).2.2[s.1.length]? = some (pk (ld N y g ws a), []) := by
    rw [G.old s.1.length (by simp), List.getElem?_append_right (by rw [ho.len]; exact Nat.le_refl _), ho.len]
    simp
  have hGl : s.1.length < (vls M T (s.1 ++ [a], s.2 ++ [(pk (ld N y g ws a), [])]) (shL N y g ws Q a)).2.1.length := by
    have := G.le
    simp at this
    omega
  have hGk : (vls M T (s.1 ++ [a], s.2 ++ [(pk (ld N y g ws a), [])]) (shL N y g ws Q a)).2.2.length = (vls M T (s.1 ++ [a], s.2 ++ [(pk (ld N y g ws a), [])]) (shL N y g ws Q a)).2.1.length := G.ok.len
  have KV : Hid (∀ (w5 : World) (vn5 : Value) (m5 : List Vnd) (ad : Option Addr) (cap : Nat), Wk w0 w5 kb mq pw T (s.1 ++ [a], s.2 ++ [(pk (ld N y g ws a), [])]) vn5 m5 -> Lq w5 ad (shL N y g ws Q a) ->
      Calls Tryz.prog 86 #[.pointer (some ⟨kb, 0, none⟩), .slice ad (shL N y g ws Q a).length cap] w5 fun e w' => ∃ vn' m' a2 c2, e = .returned (.slice a2 (shL N y g ws Q a).length c2) /\ w'.ownsRow w5.heap.size 100 2 (.slice a2 (shL N y g ws Q a).length c2) (shL N y g ws Q a).length (ev (vls M T (s.1 ++ [a], s.2 ++ [(pk (ld N y g ws a), [])]) (shL N y g ws Q a)).1) /\ Wk w0 w' kb mq pw T (vls M T (s.1 ++ [a], s.2 ++ [(pk (ld N y g ws a), [])]) (shL N y g ws Q a)).2 vn' m' /\ Kv w0 w5 m5 w' m' /\ (∀ k, Fb m' k -> some k ≠ (Value.slice a2 (shL N y g ws Q a).length c2).ownBlock)) :=
    fun w5 vn5 m5 ad cap h5 hl5 => values_any hM hV h5 ho2 (by simp; omega) _ ad cap hl5 (by omega)
  have KT : Hid (∀ w1, Below w0.heap.size w0 w1 -> Calls Tryz.prog 120 #[.pointer (some ⟨p, 0, none⟩), .int .i64 a] w1 fun e w' => e = .returned (.tuple #[.int .i64 (pk (ld N y g ws a)), .int .i64 (pf (ld N y g ws a)), .int .i64 (pc (ld N y g ws a))]) /\ Below w1.heap.size w1 w') := fun w1 hb => thing_any a w1 (hq.low hb).ar
  have KS : Hid (∀ w1, Below w0.heap.size w0 w1 -> w1.cell? ⟨kb, 0, none⟩ = some (.pointer (some ⟨pw, 0, none⟩)) -> Calls Tryz.prog 254 #[.pointer (some ⟨kb, 0, none⟩), .int .i64 a, .int .i64 (pk (ld N y g ws a)), .int .i64 (pf (ld N y g ws a))] w1 fun e w' => ∃ ad cap, e = .returned (.slice ad (shL N y g ws Q a).length cap) /\ w'.ownsRow w1.heap.size 2 1 (.slice ad (shL N y g ws Q a).length cap) (shL N y g ws Q a).length ((shL N y g ws Q a).map (Value.int .i64)) /\ Below w1.heap.size w1 w') :=
    fun w1 hb hc => shown_any (hq.low hb) kb hc a hbd.1 (by omega)
  have lpw := World.block_lt_of_cell? w0 _ hq.c0
  have cpw : Hid (∀ w1, Below w0.heap.size w0 w1 -> w1.cell? ⟨pw, 0, none⟩ = some (.pointer (some ⟨p, 0, none⟩))) := fun w1 hb => (hq.low hb).c0
  have hky := keyI (a := a) (by omega) (by omega)
  have hvl := elI (s.1.length : Int) (WalkArith.wf_i64 ⟨by omega, by omega⟩)
  clear hM hV G ho2 hsl hQ hq hT
  dsimp only
  generalize hvv : vls M T (s.1 ++ [a], s.2 ++ [(pk (ld N y g ws a), [])]) (shL N y g ws Q a) = R at *
  clear hvv
  generalize shL N y g ws Q a = SL at *
  obtain ⟨vs, s7⟩ := R
  dsimp only at *
  generalize pk (ld N y g ws a) = kd at *
  generalize pf (ld N y g ws a) = f at *
  generalize pc (ld N y g ws a) = cc at *
  have H : Hid (Wk w0 w kb mq pw T s vn m) := h
  obtain ⟨nA, nC, hvn⟩ := row_slice h.row
  subst hvn
  obtain ⟨c0, c1, c2, lk⟩ := h.cells
  obtain ⟨D, o1, o2, o3⟩ := h.mp
  have hlo := h.lo
  have HN : Hid (∀ (w1 : World) (k : Nat), w1.ownsMap Tryz.prog 3 (plainElem Tryz.prog 3) mq k (D.put (.int .i64 a) (.lit (.int .i64 (s.1.length : Int)))) -> Nm w1 mq T (s.1 ++ [a])) := fun w1 k h4 => Nm.put o1 o2 o3 ha hn h4
  have HD : Hid (nds m = s.2) := h.nd
  clear h o2 o3 ho ha hn
  generalize s.1.length = L at *
  subst hml
  go_enter Tryz.func243, Tryz.ntmps243
  go_wp2_with (at_mapUpdate; refine wpList_mapUpdate_own _ rfl _ _ _ 109 rfl 3 3 lawI Tryz.underlying109 (plainElem (H := Unit) Tryz.prog 3) mq T.length D rfl o1 (by unfold maxLen; omega) _ _ _ rfl rfl hky _ [] hvl ?_; intro w1 hown1 hgrow1; (have hfr1 : Fr (fun k => k = mq) w w1 := (Fr.refl _ _).grown hgrow1 (fun k e => Or.inl (by cases e; rfl))); (have TR : Hid (_ /\ _ /\ _ /\ _ /\ _) := H.out.turned hfr1); (have N1 : Hid (Nm w1 mq T (s.1 ++ [a])) := HN.out w1 _ hown1); (have y0 : w1.cell? ⟨kb, 0, none⟩ = some (.pointer (some ⟨pw, 0, none⟩)) := by simp [World.cell?, TR.out.2.1]); (have y1 := cpw.out w1 TR.out.2.2.2.2); clear hown1 hgrow1 hfr1 c0 c1 c2 o1 HN)
  refine (KT.out w1 TR.out.2.2.2.2).mono ?_
  clear KT
  rintro e w2 ⟨rfl, hb2⟩
  have hk2 := (hb2.block kb (lt_of_some TR.out.2.1)).trans TR.out.2.1
  have z2 : w2.cell? ⟨kb, 2, none⟩ = some (.slice nA m.length nC) := by simp [World.cell?, hk2]
  have HK2 : Hid (_ = _) := hk2
  have N2 : Hid (Nm w2 mq T (s.1 ++ [a])) := N1.out.same (by obtain ⟨D', o', _⟩ := N1.out; exact hb2.block mq o'.lt)
  have R2 := row_keep TR.out.2.2.1 (fun k hk => hb2.block k (row_lt TR.out.2.2.1 k hk).2)
  have HR2 : Hid (_) := R2
  have F2 : Hid (∀ x ∈ m, Lv w2 x.2.1 x.2.2.2) := fun x hx => (TR.out.2.2.2.1 x hx).kf (Kf.of (B := 0) hb2)
  have B2 : Hid (Below w0.heap.size w0 w2) := TR.out.2.2.2.2.trans (hb2.mono TR.out.2.2.2.2.size)
  have K2 : Hid (Kv w0 w m w2 m) := (show Kv w0 w m w1 m from ⟨TR.out.1, fun k h => Or.inl h⟩).trans (Kv.of hb2)
  have hs2 := B2.out.size
  clear TR N1 hk2 y0 y1 hb2 lk
  go_wp2_with (at_builtin; refine wpList_append_own_at _ rfl _ _ 63 rfl w0.heap.size 134 i0 (.agg #[.int .i64 0, .slice none 0 0]) 2 32 Tryz.underlying63 hi hz0 hz1 hz2 rfl (by decide) (.slice nA m.length nC) m.length (nv m) rfl (row_alloc R2 _) ⟨w2.heap.size, 0, none⟩ 1 1 [.int .i64 kd, .slice none 0 0] rfl rfl ?_ ?_ ?_ ?_ ?_ ?_; (intro j u hj; match j, hj with | 0, hj => (simp at hj; subst hj; simp [Addr.add]) | 1, hj => (simp at hj; subst hj; simp [Addr.add])); (intro u hu; simp at hu; rcases hu with hu | hu <;> (subst hu; rfl)); (unfold maxLen; omega); omega; (simp; omega); intro v' w4 hown4 hgrow4 _ hloc4; obtain ⟨b4, cap4, ev4⟩ := row_shape hown4 (Nat.succ_pos _); subst ev4; (have WG : Hid (_ /\ _ /\ _) := Wk.grown HK2.out hlo N2.out HR2.out HD.out F2.out B2.out ((Below.refl w2.heap.size w2).alloc (Nat.le_refl _) _) hown4 hgrow4); (have u0 : w4.cell? ⟨kb, 2, none⟩ = some (.slice nA m.length nC) := by simp [World.cell?, WG.out.2.2]); (have u1 : w4.frozen? ⟨kb, 2, none⟩ = false := by simp [World.frozen?, WG.out.2.2]); clear hown4 hgrow4 hloc4 z2 R2 HK2 N2 HR2 HD F2 B2)
  obtain ⟨WG1, WG2, _⟩ := WG.out
  have KK5 : Hid (Kv w0 w m (w4.setCell ⟨kb, 2, none⟩ (.slice (some ⟨b4, 0, none⟩) (m.length + 1) cap4)) (m ++ [(kd, none, 0, [])])) := K2.out.trans WG2
  have W5 : Hid (Wk w0 (w4.setCell ⟨kb, 2, none⟩ (.slice (some ⟨b4, 0, none⟩) (m.length + 1) cap4)) kb mq pw T (s.1 ++ [a], s.2 ++ [(kd, [])]) (.slice (some ⟨b4, 0, none⟩) (m.length + 1) cap4) (m ++ [(kd, none, 0, [])])) := WG1
  clear WG WG1 WG2 u0 u1 K2
  generalize w4.setCell ⟨kb, 2, none⟩ (.slice (some ⟨b4, 0, none⟩) (m.length + 1) cap4) = w5 at KK5 W5 ⊢
  refine (KS.out w5 W5.out.bel W5.out.cells.1).mono ?_
  clear KS
  rintro e w6 ⟨ad, cap, rfl, hr6, hb6⟩
  go_wp2_with fail
  refine (KV.out w6 _ _ ad cap (W5.out.below hb6) (Lq.of hr6)).mono ?_
  clear KV
  rintro e w7 ⟨vn7, m7, a2, c7, rfl, hr7, hW7, hK7, hF7⟩
  have hm7 : m7.length = s7.1.length := hW7.len.trans hGk
  obtain ⟨g7, cap7, e7⟩ := row_shape hW7.row (by omega)
  subst e7
  have z2 := hW7.cells.2.2.1
  have hlt7 : m.length < m7.length := by omega
  obtain ⟨zc, zf⟩ := row_cell hW7.row ((nv_get m7 m.length _ (List.getElem?_eq_getElem hlt7)).2)
  rw [<- hlen] at hr7
  have FI : Hid (_ /\ _ /\ _) := hW7.filled hGo hr7
  have K7 : Hid (Kv w0 w m w7 m7) := (KK5.out.trans (Kv.of hb6)).trans hK7
  have hs7 := ((KK5.out.trans (Kv.of hb6)).1).size
  generalize (m7[m.length]).2.1 = q1 at zc
  generalize (m7[m.length]).2.2.2.length = q2 at zc
  generalize (m7[m.length]).2.2.1 = q3 at zc
  rw [hlen] at FI
  clear hr6 hb6 hr7 hW7 hK7 hF7 KK5 W5 hGo hlen hvl hky
  go_wp2_with fail
  go_ret
  exact ⟨_, _, rfl, FI.out.1, K7.out.1.trans FI.out.2.1, fun k hk => (FI.out.2.2 k hk).elim (K7.out.2 k) (fun c => Or.inr (Nat.le_trans hs7 c))⟩
theorem meet_any (hq : Wq w0 pw p q N O y g ws sd v0 a1 k1 Q) (hT : ∀ a ∈ T, 0 <= a /\ a < 2000) (hTl : T.length <= 100000) : ∀ n, Meets w0 kb mq pw T (met T (fun a => pk (ld N y g ws a)) (shL N y g ws Q) n) n
 | 0 => fun w s vn m a _ ho ha hn hl => by
  have := ho.lt ha hn
  omega
 | n + 1 => meet_next hq hT hTl n _ (meet_any hq hT hTl n) (met_go n)
end
end Go.Proofs.YtnalfnlmaallmaaGreat

namespace Go.Proofs.YtnalfnlmaallmaaGreat
set_option maxRecDepth 100000
set_option maxHeartbeats 1000000
open Go.RowKit W Kp Stl
def Lb (w : World) (ad : Option Addr) (L : List Bool) : Prop := 0 < L.length -> ∃ b, ad = some ⟨b, 0, none⟩ /\ b < w.heap.size /\ ∀ i, i < L.length -> w.cell? ⟨b, i, none⟩ = some (.bool (L.getD i false))
theorem Lb.below {w w' : World} {ad : Option Addr} {L : List Bool} (h : Lb w ad L) (hb : Below w.heap.size w w') : Lb w' ad L := fun hp => by
 obtain ⟨b, e, h1, h2⟩ := h hp
 exact ⟨b, e, Nat.lt_of_lt_of_le h1 hb.size, fun i hi => (hb.cell (p := ⟨b, i, none⟩) h1).trans (h2 i hi)⟩
theorem row_bools {w : World} {base : Nat} {e : TypeId} {ad : Option Addr} {cap : Nat} {L : List Bool} (h : w.ownsRow base e 1 (.slice ad L.length cap) L.length (L.map Value.bool)) : Lb w ad L := fun hp => by
 obtain ⟨b, c, e1⟩ := row_shape h hp
 cases e1
 refine ⟨b, rfl, (row_lt h b rfl).2, fun i hi => ?_⟩
 have h1 : (L.map Value.bool)[i]? = some (.bool (L.getD i false)) := by
  rw [List.getElem?_map, List.getElem?_eq_getElem hi, List.getD_eq_getElem?_getD, List.getElem?_eq_getElem hi]
  rfl
 exact (row_cell h h1).1
theorem inSet_any (w : World) (ad : Option Addr) (c : Nat) (L : List Bool) (v : Int × Int) (h : Lb w ad L) (hv : v.1 = 3 -> 0 <= v.2 /\ v.2 < L.length) (hm : L.length <= 100000) :
  Calls Tryz.prog 73 #[.slice ad L.length c, .agg #[.int .i64 v.1, .int .i64 v.2]] w fun e w' => e = .returned (.bool (inS L v)) /\ Below w.heap.size w w' := by
 obtain ⟨k, n⟩ := v
 dsimp only at hv ⊢
 have hb0 := (Below.refl w.heap.size w).alloc (Nat.le_refl _) (.cells #[.int .i64 k, .int .i64 n] 100)
 by_cases hk : k = 3
 ·subst hk
  obtain ⟨n0, n1⟩ := hv rfl
  obtain ⟨n, rfl⟩ := Int.eq_ofNat_of_zero_le n0
  obtain ⟨b, rfl, hb, hc⟩ := h (by omega)
  have e : inS L (3, (n : Int)) = L.getD n false := by
   unfold inS
   simp
  rw [e]
  have x1 := (hb0.cell (p := ⟨b, n, none⟩) hb).trans (hc n (by omega))
  have n2 : (0 : Int) <= (n : Int) := by omega
  clear hc hv e n0
  generalize L.getD n false = r at *
  go_enter Tryz.func73, Tryz.ntmps73
  go_wp2_with fail
  go_ret
  exact ⟨rfl, hb0⟩
 ·have e : inS L (k, n) = true := by
   unfold inS
   simp [hk]
  rw [e]
  have kb : (k != 3) = true := by simpa using hk
  have kb2 : (k == 3) = false := by simpa using hk
  clear hv e h
  go_enter Tryz.func73, Tryz.ntmps73
  go_wp2_with fail
  go_ret
  exact ⟨rfl, hb0⟩
structure Bx (w : World) (ob : Nat) (ad : Option Addr) (c base : Nat) (L : List Bool) : Prop where
  blk : w.heap[ob]? = some (.cells #[.slice ad L.length c] 86 (0, 0))
  row : w.ownsRow base 4 1 (.slice ad L.length c) L.length (L.map Value.bool)
theorem Bx.keep {w w' : World} {ob : Nat} {ad : Option Addr} {c base : Nat} {L : List Bool} (h : Bx w ob ad c base L) (h1 : w'.heap[ob]? = w.heap[ob]?) (h2 : ∀ k, some k = (Value.slice ad L.length c).ownBlock -> w'.heap[k]? = w.heap[k]?) : Bx w' ob ad c base L := ⟨h1.trans h.blk, row_keep h.row h2⟩
theorem Bx.below {w w' : World} {ob : Nat} {ad : Option Addr} {c base : Nat} {L : List Bool} (h : Bx w ob ad c base L) (hb : Below w.heap.size w w') : Bx w' ob ad c base L := h.keep (hb.block ob (lt_of_some h.blk)) (fun k e => hb.block k (row_lt h.row k e).2)
theorem Bx.ne {w : World} {ob : Nat} {ad : Option Addr} {c base : Nat} {L : List Bool} (h : Bx w ob ad c base L) : ∀ k, some k = (Value.slice ad L.length c).ownBlock -> k ≠ ob := fun k e e' => by
 obtain ⟨cur, hc⟩ := row_type h.row k e
 rw [e', h.blk] at hc
 simp at hc
theorem add_any (w : World) (ob : Nat) (ad : Option Addr) (c base : Nat) (L : List Bool) (v : Int × Int) (h : Bx w ob ad c base L) (hv : v.1 = 3 -> 0 <= v.2 /\ v.2 < L.length) (hm : L.length <= 100000) :
  Calls Tryz.prog 145 #[.agg #[.int .i64 v.1, .int .i64 v.2], .pointer (some ⟨ob, 0, none⟩)] w fun e w' => e = .returned (.bool (!inS L v)) /\ Bx w' ob ad c base (adS L v) /\ Fr (fun k => some k = (Value.slice ad L.length c).ownBlock) w w' := by
 have hb0 := (Below.refl w.heap.size w).alloc (Nat.le_refl _) (.cells #[.int .i64 v.1, .int .i64 v.2] 100)
 have hx0 := heap_alloc_new w (.cells #[.int .i64 v.1, .int .i64 v.2] 100)
 have B0 := h.below hb0
 have PI := inSet_any (w.alloc (.cells #[.int .i64 v.1, .int .i64 v.2] 100)) ad c L v (row_bools B0.row) hv hm
 have c0 : (w.alloc (.cells #[.int .i64 v.1, .int .i64 v.2] 100)).cell? ⟨ob, 0, none⟩ = some (.slice ad L.length c) := by simp [World.cell?, B0.blk]
 have lo := lt_of_some h.blk
 have HB : Hid (Below w.heap.size w (w.alloc (.cells #[.int .i64 v.1, .int .i64 v.2] 100)) /\ Bx (w.alloc (.cells #[.int .i64 v.1, .int .i64 v.2] 100)) ob ad c base L /\ (w.alloc (.cells #[.int .i64 v.1, .int .i64 v.2] 100)).heap[w.heap.size]? = some (.cells #[.int .i64 v.1, .int .i64 v.2] 100 (0, 0))) := ⟨hb0, B0, hx0⟩
 clear hb0 B0 hx0
 cases hs : inS L v
 ·obtain ⟨k3, g2⟩ := inS_no hs
  obtain ⟨n0, n1⟩ := hv k3
  have eA : adS L v = L.set v.2.toNat true := by unfold adS; rw [if_neg (by rw [hs]; simp)]
  rw [hs] at PI
  rw [eA]
  obtain ⟨k, n⟩ := v
  dsimp only at *
  subst k3
  obtain ⟨n, rfl⟩ := Int.eq_ofNat_of_zero_le n0
  rw [Int.toNat_natCast]
  obtain ⟨b, cap, e1⟩ := row_shape h.row (by omega)
  cases e1
  have n2 : (0 : Int) <= (n : Int) := by omega
  clear h hv hs eA g2 n0
  go_enter Tryz.func145, Tryz.ntmps145
  go_wp2_with fail
  generalize w.alloc (.cells #[.int .i64 3, .int .i64 (n : Int)] 100) = w0 at *
  generalize hxb : w.heap.size = xb at *
  refine PI.mono ?_
  clear PI
  rintro e w1 ⟨rfl, hb1⟩
  have B1 := HB.out.2.1.below hb1
  have hx1 := (hb1.block xb (lt_of_some HB.out.2.2)).trans HB.out.2.2
  have q1 : w1.cell? ⟨xb, 1, none⟩ = some (.int .i64 (n : Int)) := by simp [World.cell?, hx1]
  have c1 : w1.cell? ⟨ob, 0, none⟩ = some (.slice (some ⟨b, 0, none⟩) L.length c) := by simp [World.cell?, B1.blk]
  have hg : (L.map Value.bool)[n]? = some (.bool (L.getD n false)) := by
   rw [List.getElem?_map, List.getElem?_eq_getElem (by omega : n < L.length), List.getD_eq_getElem?_getD, List.getElem?_eq_getElem (by omega : n < L.length)]
   rfl
  obtain ⟨y1, y2⟩ := row_cell B1.row hg
  have R2 := row_put B1.row n (.bool true)
  have ne := B1.ne b rfl
  have hbt : Below xb w w1 := HB.out.1.trans (hb1.mono (by have := lt_of_some HB.out.2.2; omega))
  have HF : Hid (Bx (w1.setCell ⟨b, n, none⟩ (.bool true)) ob (some ⟨b, 0, none⟩) c base (L.set n true) /\ Fr (fun k => some k = (Value.slice (some ⟨b, 0, none⟩) L.length c).ownBlock) w (w1.setCell ⟨b, n, none⟩ (.bool true))) := by
   refine ⟨⟨?_, ?_⟩, (Fr.of (by rw [hxb]; exact hbt)).set b n _ rfl⟩
   ·rw [List.length_set]
    exact (Below.heap_setCell _ _ _ _ (fun e => ne (Eq.symm e))).trans B1.blk
   ·rw [List.length_set, List.map_set]
    exact R2
  clear hb1 B1 hx1 R2 hg hbt
  go_wp2_with fail
  go_ret
  exact ⟨rfl, HF.out.1, HF.out.2⟩
 ·have eA : adS L v = L := by unfold adS; rw [if_pos hs]
  rw [hs] at PI
  rw [eA]
  clear h hv hs eA
  obtain ⟨k, n⟩ := v
  dsimp only at *
  go_enter Tryz.func145, Tryz.ntmps145
  go_wp2_with fail
  refine PI.mono ?_
  clear PI
  rintro e w1 ⟨rfl, hb1⟩
  have HF : Hid (Bx w1 ob ad c base L /\ Fr (fun k => some k = (Value.slice ad L.length c).ownBlock) w w1) := ⟨HB.out.2.1.below hb1, Fr.of (HB.out.1.trans (hb1.mono HB.out.1.size))⟩
  clear hb1
  go_wp2_with fail
  go_ret
  exact ⟨rfl, HF.out.1, HF.out.2⟩
end Go.Proofs.YtnalfnlmaallmaaGreat
