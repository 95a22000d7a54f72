/- Joined: Gr6, Vw8, Vw9, Vr1. -/
import Derived.Test.YtnalfnlmaallmaaGreatJ15
import Derived.Test.YtnalfnlmaallmaaGreatJ16
import Derived.Test.YtnalfnlmaallmaaGreatJ04
import Derived.Test.YtnalfnlmaallmaaGreatJ22
import Derived.Deep.DeepCutAuto
import Derived.Deep.LoopGhost
import Derived.Test.YtnalfnlmaallmaaGreatJ13
namespace Go.Proofs.YtnalfnlmaallmaaGreat
set_option maxRecDepth 100000
set_option maxHeartbeats 8000000
open Go.RowKit W Kp Stl
structure Wcv (s : Wrs) : Prop where
  iv : Wiv s.T s.wt
  rv : ∀ v ∈ s.rs, v.1 = 3 -> 0 <= v.2 /\ Alv s.T v.2.toNat
  gv : ∀ e ∈ s.rg, (0 <= e.1 /\ Alv s.T e.1.toNat) /\ 0 <= e.2 /\ Alv s.T e.2.toNat
  wg : ∀ e ∈ s.wt, 0 <= e.1 /\ Alv s.T e.1.toNat
  tl : s.T.length <= 10000
  gl : s.rg.length <= 1000
  wl : s.wt.length <= 1000
theorem Wcv.t12 {s : Wrs} (h : Wcv s) : ∀ t ∈ s.T, t.2.1.length <= 12 := fun t ht => by
 obtain ⟨i, hi, e⟩ := List.mem_iff_getElem.1 ht
 have := h.iv.tl i
 rw [List.getD_eq_getElem?_getD, List.getElem?_eq_getElem hi, e] at this
 exact this
theorem Wcv.first {s : Wrs} (h : Wcv s) (mj : Bool) : Sok_ s.T (frs s.T s.rs mj) :=
 ⟨frs_len _ _ _, fun k hk => by
  obtain ⟨h1, h2⟩ := (frs_in _ _ _ _).1 hk
  rcases h2 with ⟨_, h2, _⟩ | ⟨v, hv, h3, e⟩
  ·exact ⟨h1, h2⟩
  ·rw [<- e]
   exact (h.rv v hv h3).2⟩
theorem wr_wg {rp rb : Nat} {most grow : Int} {F : Nat -> Prop} {s : Wrs} {w : World} (h : (wrO rp rb most grow).J F s w) : Wg w rp s.T s.wt := by
 obtain ⟨aT, cT, c0, _, hT⟩ := wr_things h
 obtain ⟨v2, v3, _, d3, _, r3, _⟩ := wr_regs h
 obtain ⟨a3, c3, e3⟩ := row_slice r3
 subst e3
 exact ⟨⟨aT, cT, c0, fun i x hx => by
  obtain ⟨b, ad, cp, e, y0, y1, y2, y3, yl, _⟩ := hT i x hx
  exact ⟨b, ad, cp, e, y0, y1, y2, y3, yl⟩⟩, ⟨a3, c3, d3, row_pairs r3⟩⟩
theorem fl_next {α : Type} (f : α -> Bool) (l : List α) (i : Nat) (hi : i < l.length) (d : α) : (((l.take i).map f) ++ List.replicate (l.length - i) false).set i (f (l.getD i d)) = ((l.take (i + 1)).map f) ++ List.replicate (l.length - (i + 1)) false := by
 have hl : ((l.take i).map f).length = i := by simp; omega
 rw [List.set_append_right _ _ (by omega), hl, Nat.sub_self, List.take_succ_eq_append_getElem hi, List.map_append, show l.length - i = (l.length - (i + 1)) + 1 by omega, List.replicate_succ, List.set_cons_zero, List.append_assoc]
 congr 1
 rw [List.getD_eq_getElem?_getD, List.getElem?_eq_getElem hi]
 rfl
theorem fl_len {α : Type} (f : α -> Bool) (l : List α) (i : Nat) (hi : i <= l.length) : (((l.take i).map f) ++ List.replicate (l.length - i) false).length = l.length := by
 simp
 omega
theorem bool_at {L : List Bool} {i : Nat} (h : i < L.length) : (L.map Value.bool)[i]? = some (.bool (L.getD i false)) := by
 rw [List.getElem?_map, List.getElem?_eq_getElem h, List.getD_eq_getElem?_getD, List.getElem?_eq_getElem h]
 rfl
structure Rk (w : World) (s : Wrs) (db mb xb : Nat) (v0 v1 v2 : Value) (most grow : Int) (D : List Bool) (wr : World) (ai : Option Addr) (ci : Nat) (L M : List Bool) (C : List En) : Prop where
  ri : wr.ownsRow w.heap.size 4 1 (.slice ai s.T.length ci) s.T.length (L.map Value.bool)
  bl : Below w.heap.size w wr
  rd : wr.ownsRow w.heap.size 4 1 (.slice (some ⟨db, 0, none⟩) s.rg.length s.rg.length) s.rg.length (D.map Value.bool)
  rm : wr.ownsRow w.heap.size 4 1 (.slice (some ⟨mb, 0, none⟩) s.rg.length s.rg.length) s.rg.length (M.map Value.bool)
  xx : ∃ ax cx, wr.heap[xb]? = some (.cells #[v0, v1, v2, .slice ax (s.wt ++ C).length cx, .int .i64 most, .int .i64 grow] 121 (0, 0)) /\ wr.ownsRow w.heap.size 124 2 (.slice ax (s.wt ++ C).length cx) (s.wt ++ C).length (ev (s.wt ++ C))
  ne : ∀ k, some k = (Value.slice ai s.T.length ci).ownBlock -> k ≠ db /\ k ≠ mb
theorem Rk.below {w : World} {s : Wrs} {db mb xb : Nat} {v0 v1 v2 : Value} {most grow : Int} {D : List Bool} {wr wr' : World} {ai : Option Addr} {ci : Nat} {L M : List Bool} {C : List En} (h : Rk w s db mb xb v0 v1 v2 most grow D wr ai ci L M C) (hb : Below wr.heap.size wr wr') : Rk w s db mb xb v0 v1 v2 most grow D wr' ai ci L M C := by
 obtain ⟨ax, cx, h1, h2⟩ := h.xx
 exact ⟨row_keep h.ri (fun k e => hb.block k (row_lt h.ri k e).2), h.bl.trans (hb.mono h.bl.size), row_keep h.rd (fun k e => hb.block k (row_lt h.rd k e).2), row_keep h.rm (fun k e => hb.block k (row_lt h.rm k e).2), ⟨ax, cx, (hb.block xb (lt_of_some h1)).trans h1, row_keep h2 (fun k e => hb.block k (row_lt h2 k e).2)⟩, h.ne⟩
section
variable {w : World} {s : Wrs} {db mb xb : Nat} {v0 v1 v2 : Value} {most grow : Int} {D : List Bool} {wr : World} {ai : Option Addr} {ci : Nat} {L M : List Bool} {C : List En}
theorem row_apart {b b' n n' m m' : Nat} {e e' : TypeId} {v v' : Value} {l l' : List Value} (h : wr.ownsRow b e m v n l) (h' : wr.ownsRow b' e' m' v' n' l') (hne : e ≠ e') : ∀ k, some k = v.ownBlock -> ¬ some k = v'.ownBlock := by
 intro k e1 e2
 obtain ⟨c1, h1⟩ := row_type h k e1
 obtain ⟨c2, h2⟩ := row_type h' k e2
 rw [h1] at h2
 simp at h2
 exact hne h2.2
theorem Rk.world (h : Rk w s db mb xb v0 v1 v2 most grow D wr ai ci L M C) : ∀ {b n m : Nat} {e : TypeId} {v : Value} {l : List Value}, wr.ownsRow b e m v n l -> e ≠ 121 -> ∀ k, some k = v.ownBlock -> k ≠ xb := fun hr hne k e1 e2 => by
 obtain ⟨ax, cx, h1, _⟩ := h.xx
 obtain ⟨c1, h2⟩ := row_type hr k e1
 rw [e2, h1] at h2
 simp at h2
 exact hne h2.2.symm
theorem Rk.push (h : Rk w s db mb xb v0 v1 v2 most grow D wr ai ci L M C) (hx0 : w.heap.size <= xb) {ax : Option Addr} {cx : Nat} (h1 : wr.heap[xb]? = some (.cells #[v0, v1, v2, .slice ax (s.wt ++ C).length cx, .int .i64 most, .int .i64 grow] 121 (0, 0))) (h2 : wr.ownsRow w.heap.size 124 2 (.slice ax (s.wt ++ C).length cx) (s.wt ++ C).length (ev (s.wt ++ C))) {wn : World} {e : En} {ax' : Option Addr} {cx' : Nat} (hg : Fr (fun k => some k = (Value.slice ax (s.wt ++ C).length cx).ownBlock) wr wn) (hr : wn.ownsRow w.heap.size 124 2 (.slice ax' (s.wt ++ (C ++ [e])).length cx') (s.wt ++ (C ++ [e])).length (ev (s.wt ++ (C ++ [e])))) : Rk w s db mb xb v0 v1 v2 most grow D (wn.setCell ⟨xb, 3, none⟩ (.slice ax' (s.wt ++ (C ++ [e])).length cx')) ai ci L M (C ++ [e]) := by
 have kk : ∀ k, k ≠ xb -> (wn.setCell ⟨xb, 3, none⟩ (.slice ax' (s.wt ++ (C ++ [e])).length cx')).heap[k]? = wn.heap[k]? := fun k hk => Below.heap_setCell _ _ _ _ hk
 have hxn : wn.heap[xb]? = some (.cells #[v0, v1, v2, .slice ax (s.wt ++ C).length cx, .int .i64 most, .int .i64 grow] 121 (0, 0)) := (hg.block xb (lt_of_some h1) (fun e1 => h.world h2 (by decide) xb e1 rfl)).trans h1
 have hk : ∀ {b n m : Nat} {v : Value} {l : List Value}, wr.ownsRow b 4 m v n l -> (wn.setCell ⟨xb, 3, none⟩ (.slice ax' (s.wt ++ (C ++ [e])).length cx')).ownsRow b 4 m v n l := fun hb => row_keep hb (fun k e1 => (kk k (h.world hb (by decide) k e1)).trans (hg.block k (row_lt hb k e1).2 (row_apart hb h2 (by decide) k e1)))
 refine ⟨hk h.ri, ?_, hk h.rd, hk h.rm, ⟨ax', cx', ?_, row_keep hr (fun k e1 => kk k (fun e2 => ?_))⟩, h.ne⟩
 ·have hb := h.bl.trans (hg.below h.bl.size (fun k e1 => (row_lt h2 k e1).1))
  exact hb.trans (((Fr.refl (fun k => k = xb) wn).set xb 3 _ rfl).below hb.size (fun k e1 => by have e1 : k = xb := e1; omega))
 ·simp only [World.setCell, Array.getElem?_modify, if_true, hxn, Option.map_some]
  simp
 ·obtain ⟨c1, h3⟩ := row_type hr k e1
  rw [e2, hxn] at h3
  simp at h3
theorem Rk.mark {ib : Nat} (h : Rk w s db mb xb v0 v1 v2 most grow D wr (some ⟨ib, 0, none⟩) ci L M C) (n : Nat) : Rk w s db mb xb v0 v1 v2 most grow D (wr.setCell ⟨ib, n, none⟩ (.bool true)) (some ⟨ib, 0, none⟩) ci (L.set n true) M C := by
 have kk : ∀ k, k ≠ ib -> (wr.setCell ⟨ib, n, none⟩ (.bool true)).heap[k]? = wr.heap[k]? := fun k hk => Below.heap_setCell _ _ _ _ hk
 obtain ⟨ax, cx, h1, h2⟩ := h.xx
 obtain ⟨n1, n2⟩ := h.ne ib rfl
 refine ⟨?_, ?_, row_keep h.rd (fun k e => kk k (fun e' => by have e : some k = some db := e; cases e; exact n1 e'.symm)), row_keep h.rm (fun k e => kk k (fun e' => by have e : some k = some mb := e; cases e; exact n2 e'.symm)), ⟨ax, cx, (kk xb (fun e => h.world h.ri (by decide) ib rfl e.symm)).trans h1, row_keep h2 (fun k e => kk k (fun e' => row_apart h2 h.ri (by decide) k e (by rw [e']; rfl)))⟩, h.ne⟩
 ·rw [List.map_set]
  exact row_put h.ri n _
 ·exact h.bl.trans (((Fr.refl (fun k => k = ib) wr).set ib n _ rfl).below h.bl.size (fun k e => by have e : k = ib := e; have := (row_lt h.ri ib rfl).1; omega))
theorem Rk.mv (h : Rk w s db mb xb v0 v1 v2 most grow D wr ai ci L M C) (hdm : db ≠ mb) (n : Nat) : Rk w s db mb xb v0 v1 v2 most grow D (wr.setCell ⟨mb, n, none⟩ (.bool true)) ai ci L (M.set n true) C := by
 have kk : ∀ k, k ≠ mb -> (wr.setCell ⟨mb, n, none⟩ (.bool true)).heap[k]? = wr.heap[k]? := fun k hk => Below.heap_setCell _ _ _ _ hk
 obtain ⟨ax, cx, h1, h2⟩ := h.xx
 refine ⟨row_keep h.ri (fun k e => kk k (h.ne k e).2), ?_, row_keep h.rd (fun k e => kk k (fun e' => by have e : some k = some db := e; cases e; exact hdm e')), ?_, ⟨ax, cx, (kk xb (fun e => h.world h.rm (by decide) mb rfl e.symm)).trans h1, row_keep h2 (fun k e => kk k (fun e' => row_apart h2 h.rm (by decide) k e (by rw [e']; rfl)))⟩, h.ne⟩
 ·exact h.bl.trans (((Fr.refl (fun k => k = mb) wr).set mb n _ rfl).below h.bl.size (fun k e => by have e : k = mb := e; have := (row_lt h.rm mb rfl).1; omega))
 ·rw [List.map_set]
  exact row_put h.rm n _
theorem Rk.is (h : Rk w s db mb xb v0 v1 v2 most grow D wr ai ci L M C) {wn : World} (hb : Below wr.heap.size wr wn) {aj : Option Addr} {cj : Nat} {L' : List Bool} (hr : wn.ownsRow wr.heap.size 4 1 (.slice aj s.T.length cj) s.T.length (L'.map Value.bool)) : Rk w s db mb xb v0 v1 v2 most grow D wn aj cj L' M C := by
 have h9 := h.below hb
 refine ⟨row_base hr (fun k e => Nat.le_trans h.bl.size (row_lt hr k e).1), h9.bl, h9.rd, h9.rm, h9.xx, fun k e => ?_⟩
 have h1 := (row_lt hr k e).1
 have h2 := (row_lt h.rd db rfl).2
 have h3 := (row_lt h.rm mb rfl).2
 exact ⟨by omega, by omega⟩
end
theorem infoEr : (Tryz.prog.info? 124).map (fun i => (i.zero, i.size, i.bytes)) = some (some (.agg #[.int .i64 0, .int .i64 0]), 2, 16) := by kernel_rfl
theorem owns_emptyEr (w : World) : (w.alloc (.cells #[] 124)).ownsRow w.heap.size 124 2 (.slice (some ⟨w.heap.size, 0, none⟩) 0 0) 0 [] :=
 ⟨by simp, Or.inr ⟨w.heap.size, 0, #[], rfl, Nat.le_refl _, heap_alloc_new _ _, by simp, by simp, by simp, rfl⟩⟩
section
variable {rp rb : Nat} {most grow : Int} {F : Nat -> Prop} {s : Wrs} {w : World}
theorem cutW_no (h : (wrO rp rb most grow).J F s w) (hv : Wcv s) (h0 : 0 <= grow) (h1 : grow <= 100000) (hf : grow - (usd s.T).2 < (usd s.T).1) :
  Calls Tryz.prog 17 #[.pointer (some ⟨rp, 0, none⟩), .bool false] w fun e w' => e = .returned (.int .i64 3) /\ Below w.heap.size w w' := by
 have PU := usedW_any h hv.t12 hv.tl
 obtain ⟨_, _, c5, _⟩ := wr_cells h
 have bd := usd_bd s.T hv.t12
 have ht := hv.tl
 have HB : Hid (∀ w', Below w.heap.size w w' -> w'.cell? ⟨rp, 5, none⟩ = some (.int .i64 grow)) := fun w' hb => (hb.cell (p := ⟨rp, 5, none⟩) (World.block_lt_of_cell? w _ c5)).trans c5
 generalize (usd s.T).1 = a at *
 generalize (usd s.T).2 = b at *
 have a1 : a <= 130000 := by omega
 have b1 : b <= 130000 := by omega
 obtain ⟨a0, _, b0, _⟩ := bd
 clear h hv c5
 go_enter Tryz.func17, Tryz.ntmps17
 go_wp2_with fail
 refine PU.mono ?_
 clear PU
 rintro e w1 ⟨rfl, hb1⟩
 have c5 := HB.out w1 hb1
 go_wp2_with fail
 go_ret
 exact ⟨rfl, hb1⟩
end
end Go.Proofs.YtnalfnlmaallmaaGreat

namespace Go.Proofs.YtnalfnlmaallmaaGreat
set_option maxRecDepth 100000
set_option maxHeartbeats 1000000
open Go.RowKit W Kp Stl
def Ln (w : World) (ad : Option Addr) (ns : List (Int × List (Int × Int))) : Prop :=
 ∃ m : List Vnd, nds m = ns /\ (∀ x ∈ m, Lp w x.2.1 x.2.2.2) /\ (0 < m.length -> ∃ b o, ad = some ⟨b, o, none⟩ /\ b < w.heap.size /\ ∀ i x, m[i]? = some x -> w.cell? ⟨b, o + i * 2, none⟩ = some (.int .i64 x.1) /\ w.cell? ⟨b, o + i * 2 + 1, none⟩ = some (.slice x.2.1 x.2.2.2.length x.2.2.1))
theorem Ln.below {w w' : World} {ad : Option Addr} {ns : List (Int × List (Int × Int))} (h : Ln w ad ns) (hb : Below w.heap.size w w') : Ln w' ad ns := by
 obtain ⟨m, h1, h2, h3⟩ := h
 refine ⟨m, h1, fun x hx => (h2 x hx).below hb, fun hp => ?_⟩
 obtain ⟨b, o, e, hl, hc⟩ := h3 hp
 exact ⟨b, o, e, Nat.lt_of_lt_of_le hl hb.size, fun i x hx => ⟨(hb.cell (p := ⟨b, o + i * 2, none⟩) hl).trans (hc i x hx).1, (hb.cell (p := ⟨b, o + i * 2 + 1, none⟩) hl).trans (hc i x hx).2⟩⟩
section
variable {w : World} {pw p q N O y g : Nat} {ws : List Int} {sd : Nat} {v0 : Value} {a1 : Option Addr} {k1 : Nat} {Q : List En} {l : List Int} {ra : Option Addr} {rc : Nat}
def vwL (N y g : Nat) (ws : List Int) (Q : List En) (l : List Int) : List (Int × Int) × Vst :=
 vls (met (thY N y g ws ++ thO N y g ws) (fun a => pk (ld N y g ws a)) (shL N y g ws Q) (thY N y g ws ++ thO N y g ws).length) (thY N y g ws ++ thO N y g ws) ([], []) l
theorem vwL_go (N y g : Nat) (ws : List Int) (Q : List En) (l : List Int) : Vgo (thY N y g ws ++ thO N y g ws) (fun a => pk (ld N y g ws a)) (shL N y g ws Q) ([], []) (vwL N y g ws Q l).2 (vwL N y g ws Q l).1 :=
 vls_go (met_go _) (VOk.start _) (by simp) l
theorem view_any (hq : Wq w pw p q N O y g ws sd v0 a1 k1 Q) (c3 : w.cell? ⟨pw, 3, none⟩ = some (.slice ra l.length rc)) (hl : Lq w ra l) (hm : l.length <= 100000) :
  Calls Tryz.prog 30 #[.pointer (some ⟨pw, 0, none⟩)] w fun e w' => ∃ r2 d2 na nn nc, e = .returned (.agg #[.slice r2 l.length d2, .slice na nn nc]) /\ Lp w' r2 (vwL N y g ws Q l).1 /\ Ln w' na (vwL N y g ws Q l).2.2 /\ nn = (vwL N y g ws Q l).2.2.length /\ Below w.heap.size w w' := by
 have ba := (Below.refl w.heap.size w).alloc (Nat.le_refl _) (.cells #[.slice none 0 0, .slice none 0 0] 65)
 have hr0 := heap_alloc_new w (.cells #[.slice none 0 0, .slice none 0 0] 65)
 have hq0 := hq.low ba
 have hl0 := hl.kf (Kf.of (B := 0) ba)
 have lpw := World.block_lt_of_cell? w _ c3
 have c30 := (ba.cell (p := ⟨pw, 3, none⟩) lpw).trans c3
 have lpw0 : pw < (w.alloc (.cells #[.slice none 0 0, .slice none 0 0] 65)).heap.size := Nat.lt_of_lt_of_le lpw ba.size
 have lr0 : w.heap.size < (w.alloc (.cells #[.slice none 0 0, .slice none 0 0] 65)).heap.size := by simp
 have P := newWalk_any hq0.c0 hq0.ar
 have k1' := hq.ar.hN'
 have k2' := hq.ar.hy
 have k3' := hq.ar.hO
 have k4' := hq.ar.hg
 have hTb : ∀ a ∈ thY N y g ws ++ thO N y g ws, 0 <= a /\ a < 2000 := fun a ha => by
  rcases List.mem_append.1 ha with ha | ha
  ·have := thY_bd a ha; omega
  ·have := thO_bd a ha; omega
 have hTl : (thY N y g ws ++ thO N y g ws).length <= 100000 := by
  have h1 : (thY N y g ws).length <= 2000 := ths_le _ _
  have h2 : (thO N y g ws).length <= 2000 := ths_le _ _
  simp
  omega
 have KV : Hid (∀ (kb mq : Nat) (w1 : World), Wk (w.alloc (.cells #[.slice none 0 0, .slice none 0 0] 65)) w1 kb mq pw (thY N y g ws ++ thO N y g ws) ([], []) (.slice none 0 0) [] -> Calls Tryz.prog 86 #[.pointer (some ⟨kb, 0, none⟩), .slice ra l.length rc] w1 fun e w' => ∃ vn' m' a2 c2, e = .returned (.slice a2 l.length c2) /\ w'.ownsRow w1.heap.size 100 2 (.slice a2 l.length c2) l.length (ev (vwL N y g ws Q l).1) /\ Wk (w.alloc (.cells #[.slice none 0 0, .slice none 0 0] 65)) w' kb mq pw (thY N y g ws ++ thO N y g ws) (vwL N y g ws Q l).2 vn' m' /\ Kv (w.alloc (.cells #[.slice none 0 0, .slice none 0 0] 65)) w1 [] w' m' /\ (∀ k, Fb m' k -> some k ≠ (Value.slice a2 l.length c2).ownBlock)) :=
  fun kb mq w1 h1 => values_any (meet_any hq0 hTb hTl _) (met_go _) h1 (VOk.start _) (by simp) l ra rc (hl0.kf (Kf.of (B := 0) h1.bel)) hm
 have hvl : Hid ((vwL N y g ws Q l).1.length = l.length) := vls_len _ _ _ _
 clear hq hq0 hl hl0 k1' k2' k3' k4' hTb hTl c3
 generalize vwL N y g ws Q l = R at *
 obtain ⟨V, s⟩ := R
 generalize thY N y g ws ++ thO N y g ws = T at *
 dsimp only at *
 go_enter Tryz.func30, Tryz.ntmps30
 go_wp2_with fail
 refine P.mono ?_
 clear P
 rintro e w1 ⟨kb, mq, rfl, h1⟩
 have x3 := (h1.bel.cell (p := ⟨pw, 3, none⟩) lpw0).trans c30
 have H1 : Hid (_) := h1
 clear h1
 go_wp2_with fail
 refine (KV.out kb mq w1 H1.out).mono ?_
 clear KV
 rintro e w2 ⟨vn, m, a2, c2, rfl, hr2, hW2, hK2, _⟩
 obtain ⟨na, nc, e2⟩ := row_slice hW2.row
 subst e2
 have z2 := hW2.cells.2.2.1
 have hb2 := ba.trans (hW2.bel.mono ba.size)
 have hr3 := (hW2.bel.block _ lr0).trans hr0
 have y0 : w2.cell? ⟨w.heap.size, 0, none⟩ = some (.slice none 0 0) := by simp [World.cell?, hr3]
 have y1 : w2.cell? ⟨w.heap.size, 1, none⟩ = some (.slice none 0 0) := by simp [World.cell?, hr3]
 have f0 : w2.frozen? ⟨w.heap.size, 0, none⟩ = false := by simp [World.frozen?, hr3]
 have f1 : w2.frozen? ⟨w.heap.size, 1, none⟩ = false := by simp [World.frozen?, hr3]
 have l2 : w.heap.size < w2.heap.size := lt_of_some hr3
 have HW2 : Hid (_ /\ _) := ⟨hW2, hr2⟩
 have hml : Hid (m.length = s.2.length) := hW2.len
 have HB2 : Hid (_) := hb2
 have HR3 : Hid (_ = _) := hr3
 clear hW2 hr2 hK2 hb2 hr3 ba hr0 x3 c30 H1
 go_wp2_with fail
 obtain ⟨W0, hW0⟩ : ∃ W0, W0 = (w2.setCell ⟨w.heap.size, 0, none⟩ (.slice a2 l.length c2)).setCell ⟨w.heap.size, 1, none⟩ (.slice na m.length nc) := ⟨_, rfl⟩
 rw [<- hW0]
 have g0 : W0.cell? ⟨w.heap.size, 0, none⟩ = some (.slice a2 l.length c2) := by
  rw [hW0, World.cell?_setCell_other _ _ _ _ (by simp)]
  exact World.cell?_setCell_same _ _ _ y0
 have g1 : W0.cell? ⟨w.heap.size, 1, none⟩ = some (.slice na m.length nc) := by
  rw [hW0]
  exact World.cell?_setCell_same _ _ _ ((World.cell?_setCell_other w2 ⟨w.heap.size, 0, none⟩ ⟨w.heap.size, 1, none⟩ _ (by simp)).trans y1)
 have hF : Fr (fun k => k = w.heap.size) w2 W0 := by rw [hW0]; exact ((Fr.refl (fun k => k = w.heap.size) w2).set w.heap.size 0 _ rfl).set w.heap.size 1 _ rfl
 clear hW0
 obtain ⟨hW2, hr2⟩ := HW2.out
 have eL : ∀ {ad : Option Addr} {L : List (Int × Int)}, Lv w2 ad L -> Lp W0 ad L := fun {ad L} h => h.1.keep hF.size (fun hp b e => by
  obtain ⟨b0, o0, cs, e0, hb⟩ := h.2 hp
  rw [e0] at e
  cases e
  refine hF.block _ (lt_of_some hb) (fun c => ?_)
  have c : b0 = w.heap.size := c
  rw [c, HR3.out] at hb
  simp at hb)
 refine bodyPost_ret (v := .agg #[.slice a2 l.length c2, .slice na m.length nc]) (by simp [results, Tryz.results30, go_sem, g0, g1]) rfl ⟨a2, c2, na, m.length, nc, rfl, eL (Lv.of (by rw [hvl.out]; exact hr2)), ⟨m, hW2.nd, fun x hx => eL (hW2.fl x hx), fun hp => ?_⟩, hml.out, HB2.out.trans (hF.below (Nat.le_of_lt l2) (fun k e => Nat.le_of_eq (Eq.symm e)))⟩
 obtain ⟨b, cap, e⟩ := row_shape hW2.row hp
 cases e
 obtain ⟨cur, hcur⟩ := row_type hW2.row b rfl
 have hne : b ≠ w.heap.size := fun c => by
  rw [c, HR3.out] at hcur
  simp at hcur
 refine ⟨b, 0, rfl, Nat.lt_of_lt_of_le (lt_of_some hcur) hF.size, fun i x hx => ?_⟩
 obtain ⟨n1, n2⟩ := nv_get m i x hx
 rw [Nat.zero_add]
 exact ⟨(World.cell?_of_block (a := ⟨b, i * 2, none⟩) (hF.block b (lt_of_some hcur) hne)).trans (row_cell hW2.row n1).1, (World.cell?_of_block (a := ⟨b, i * 2 + 1, none⟩) (hF.block b (lt_of_some hcur) hne)).trans (row_cell hW2.row n2).1⟩
end
end Go.Proofs.YtnalfnlmaallmaaGreat

namespace Go.Proofs.YtnalfnlmaallmaaGreat
open Go.RowKit W Kp Stl
def LpN (w : World) (base : Nat) (ad : Option Addr) (l : List (Int × Int)) : Prop := Lp w ad l /\ (0 < l.length -> ∃ b o, ad = some ⟨b, o, none⟩ /\ base <= b)
def LnN (w : World) (base : Nat) (ad : Option Addr) (ns : List (Int × List (Int × Int))) : Prop :=
 ∃ m : List Vnd, nds m = ns /\ (∀ x ∈ m, Lp w x.2.1 x.2.2.2) /\ (∀ k, Fb m k -> base <= k) /\ (0 < m.length -> ∃ b o, ad = some ⟨b, o, none⟩ /\ base <= b /\ b < w.heap.size /\ ∀ i x, m[i]? = some x -> w.cell? ⟨b, o + i * 2, none⟩ = some (.int .i64 x.1) /\ w.cell? ⟨b, o + i * 2 + 1, none⟩ = some (.slice x.2.1 x.2.2.2.length x.2.2.1))
theorem LnN.ln {w : World} {base : Nat} {ad : Option Addr} {ns : List (Int × List (Int × Int))} (h : LnN w base ad ns) : Ln w ad ns := by
 obtain ⟨m, h1, h2, _, h4⟩ := h
 exact ⟨m, h1, h2, fun hp => by
  obtain ⟨b, o, e, _, l, c⟩ := h4 hp
  exact ⟨b, o, e, l, c⟩⟩
section
variable {w : World} {pw p q N O y g : Nat} {ws : List Int} {sd : Nat} {v0 : Value} {a1 : Option Addr} {k1 : Nat} {Q : List En} {l : List Int} {ra : Option Addr} {rc : Nat}
end
end Go.Proofs.YtnalfnlmaallmaaGreat

namespace Go.Proofs.YtnalfnlmaallmaaGreat
open Go.RowKit W Kp Stl
def Tyw (e : TypeId) : Prop := e = 81 \/ e = 65 \/ e = 3 \/ e = 134
structure Kw (B : Nat) (w w' : World) : Prop where
  os : w'.os = w.os
  tape : w'.tape = w.tape
  output : w'.output = w.output
  size : w.heap.size <= w'.heap.size
  low : ∀ k : Nat, k < w.heap.size -> k < B -> w'.heap[k]? = w.heap[k]?
  oth : ∀ (k : Nat) cs e m, w.heap[k]? = some (Obj.cells cs e m) -> ¬ Tyw e -> w'.heap[k]? = w.heap[k]?
section
variable {B : Nat} {w w' w'' : World}
theorem Kw.refl (B : Nat) (w : World) : Kw B w w := ⟨rfl, rfl, rfl, Nat.le_refl _, fun _ _ _ => rfl, fun _ _ _ _ _ _ => rfl⟩
theorem Kw.trans (h : Kw B w w') (k : Kw B w' w'') : Kw B w w'' :=
 ⟨k.os.trans h.os, k.tape.trans h.tape, k.output.trans h.output, Nat.le_trans h.size k.size, fun i hi hb => (k.low i (Nat.lt_of_lt_of_le hi h.size) hb).trans (h.low i hi hb), fun i cs e m hi h1 => (k.oth i cs e m ((h.oth i cs e m hi h1).trans hi) h1).trans (h.oth i cs e m hi h1)⟩
theorem Kw.of (h : Below w.heap.size w w') : Kw B w w' := ⟨h.os, h.tape, h.output, h.size, fun k hk _ => h.block k hk, fun k _ _ _ hi _ => h.block k (lt_of_some hi)⟩
theorem Kw.below (h : Kw B w w') (hB : B <= w.heap.size) : Below B w w' := ⟨h.os, h.tape, h.output, h.size, fun k hk => h.low k (by omega) hk⟩
theorem Kw.fr {X : Nat -> Prop} (f : Fr X w w') (hX : ∀ k, X k -> B <= k /\ ∀ cs e m, w.heap[k]? = some (Obj.cells cs e m) -> Tyw e) : Kw B w w' :=
 ⟨f.os, f.tape, f.output, f.size, fun k hk hb => f.block k hk (fun d => by have := (hX k d).1; omega), fun k cs e m hk hn => f.block k (lt_of_some hk) (fun d => hn ((hX k d).2 cs e m hk))⟩
theorem Kw.new {X : Nat -> Prop} (h : Kw B w w') (f : Fr X w' w'') (hx : ∀ k, X k -> w.heap.size <= k) : Kw B w w'' :=
 ⟨f.os.trans h.os, f.tape.trans h.tape, f.output.trans h.output, Nat.le_trans h.size f.size, fun k hk hb => (f.block k (Nat.lt_of_lt_of_le hk h.size) (fun d => by have := hx k d; omega)).trans (h.low k hk hb), fun k cs e m hk hn => (f.block k (Nat.lt_of_lt_of_le (lt_of_some hk) h.size) (fun d => by have h1 := hx k d; have h2 := lt_of_some hk; omega)).trans (h.oth k cs e m hk hn)⟩
theorem Lv.kw {ad : Option Addr} {l : List (Int × Int)} (h : Lv w ad l) (k : Kw B w w') : Lv w' ad l := by
 have hk : 0 < l.length -> ∀ b, ad = some b -> w'.heap[b.block]? = w.heap[b.block]? := fun hp b e => by
  obtain ⟨b0, o0, cs, e0, hb⟩ := h.2 hp
  rw [e0] at e
  cases e
  exact k.oth _ _ _ _ hb (by unfold Tyw; decide)
 refine ⟨h.1.keep k.size hk, fun hp => ?_⟩
 obtain ⟨b0, o0, cs, e0, hb⟩ := h.2 hp
 exact ⟨b0, o0, cs, e0, (hk hp _ e0).trans hb⟩
end
abbrev fnV (mb bb vb fb : Nat) : Value := .func (.func 87) #[] #[.pointer (some ⟨mb, 0, none⟩), .pointer (some ⟨bb, 0, none⟩), .pointer (some ⟨vb, 0, none⟩), .pointer (some ⟨fb, 0, none⟩)]
structure Wv (w0 w : World) (mb bb vb fb : Nat) (s : Vst) (va vn vr : Value) (m : List Vnd) : Prop where
  bel : Below w0.heap.size w0 w
  lo : w0.heap.size <= mb /\ w0.heap.size <= vb /\ w0.heap.size <= fb
  fc : w.heap[fb]? = some (.cells #[fnV mb bb vb fb] 149 (0, 0))
  mc : w.heap[mb]? = some (.cells #[va] 81 (0, 0))
  vc : w.heap[vb]? = some (.cells #[vr, vn] 65 (0, 0))
  mr : w.ownsRow w0.heap.size 3 1 va s.1.length (s.1.map (Value.int .i64))
  nr : w.ownsRow w0.heap.size 134 2 vn m.length (nv m)
  nd : nds m = s.2
  fl : ∀ x ∈ m, Lv w x.2.1 x.2.2.2
def Kx (w0 w : World) (m : List Vnd) (w' : World) (m' : List Vnd) : Prop := Kw w0.heap.size w w' /\ ∀ k, Fb m' k -> Fb m k \/ w.heap.size <= k
theorem Kx.refl (w0 w : World) (m : List Vnd) : Kx w0 w m w m := ⟨Kw.refl _ _, fun _ h => Or.inl h⟩
theorem Kx.trans {w0 w w' w'' : World} {m m' m'' : List Vnd} (h : Kx w0 w m w' m') (k : Kx w0 w' m' w'' m'') : Kx w0 w m w'' m'' :=
 ⟨h.1.trans k.1, fun i hi => (k.2 i hi).elim (h.2 i) (fun d => Or.inr (Nat.le_trans h.1.size d))⟩
theorem Kx.of {w0 w w' : World} {m : List Vnd} (h : Below w.heap.size w w') : Kx w0 w m w' m := ⟨Kw.of h, fun _ d => Or.inl d⟩
section
variable {w0 w w' : World} {mb bb vb fb : Nat} {s : Vst} {va vn vr : Value} {m : List Vnd}
theorem Wv.fbk (h : Wv w0 w mb bb vb fb s va vn vr m) (k : Nat) (hk : Fb m k) : k < w.heap.size := by
 obtain ⟨x, hx, hl, o, e⟩ := hk
 obtain ⟨b, o', cs, e', hb⟩ := (h.fl x hx).2 hl
 rw [e] at e'
 cases e'
 exact lt_of_some hb
theorem Wv.len (h : Wv w0 w mb bb vb fb s va vn vr m) : m.length = s.2.length := by rw [<- h.nd]; simp [nds]
theorem Wv.cells (h : Wv w0 w mb bb vb fb s va vn vr m) : w.cell? ⟨mb, 0, none⟩ = some va /\ w.cell? ⟨vb, 1, none⟩ = some vn /\ w.cell? ⟨fb, 0, none⟩ = some (fnV mb bb vb fb) /\ mb < w.heap.size /\ vb < w.heap.size /\ fb < w.heap.size /\ (∀ o, w.frozen? ⟨mb, o, none⟩ = false) /\ (∀ o, w.frozen? ⟨vb, o, none⟩ = false) /\ w.cell? ⟨vb, 0, none⟩ = some vr :=
 ⟨by simp [World.cell?, h.mc], by simp [World.cell?, h.vc], by simp [World.cell?, h.fc], lt_of_some h.mc, lt_of_some h.vc, lt_of_some h.fc, fun o => by simp [World.frozen?, h.mc], fun o => by simp [World.frozen?, h.vc], by simp [World.cell?, h.vc]⟩
theorem Wv.but {X : Nat -> Prop} (h : Wv w0 w mb bb vb fb s va vn vr m) (f : Fr X w w') (hX : ∀ k, k < w.heap.size -> X k -> (∃ cs, w.heap[k]? = some (.cells cs 100 (0, 0))) /\ ¬ Fb m k /\ w0.heap.size <= k) : Wv w0 w' mb bb vb fb s va vn vr m := by
 have hk : ∀ k cs e mm, w.heap[k]? = some (Obj.cells cs e mm) -> e ≠ 100 -> w'.heap[k]? = w.heap[k]? := fun k cs e mm hk hne => f.block k (lt_of_some hk) (fun d => by
  obtain ⟨⟨cs2, h2⟩, _⟩ := hX k (lt_of_some hk) d
  rw [hk] at h2
  simp at h2
  exact hne h2.2.1)
 have hrow : ∀ {b n sz : Nat} {e : TypeId} {v : Value} {l : List Value}, w.ownsRow b e sz v n l -> e ≠ 100 -> w'.ownsRow b e sz v n l := fun hr hne => row_keep hr (fun k e1 => by
  obtain ⟨cs, hc⟩ := row_type hr k e1
  exact hk k _ _ _ hc hne)
 refine ⟨⟨f.os.trans h.bel.os, f.tape.trans h.bel.tape, f.output.trans h.bel.output, Nat.le_trans h.bel.size f.size, fun k hlt => (f.block k (Nat.lt_of_lt_of_le hlt h.bel.size) (fun d => ?_)).trans (h.bel.block k hlt)⟩, h.lo, (hk _ _ _ _ h.fc (by decide)).trans h.fc, (hk _ _ _ _ h.mc (by decide)).trans h.mc, (hk _ _ _ _ h.vc (by decide)).trans h.vc, hrow h.mr (by decide), hrow h.nr (by decide), h.nd, fun x hx => ?_⟩
 ·have := (hX k (Nat.lt_of_lt_of_le hlt h.bel.size) d).2.2
  omega
 ·have hb : 0 < x.2.2.2.length -> ∀ a, x.2.1 = some a -> w'.heap[a.block]? = w.heap[a.block]? := fun hp a e => by
   obtain ⟨b0, o0, cs, e0, hb0⟩ := (h.fl x hx).2 hp
   rw [e0] at e
   cases e
   exact f.block _ (lt_of_some hb0) (fun d => (hX _ (lt_of_some hb0) d).2.1 ⟨x, hx, hp, o0, e0⟩)
  refine ⟨(h.fl x hx).1.keep f.size hb, fun hp => ?_⟩
  obtain ⟨b0, o0, cs, e0, hb0⟩ := (h.fl x hx).2 hp
  exact ⟨b0, o0, cs, e0, (hb hp _ e0).trans hb0⟩
theorem Wv.below (h : Wv w0 w mb bb vb fb s va vn vr m) (hb : Below w.heap.size w w') : Wv w0 w' mb bb vb fb s va vn vr m :=
 h.but (X := fun _ => False) (Fr.of hb) (fun _ _ d => d.elim)
theorem Wv.meets (h : Wv w0 w mb bb vb fb s va vn vr m) (a : Int) {w1 : World} {va1 : Value} (f : Fr (fun k => some k = va.ownBlock) w w1) (hr : w1.ownsRow w0.heap.size 3 1 va1 (s.1 ++ [a]).length ((s.1 ++ [a]).map (Value.int .i64))) : Wv w0 (w1.setCell ⟨mb, 0, none⟩ va1) mb bb vb fb (s.1 ++ [a], s.2) va1 vn vr m /\ Kw w0.heap.size w (w1.setCell ⟨mb, 0, none⟩ va1) := by
 have hty : ∀ k, some k = va.ownBlock -> ∃ cs, w.heap[k]? = some (.cells cs 3 (0, 0)) := fun k e => row_type h.mr k e
 have f2 : Fr (fun k => some k = va.ownBlock \/ k = mb) w (w1.setCell ⟨mb, 0, none⟩ va1) := (f.mono (fun _ d => Or.inl d)).set mb _ _ (Or.inr rfl)
 have hk : ∀ k cs e mm, w.heap[k]? = some (Obj.cells cs e mm) -> e ≠ 3 -> e ≠ 81 -> (w1.setCell ⟨mb, 0, none⟩ va1).heap[k]? = w.heap[k]? := fun k cs e mm hk h1 h2 => f2.block k (lt_of_some hk) (fun d => by
  rcases d with d | d
  ·obtain ⟨cs2, h3⟩ := hty k d
   rw [hk] at h3
   simp at h3
   exact h1 h3.2.1
  ·rw [d, h.mc] at hk
   simp at hk
   exact h2 hk.2.1.symm)
 have kw : Kw w0.heap.size w (w1.setCell ⟨mb, 0, none⟩ va1) := Kw.fr f2 (fun k d => by
  rcases d with d | d
  ·refine ⟨(row_lt h.mr k d).1, fun cs e mm hc => ?_⟩
   obtain ⟨cs2, h3⟩ := hty k d
   rw [hc] at h3
   simp at h3
   exact Or.inr (Or.inr (Or.inl h3.2.1))
  ·refine ⟨by rw [d]; exact h.lo.1, fun cs e mm hc => ?_⟩
   rw [d, h.mc] at hc
   simp at hc
   exact Or.inl hc.2.1.symm)
 refine ⟨⟨h.bel.trans (kw.below h.bel.size), h.lo, (hk _ _ _ _ h.fc (by decide) (by decide)).trans h.fc, ?_, (hk _ _ _ _ h.vc (by decide) (by decide)).trans h.vc, row_keep hr (fun k e => Below.heap_setCell _ _ _ _ (fun e' => ?_)), row_keep h.nr (fun k e1 => by
  obtain ⟨cs, hc⟩ := row_type h.nr k e1
  exact hk k _ _ _ hc (by decide) (by decide)), h.nd, fun x hx => (h.fl x hx).kw kw⟩, kw⟩
 ·have hq := (f.block mb (lt_of_some h.mc) (fun e => by
   obtain ⟨cs2, h3⟩ := hty mb e
   rw [h.mc] at h3
   simp at h3)).trans h.mc
  simp only [World.setCell, Array.getElem?_modify, if_true, hq, Option.map_some]
  simp
 ·have e' : k = mb := e'
  obtain ⟨cs, hc⟩ := row_type hr k e
  have hq := (f.block mb (lt_of_some h.mc) (fun e => by
   obtain ⟨cs2, h3⟩ := hty mb e
   rw [h.mc] at h3
   simp at h3)).trans h.mc
  rw [e', hq] at hc
  simp at hc
theorem Wv.noded (h : Wv w0 w mb bb vb fb s va vn vr m) (k0 : Int) {w1 : World} {vn1 : Value} (f : Fr (fun k => some k = vn.ownBlock) w w1) (hr : w1.ownsRow w0.heap.size 134 2 vn1 (m ++ [(k0, none, 0, [])]).length (nv (m ++ [(k0, none, 0, [])]))) : Wv w0 (w1.setCell ⟨vb, 1, none⟩ vn1) mb bb vb fb (s.1, s.2 ++ [(k0, [])]) va vn1 vr (m ++ [(k0, none, 0, [])]) /\ Kw w0.heap.size w (w1.setCell ⟨vb, 1, none⟩ vn1) := by
  have hty : ∀ k, some k = vn.ownBlock -> ∃ cs, w.heap[k]? = some (.cells cs 134 (0, 0)) := fun k e => row_type h.nr k e
  have f2 : Fr (fun k => some k = vn.ownBlock \/ k = vb) w (w1.setCell ⟨vb, 1, none⟩ vn1) := (f.mono (fun _ d => Or.inl d)).set vb _ _ (Or.inr rfl)
  have hk : ∀ k cs e mm, w.heap[k]? = some (Obj.cells cs e mm) -> e ≠ 134 -> e ≠ 65 -> (w1.setCell ⟨vb, 1, none⟩ vn1).heap[k]? = w.heap[k]? := fun k cs e mm hk h1 h2 => f2.block k (lt_of_some hk) (fun d => by
    rcases d with d | d
    · obtain ⟨cs2, h3⟩ := hty k d
      rw [hk] at h3
      simp at h3
      exact h1 h3.2.1
    · rw [d, h.vc] at hk
      simp at hk
      exact h2 hk.2.1.symm)
  have kw : Kw w0.heap.size w (w1.setCell ⟨vb, 1, none⟩ vn1) := Kw.fr f2 (fun k d => by
    rcases d with d | d
    · refine ⟨(row_lt h.nr k d).1, fun cs e mm hc => ?_⟩
      obtain ⟨cs2, h3⟩ := hty k d
      rw [hc] at h3
      simp at h3
      exact Or.inr (Or.inr (Or.inr h3.2.1))
    · refine ⟨by rw [d]; exact h.lo.2.1, fun cs e mm hc => ?_⟩
      rw [d, h.vc] at hc
      simp at hc
      exact Or.inr (Or.inl hc.2.1.symm))
  have hq : w1.heap[vb]? = some (.cells #[vr, vn] 65 (0, 0)) := (f.block vb (lt_of_some h.vc) (fun e => by
      obtain ⟨cs2, h3⟩ := hty vb e
      rw [h.vc] at h3
      simp at h3)).trans h.vc
  refine ⟨⟨h.bel.trans (kw.below h.bel.size), h.lo, (hk _ _ _ _ h.fc (by decide) (by decide)).trans h.fc, (hk _ _ _ _ h.mc (by decide) (by decide)).trans h.mc, ?_, row_keep h.mr (fun k e1 => by
    obtain ⟨cs, hc⟩ := row_type h.mr k e1
    exact hk k _ _ _ hc (by decide) (by decide)), row_keep hr (fun k e => Below.heap_setCell _ _ _ _ (fun e' => ?_)), ?_, fun x hx => ?_⟩, kw⟩
  · simp only [World.setCell, Array.getElem?_modify, if_true, hq, Option.map_some]
    simp
  · have e' : k = vb := e'
    obtain ⟨cs, hc⟩ := row_type hr k e
    rw [e', hq] at hc
    simp at hc
  · have := h.nd
    simp [nds] at this ⊢
    exact this
  · rcases List.mem_append.1 hx with hx | hx
    · exact (h.fl x hx).kw kw
    · simp at hx
      subst hx
      exact Lv.nil
theorem Wv.filled {g cap len : Nat} (h : Wv w0 w mb bb vb fb s va (.slice (some ⟨g, 0, none⟩) len cap) vr m) {i : Nat} {k0 : Int} {v0 : List (Int × Int)} (hi : s.2[i]? = some (k0, v0)) {base c2 : Nat} {a2 : Option Addr} {vs : List (Int × Int)}
  (hr : w.ownsRow base 100 2 (.slice a2 vs.length c2) vs.length (ev vs)) :
  Wv w0 (w.setCell ⟨g, i * 2 + 1, none⟩ (.slice a2 vs.length c2)) mb bb vb fb (s.1, s.2.set i (k0, vs)) va (.slice (some ⟨g, 0, none⟩) len cap) vr (m.set i (k0, a2, c2, vs)) /\ Kw w0.heap.size w (w.setCell ⟨g, i * 2 + 1, none⟩ (.slice a2 vs.length c2)) /\ (∀ k, Fb (m.set i (k0, a2, c2, vs)) k -> Fb m k \/ base <= k) := by
 obtain ⟨cur, hcur⟩ := row_type h.nr g rfl
 have hg := (row_lt h.nr g rfl).1
 have f2 : Fr (fun k => k = g) w (w.setCell ⟨g, i * 2 + 1, none⟩ (.slice a2 vs.length c2)) := (Fr.refl _ w).set g _ _ rfl
 have hk : ∀ k cs e mm, w.heap[k]? = some (Obj.cells cs e mm) -> e ≠ 134 -> (w.setCell ⟨g, i * 2 + 1, none⟩ (.slice a2 vs.length c2)).heap[k]? = w.heap[k]? := fun k cs e mm hk h1 => f2.block k (lt_of_some hk) (fun d => by
  rw [d, hcur] at hk
  simp at hk
  exact h1 hk.2.1.symm)
 have kw : Kw w0.heap.size w (w.setCell ⟨g, i * 2 + 1, none⟩ (.slice a2 vs.length c2)) := Kw.fr f2 (fun k d => by
  refine ⟨by rw [d]; exact hg, fun cs e mm hc => ?_⟩
  rw [d, hcur] at hc
  simp at hc
  exact Or.inr (Or.inr (Or.inr hc.2.1.symm)))
 obtain ⟨x, hx, hxe⟩ : ∃ x : Vnd, m[i]? = some x /\ (x.1, x.2.2.2) = (k0, v0) := by
  have := hi
  rw [<- h.nd, nds, List.getElem?_map] at this
  obtain ⟨x, hx, e⟩ := Option.map_eq_some_iff.1 this
  exact ⟨x, hx, e⟩
 have e1 : x.1 = k0 := congrArg Prod.fst hxe
 have hlen : len = m.length := by
  rcases h.nr.2 with ⟨hv, _⟩ | ⟨g', cap', cur', hv, _⟩
  ·simp at hv
  ·simp at hv
   exact hv.2.1
 refine ⟨⟨h.bel.trans (kw.below h.bel.size), h.lo, (hk _ _ _ _ h.fc (by decide)).trans h.fc, (hk _ _ _ _ h.mc (by decide)).trans h.mc, (hk _ _ _ _ h.vc (by decide)).trans h.vc, row_keep h.mr (fun k e => by
  obtain ⟨cs, hc⟩ := row_type h.mr k e
  exact hk k _ _ _ hc (by decide)), ?_, ?_, fun y hy => ?_⟩, kw, fun k hk' => ?_⟩
 ·rw [List.length_set, <- e1, nv_set m i x a2 c2 vs hx]
  have := h.nr
  rw [<- hlen] at this ⊢
  exact row_put this _ _
 ·rw [nds, List.map_set]
  show ((nds m).set i (k0, vs)) = _
  rw [h.nd]
 ·rcases List.mem_or_eq_of_mem_set hy with hy | hy
  ·exact (h.fl y hy).kw kw
  ·subst hy
   exact (Lv.of hr).kw kw
 ·obtain ⟨y, hy, hl, o, e⟩ := hk'
  rcases List.mem_or_eq_of_mem_set hy with hy | hy
  ·exact Or.inl ⟨y, hy, hl, o, e⟩
  ·subst hy
   have e : a2 = some ⟨k, o, none⟩ := e
   exact Or.inr (row_lt hr k (by rw [e]; rfl)).1
end
end Go.Proofs.YtnalfnlmaallmaaGreat
