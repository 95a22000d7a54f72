/- Joined: Ar2, Ar3, Ar4, Ar5, Ar6. -/
import Derived.Test.YtnalfnlmaallmaaGreatJ01
import Derived.Deep.RegionWith
import Derived.Deep.RegionLaw
namespace Go.Proofs.YtnalfnlmaallmaaGreat
set_option maxRecDepth 100000
set_option maxHeartbeats 400000
open Go.RowKit W
theorem clear_any {p q N O y g : Nat} {ws : List Int} (w : World) (h : At w p q N O y g ws) :
  Calls Tryz.prog 69 #[.pointer (some ⟨p, 0, none⟩)] w fun e w' => e = .returned (.tuple #[]) /\ At w' p q N O 0 g ws /\ Sv p q w w' := by
 obtain ⟨c0, c1, c2, c3, c4, c5, c6⟩ := h.cells
 have f3 := h.frozen 3
 go_enter Tryz.func69, Tryz.ntmps69
 go_wp2_with fail
 go_end0
 exact ⟨rfl, h.setY 0 (Nat.zero_le _), Sv.setp _ _⟩
theorem cut_any {p q N O y g : Nat} {ws : List Int} (n : Int) (w : World) (h : At w p q N O y g ws) (h0 : 0 <= n) (h1 : n <= O) :
  Calls Tryz.prog 215 #[.pointer (some ⟨p, 0, none⟩), .int .i64 n] w fun e w' => e = .returned (.tuple #[]) /\ At w' p q N O y n.toNat ws /\ Sv p q w w' := by
 obtain ⟨n, rfl⟩ := Int.eq_ofNat_of_zero_le h0
 rw [Int.toNat_natCast]
 obtain ⟨c0, c1, c2, c3, c4, c5, c6⟩ := h.cells
 have f3 := h.frozen 6
 go_enter Tryz.func215, Tryz.ntmps215
 go_wp2_with fail
 go_end0
 exact ⟨rfl, h.setG n (by omega), Sv.setp _ _⟩
theorem takeY_yes {p q N O y g : Nat} {ws : List Int} (n : Int) (w : World) (h : At w p q N O y g ws) (h0 : 0 <= n) (h1 : n <= (N : Int) - y) :
  Calls Tryz.prog 108 #[.pointer (some ⟨p, 1, none⟩), .int .i64 n] w fun e w' => e = .returned (.tuple #[.int .i64 y, .bool true]) /\ At w' p q N O (y + n.toNat) g ws /\ Sv p q w w' := by
 obtain ⟨n, rfl⟩ := Int.eq_ofNat_of_zero_le h0
 rw [Int.toNat_natCast]
 obtain ⟨c0, c1, c2, c3, c4, c5, c6⟩ := h.cells
 have k1 := h.hN'
 have k2 := h.hy
 go_enter Tryz.func108, Tryz.ntmps108
 go_wp2_with fail
 refine (free_any 0 N y _ (by omega) (by omega) (by omega) (by omega)).mono ?_
 rintro e w1 ⟨rfl, hb1⟩
 have h2 := h.below hb1 (Nat.le_refl _)
 obtain ⟨c0, c1, c2, c3, c4, c5, c6⟩ := h2.cells
 go_wp2_with fail
 refine (end_any 0 N y _ (by omega) (by omega) (by omega) (by omega)).mono ?_
 rintro e w2 ⟨rfl, hb2⟩
 have h3 := h2.below hb2 (Nat.le_refl _)
 obtain ⟨c0, c1, c2, c3, c4, c5, c6⟩ := h3.cells
 have f3 := h3.frozen 3
 go_wp2_with fail
 go_ret2
 exact ⟨by simp, h3.setY (y + n) (by omega), ((Sv.of hb1).trans (Sv.of hb2)).trans (Sv.setp _ _)⟩
theorem takeY_no {p q N O y g : Nat} {ws : List Int} (n : Int) (w : World) (h : At w p q N O y g ws) (h0 : (N : Int) - y < n) :
  Calls Tryz.prog 108 #[.pointer (some ⟨p, 1, none⟩), .int .i64 n] w fun e w' => e = .returned (.tuple #[.int .i64 0, .bool false]) /\ Below w.heap.size w w' := by
 obtain ⟨c0, c1, c2, c3, c4, c5, c6⟩ := h.cells
 have k1 := h.hN'
 have k2 := h.hy
 go_enter Tryz.func108, Tryz.ntmps108
 go_wp2_with fail
 refine (free_any 0 N y _ (by omega) (by omega) (by omega) (by omega)).mono ?_
 rintro e w1 ⟨rfl, hb1⟩
 go_wp2_with fail
 go_ret2
 exact ⟨rfl, hb1⟩
theorem takeG_yes {p q N O y g : Nat} {ws : List Int} (n : Int) (w : World) (h : At w p q N O y g ws) (h0 : 0 <= n) (h1 : n <= (O : Int) - g) :
  Calls Tryz.prog 108 #[.pointer (some ⟨p, 4, none⟩), .int .i64 n] w fun e w' => e = .returned (.tuple #[.int .i64 (N + g : Nat), .bool true]) /\ At w' p q N O y (g + n.toNat) ws /\ Sv p q w w' := by
 obtain ⟨n, rfl⟩ := Int.eq_ofNat_of_zero_le h0
 rw [Int.toNat_natCast]
 obtain ⟨c0, c1, c2, c3, c4, c5, c6⟩ := h.cells
 have k1 := h.hN'
 have k2 := h.hg
 have k3 := h.hO
 go_enter Tryz.func108, Tryz.ntmps108
 go_wp2_with fail
 refine (free_any N O g _ (by omega) (by omega) (by omega) (by omega)).mono ?_
 rintro e w1 ⟨rfl, hb1⟩
 have h2 := h.below hb1 (Nat.le_refl _)
 obtain ⟨c0, c1, c2, c3, c4, c5, c6⟩ := h2.cells
 go_wp2_with fail
 refine (end_any N O g _ (by omega) (by omega) (by omega) (by omega)).mono ?_
 rintro e w2 ⟨rfl, hb2⟩
 have h3 := h2.below hb2 (Nat.le_refl _)
 obtain ⟨c0, c1, c2, c3, c4, c5, c6⟩ := h3.cells
 have f3 := h3.frozen 6
 go_wp2_with fail
 go_ret2
 exact ⟨by simp, h3.setG (g + n) (by omega), ((Sv.of hb1).trans (Sv.of hb2)).trans (Sv.setp _ _)⟩
theorem takeG_no {p q N O y g : Nat} {ws : List Int} (n : Int) (w : World) (h : At w p q N O y g ws) (h0 : (O : Int) - g < n) :
  Calls Tryz.prog 108 #[.pointer (some ⟨p, 4, none⟩), .int .i64 n] w fun e w' => e = .returned (.tuple #[.int .i64 0, .bool false]) /\ Below w.heap.size w w' := by
 obtain ⟨c0, c1, c2, c3, c4, c5, c6⟩ := h.cells
 have k1 := h.hN'
 have k2 := h.hg
 have k3 := h.hO
 go_enter Tryz.func108, Tryz.ntmps108
 go_wp2_with fail
 refine (free_any N O g _ (by omega) (by omega) (by omega) (by omega)).mono ?_
 rintro e w1 ⟨rfl, hb1⟩
 go_wp2_with fail
 go_ret2
 exact ⟨rfl, hb1⟩
theorem freeOf_any {p q N O y g : Nat} {ws : List Int} (w : World) (h : At w p q N O y g ws) :
  Calls Tryz.prog 59 #[.pointer (some ⟨p, 0, none⟩)] w fun e w' => e = .returned (.tuple #[.int .i64 ((N : Int) - y), .int .i64 ((O : Int) - g)]) /\ Below w.heap.size w w' := by
 obtain ⟨c0, c1, c2, c3, c4, c5, c6⟩ := h.cells
 have k1 := h.hN'
 have k2 := h.hg
 have k3 := h.hO
 have k4 := h.hy
 go_enter Tryz.func59, Tryz.ntmps59
 go_wp2_with fail
 go_region_with (go_at_call 123; refine (free_any _ _ _ _ (by omega) (by omega) (by omega) (by omega)).mono ?_; rintro e w1 ⟨rfl, hb1⟩; have hA : At w1 p q N O y g ws := (by first | exact h.drew.below hb1 (Nat.le_refl _) | exact hA.below hb1 (Nat.le_refl _)); have hZ : Below w.heap.size w w1 := (by first | exact (Below.refl _ w).drew.trans hb1 | exact hZ.trans (hb1.mono hZ.size)); obtain ⟨c0, c1, c2, c3, c4, c5, c6⟩ := hA.cells)
 all_goals
  go_wp2_with fail
  go_ret2
  exact ⟨rfl, hZ⟩
theorem info64A : (Tryz.prog.info? 2).map (fun i => (i.zero, i.size, i.bytes)) = some (some (.int .i64 0), 1, 8) := by kernel_rfl
theorem made_row {w : World} {b k n : Nat} (h : w.ownsRow b 2 1 (.slice (some ⟨k, 0, none⟩) n n) n (madeCells (Value.int .i64 0).cells (n * 1)).toList) :
  w.heap[k]? = some (.cells ((List.replicate n (0 : Int)).map (Value.int .i64)).toArray 2 (0, 0)) := by
 obtain ⟨h1, h2⟩ := h
 rcases h2 with ⟨e, _⟩ | ⟨k', cap, cur, hv, hb, hh, h3, h4, h5, h6⟩
 ·cases e
 ·cases hv
  rw [hh]
  have : cur.toList = (List.replicate n (0 : Int)).map (Value.int .i64) := by
   rw [<- List.take_of_length_le (l := cur.toList) (i := n * 1) (by simp; omega), h6]
   show (madeCells #[Value.int .i64 0] (n * 1)).toList = _
   rw [toList_madeCells_one]
   simp
  rw [<- this]
theorem new_top {w : World} {k : Nat} (o : Obj) (h : w.heap.size = k) : (w.alloc o).heap[k]? = some o := by
 subst h; exact heap_alloc_new _ _
theorem after_make {w w1 : World} {a b : Value} {t : TypeId} (hg : (w.alloc (.cells #[a, b] t)).grownBy w1 none) :
  w1.cell? ⟨w.heap.size, 0, none⟩ = some a /\ w1.cell? ⟨w.heap.size, 1, none⟩ = some b /\ w1.frozen? ⟨w.heap.size, 0, none⟩ = false /\ w1.frozen? ⟨w.heap.size, 1, none⟩ = false /\ w.heap.size < w1.heap.size := by
 have hb := hg.block w.heap.size (by simp) (by simp)
 have hz := hg.size
 have e : (w.alloc (.cells #[a, b] t)).heap[w.heap.size]? = some (.cells #[a, b] t) := heap_alloc_new _ _
 rw [e] at hb
 refine ⟨?_, ?_, ?_, ?_, by simp at hz; omega⟩ <;> simp [World.cell?, World.frozen?, hb]
theorem new_yes (n o : Int) (w : World) (h0 : 16 <= n) (h1 : n <= 256) (h2 : 0 <= o) (h3 : o <= 1024) :
  Calls Tryz.prog 103 #[.int .i64 n, .int .i64 o] w fun e w' => ∃ p q, e = .returned (.tuple #[.pointer (some ⟨p, 0, none⟩), .agg #[.int .i64 0, .int .i64 0]]) /\ At w' p q n.toNat o.toNat 0 0 (List.replicate (n.toNat + o.toNat) 0) /\ w.heap.size <= p /\ w.heap.size <= q /\ Below w.heap.size w w' := by
 obtain ⟨n, rfl⟩ := Int.eq_ofNat_of_zero_le (show 0 <= n by omega)
 obtain ⟨o, rfl⟩ := Int.eq_ofNat_of_zero_le h2
 simp only [Int.toNat_natCast]
 obtain ⟨i0, hi, hz0, hz1, hz2⟩ := info_parts info64A
 go_enter Tryz.func103, Tryz.ntmps103
 go_wp2_with (at_make; refine wpList_make_full _ rfl _ _ 42 rfl w.heap.size 2 i0 (.int .i64 0) 1 Tryz.underlying42 hi hz0 hz1 .i64 .i64 _ _ (n + o) rfl rfl (by omega) (by omega) (by rw [hz2]; omega) (by unfold maxLen; omega) (by simp) ?_; intro w1 hown hgrow; obtain ⟨c0, c1, f0, f1, hz⟩ := after_make hgrow)
 have hr := made_row hown
 simp only [World.size_alloc] at hr
 have hlt := lt_of_some hr
 refine bodyPost_ret (v := .tuple #[.pointer (some ⟨w1.heap.size, 0, none⟩), .agg #[.int .i64 0, .int .i64 0]]) (by simp [results, Tryz.results103, go_sem, c0, c1, hz]) rfl ⟨w1.heap.size, w.heap.size + 1, rfl, ⟨?_, ?_, by simp, by omega, by omega, by omega, by omega, by omega⟩, by omega, by omega, ?_⟩
 ·exact new_top _ (by simp [World.setCell])
 ·refine (Below.heap_alloc _ _ _ (by simp [World.setCell]; omega)).trans ?_
  rw [Below.heap_setCell _ _ _ _ (by simp), Below.heap_setCell _ _ _ _ (by simp)]
  exact hr
 ·refine Below.alloc (Below.setCell (Below.setCell ?_ ?_ _) ?_ _) ?_ _
  ·exact ((Below.refl _ _).alloc (Nat.le_refl _) _).grown hgrow (by simp) (fun _ h => by cases h)
  ·exact Nat.le_refl _
  ·exact Nat.le_refl _
  ·simp [World.setCell]; omega
theorem new_no (n o : Int) (w : World) (h : n < 16 \/ 256 < n \/ o < 0 \/ 1024 < o) :
  Calls Tryz.prog 103 #[.int .i64 n, .int .i64 o] w fun e w' => e = .returned (.tuple #[.pointer none, .agg #[.int .i64 1, .int .i64 (-1)]]) /\ Below w.heap.size w w' := by
 by_cases h1 : n < 16
 ·go_enter Tryz.func103, Tryz.ntmps103
  go_wp2_with fail
  exact bodyPost_ret (v := .tuple #[.pointer none, .agg #[.int .i64 1, .int .i64 (-1)]]) (by simp [results, Tryz.results103, go_sem]) rfl ⟨rfl, (Below.refl _ _).alloc (Nat.le_refl _) _⟩
 by_cases h2 : 256 < n
 ·go_enter Tryz.func103, Tryz.ntmps103
  go_wp2_with fail
  exact bodyPost_ret (v := .tuple #[.pointer none, .agg #[.int .i64 1, .int .i64 (-1)]]) (by simp [results, Tryz.results103, go_sem]) rfl ⟨rfl, (Below.refl _ _).alloc (Nat.le_refl _) _⟩
 by_cases h3 : o < 0
 ·go_enter Tryz.func103, Tryz.ntmps103
  go_wp2_with fail
  exact bodyPost_ret (v := .tuple #[.pointer none, .agg #[.int .i64 1, .int .i64 (-1)]]) (by simp [results, Tryz.results103, go_sem]) rfl ⟨rfl, (Below.refl _ _).alloc (Nat.le_refl _) _⟩
 have h4 : 1024 < o := by omega
 go_enter Tryz.func103, Tryz.ntmps103
 go_wp2_with fail
 exact bodyPost_ret (v := .tuple #[.pointer none, .agg #[.int .i64 1, .int .i64 (-1)]]) (by simp [results, Tryz.results103, go_sem]) rfl ⟨rfl, (Below.refl _ _).alloc (Nat.le_refl _) _⟩
end Go.Proofs.YtnalfnlmaallmaaGreat

namespace Go.Proofs.YtnalfnlmaallmaaGreat
set_option maxRecDepth 100000
set_option maxHeartbeats 1000000
open Go.RowKit W
def fil (ws : List Int) (y : Nat) (hd : Int) : Nat -> List Int
 | 0 => ws.set y hd
 | k + 1 => (fil ws y hd k).set (y + 1 + k) 2
theorem make_yes {p q N O y g : Nat} {ws : List Int} (k f : Int) (w : World) (h : At w p q N O y g ws) (hk : hc k f = 0) (hr : f + 1 <= (N : Int) - y) :
  Calls Tryz.prog 50 #[.pointer (some ⟨p, 0, none⟩), .int .i64 k, .int .i64 f] w fun e w' => e = .returned (.int .i64 y) /\ At w' p q N O (y + 1 + f.toNat) g (fil ws y (hw k f) f.toNat) /\ Sv p q w w' := by
 obtain ⟨_, _, f0, f1⟩ := hc_bd k f hk
 obtain ⟨f, rfl⟩ := Int.eq_ofNat_of_zero_le f0
 simp only [Int.toNat_natCast]
 have H : Hid (hc k f = 0) := hk
 clear hk
 have k1 := h.hN'
 have k2 := h.hy
 have k3 := h.hO
 have k4 := h.hg
 go_enter Tryz.func50, Tryz.ntmps50
 go_wp2_with fail
 refine (head_any k f _).mono ?_
 rintro e w1 ⟨rfl, rfl⟩
 rw [H.out]
 obtain ⟨c0, c1, c2, c3, c4, c5, c6⟩ := h.cells
 go_wp2_with fail
 refine (takeY_yes (1 + f) _ h (by omega) (by omega)).mono ?_
 rintro e w2 ⟨rfl, h2, s2⟩
 rw [show (1 + (f : Int)).toNat = 1 + f by omega] at h2
 obtain ⟨c0, c1, c2, c3, c4, c5, c6⟩ := h2.cells
 have cw := h2.word y (by omega)
 have cf := h2.frozenq y
 have b1 : (y : Int) < ((N + O : Nat) : Int) := by omega
 go_wp2_with fail
 go_loopw [39] (fun i wr => ∃ j : Nat, j <= f /\ i = .int .i64 j /\ At wr p q N O (y + (1 + f)) g (fil ws y (hw k f) j) /\ Sv p q w1 wr) (fun i _ => f - (intOf i).toNat)
 case atStart => exact ⟨0, Nat.zero_le _, rfl, h2.set y _, s2.trans (Sv.setq _ _)⟩
 case round =>
  obtain ⟨j, hj, rfl, hA, hS⟩ := hrel
  clear c0 c1 c2 c3 c4 c5 c6 cw cf
  obtain ⟨c0, c1, c2, c3, c4, c5, c6⟩ := hA.cells
  by_cases hlt : j < f
  ·have cw := hA.word (y + 1 + j) (by omega)
   have cf := hA.frozenq (y + 1 + j)
   have b2 : (y : Int) + 1 + j < ((N + O : Nat) : Int) := by omega
   go_wp2_with fail
   have b3 : (0 : Int) <= (y : Int) + 1 + j := by omega
   have b4 : ((y : Int) + 1 + j).toNat = y + 1 + j := by omega
   have b5 : (y : Int) + 1 + j < (N : Int) + O := by omega
   have b6 : IntKind.i64.wrap ((y : Int) + 1) = (y : Int) + 1 := by rw [IntKind.wrap_i64]; omega
   have b7 : IntKind.i64.wrap ((y : Int) + 1 + j) = (y : Int) + 1 + j := by rw [IntKind.wrap_i64]; omega
   go_region_with (go_at_call 56; refine (nil_any _).mono ?_; rintro e w3 ⟨rfl, rfl⟩)
   all_goals
    go_wp2_with fail
    go_roundw
    case rel => exact ⟨j + 1, by omega, by go_num, hA.drew.set _ _, hS.drew.trans (Sv.setq _ _)⟩
    case measure => simp [intOf]; omega
  ·go_wp2_with fail
   go_ret
   have e : j = f := by omega
   subst e
   exact ⟨rfl, by rw [Nat.add_assoc]; exact hA, hS⟩
theorem make_no {p q N O y g : Nat} {ws : List Int} (k f : Int) (w : World) (h : At w p q N O y g ws) (hk : hc k f ≠ 0 \/ (N : Int) - y < f + 1) :
  Calls Tryz.prog 50 #[.pointer (some ⟨p, 0, none⟩), .int .i64 k, .int .i64 f] w fun e w' => e = .returned (.int .i64 (-1)) /\ Below w.heap.size w w' := by
 by_cases c : hc k f = 0
 ·obtain ⟨_, _, f0, f1⟩ := hc_bd k f c
  have hr : (N : Int) - y < f + 1 := by
   rcases hk with e | e
   ·exact absurd c e
   ·exact e
  have H : Hid (hc k f = 0) := c
  clear c hk
  have k1 := h.hN'
  have k2 := h.hy
  go_enter Tryz.func50, Tryz.ntmps50
  go_wp2_with fail
  refine (head_any k f _).mono ?_
  rintro e w1 ⟨rfl, rfl⟩
  rw [H.out]
  obtain ⟨c0, c1, c2, c3, c4, c5, c6⟩ := h.cells
  go_wp2_with fail
  refine (takeY_no (1 + f) _ h (by omega)).mono ?_
  rintro e w2 ⟨rfl, hb⟩
  go_wp2_with fail
  go_ret
  exact ⟨rfl, hb⟩
 ·have t : (hc k f != 0) = true := by simpa using c
  clear c hk
  go_enter Tryz.func50, Tryz.ntmps50
  go_wp2_with fail
  refine (head_any k f _).mono ?_
  rintro e w1 ⟨rfl, rfl⟩
  go_wp2_with fail
  go_ret
  exact ⟨rfl, Below.refl _ _⟩
end Go.Proofs.YtnalfnlmaallmaaGreat

namespace Go.Proofs.YtnalfnlmaallmaaGreat
set_option maxRecDepth 100000
set_option maxHeartbeats 1000000
open Go.RowKit W
theorem has_yes {p q N O y g : Nat} {ws : List Int} (a n : Int) (w : World) (h : At w p q N O y g ws) (h0 : 0 <= a) (h1 : 0 <= n) (h2 : a + n <= (N : Int) + O) :
  Calls Tryz.prog 239 #[.pointer (some ⟨p, 0, none⟩), .int .i64 a, .int .i64 n] w fun e w' => e = .returned (.bool true) /\ w' = w := by
 obtain ⟨c0, c1, c2, c3, c4, c5, c6⟩ := h.cells
 have k1 := h.hN'
 have k3 := h.hO
 have b1 : n <= ((N + O : Nat) : Int) - a := by omega
 go_enter Tryz.func239, Tryz.ntmps239
 go_wp2_with fail
 go_ret
 exact ⟨by simp; omega, rfl⟩
def Mv (w w' : World) (g : Nat) (cur : List Value) (off : Nat) (cs : List Value) : Prop :=
 (cs = [] /\ w' = w) \/ w' = w.setRow g (splice cur off cs).toArray
theorem step_copy_mv {P : Program} {ops : Array Oper} {o : Oper} {a : Act} {w : World} {K : Act -> World -> Prop} {Q : Exit -> Act -> World -> Prop} {E : Prop} (hgd : o.guard = none) (d s : Operand) (dT sT elem : TypeId)
  (ho : o.op = .call { callee := .builtin .copy, args := #[d, s], argTypes := #[dT, sT] }) (hu : P.underlying dT = some (.slice elem)) (hsz : (P.info? elem).map (·.size) = some 1)
  (dp sp : Option Addr) (dLen dCap sLen sCap : Nat) (hd : a.eval d = .slice dp dLen dCap) (hs : a.eval s = .slice sp sLen sCap)
  (g off : Nat) (cur : List Value) (t : TypeId) (hg : w.heap[g]? = some (.cells cur.toArray t (0, 0))) (cs : List Value) (hn : cs.length = Nat.min sLen dLen)
  (hpos : 0 < cs.length -> dp = some ⟨g, off, none⟩ /\ ∃ ad, sp = some ad /\ ∀ j v, cs[j]? = some v -> w.cell? (ad.add j) = some v)
  (hfit : off + cs.length <= cur.length) (h1 : ∀ v ∈ cs, v.oneCell' = true)
  (h : ∀ w', Mv w w' g cur off cs -> K (a.put o.dst (goInt cs.length)) w') :
  if Region.wanted o (yielded ops a.tmps) = true then Oper.wp P o a w K Q else E := by
 rw [if_pos (show Region.wanted o (yielded ops a.tmps) = true by simp [Region.wanted, hgd])]
 rcases Nat.eq_zero_or_pos cs.length with h0 | h0
 ·have ec : cs = [] := List.eq_nil_of_length_eq_zero h0
  subst ec
  have hrun := run_copy_none (P := P) w dT sT o.type elem dp sp dLen dCap sLen sCap hu hsz (by simpa using hn.symm)
  unfold Oper.wp
  simp [execOp, ho, resolve, invoke, builtin, hd, hs, hrun, Result.andThen]
  exact h w (Or.inl ⟨rfl, rfl⟩)
 ·obtain ⟨ed, ad, es, hsrc⟩ := hpos h0
  subst ed es
  have hrun := run_copy_row (P := P) w dT sT o.type elem g off dLen dCap ad sLen sCap cur.toArray t cs hu hsz hg hn hsrc (by simpa using hfit) h1
  unfold Oper.wp
  simp [execOp, ho, resolve, invoke, builtin, hd, hs, hrun, Result.andThen]
  exact h _ (Or.inr (by simp [splice]))
theorem size64 : (Tryz.prog.info? 2).map (·.size) = some 1 := by kernel_rfl
theorem ints_one (l : List Int) : ∀ v ∈ l.map (Value.int .i64), v.oneCell' = true := by
 intro v hv
 obtain ⟨x, _, rfl⟩ := List.mem_map.1 hv
 rfl
theorem splice_map (ws cs : List Int) (t : Nat) : splice (ws.map (Value.int .i64)) t (cs.map (Value.int .i64)) = (splice ws t cs).map (Value.int .i64) := by
 simp [splice, List.map_take, List.map_drop]
theorem At.moved {w w' : World} {p q N O y g : Nat} {ws cs : List Int} {t : Nat} (h : At w p q N O y g ws) (hm : Mv w w' q (ws.map (Value.int .i64)) t (cs.map (Value.int .i64))) (hf : t + cs.length <= N + O) :
  At w' p q N O y g (splice ws t cs) /\ Sv p q w w' := by
 rcases hm with ⟨e, rfl⟩ | rfl
 ·have ec : cs = [] := by simpa using e
  subst ec
  have e2 : splice ws t [] = ws := by simp [splice]
  rw [e2]
  exact ⟨h, Sv.refl _ _ _⟩
 ·rw [splice_map]
  exact ⟨h.row (by rw [length_splice _ _ _ (by rw [h.hl]; exact hf)]; exact h.hl), Sv.rowq _⟩
theorem At.src {w : World} {p q N O y g : Nat} {ws : List Int} (h : At w p q N O y g ws) (f n : Nat) (hf : f + n <= N + O) (j : Nat) (v : Value) (hv : (((ws.drop f).take n).map (Value.int .i64))[j]? = some v) :
  w.cell? ((⟨q, f, none⟩ : Addr).add j) = some v := by
 have hl := h.hl
 rw [List.getElem?_map] at hv
 obtain ⟨x, hx, rfl⟩ := Option.map_eq_some_iff.1 hv
 have hj : j < ((ws.drop f).take n).length := (List.getElem?_eq_some_iff.1 hx).1
 have hj' : j < n := by simp at hj; omega
 have := h.word (f + j) (by omega)
 rw [show ((⟨q, f, none⟩ : Addr).add j) = ⟨q, f + j, none⟩ by simp [Addr.add], this]
 rw [List.getElem?_take_of_lt hj', List.getElem?_drop] at hx
 simp [List.getD_eq_getElem?_getD, hx]
theorem move_any {p q N O y g : Nat} {ws : List Int} (t f n : Nat) (w : World) (hA : At w p q N O y g ws) (h1 : t + n <= N + O) (h2 : f + n <= N + O) :
    Calls Tryz.prog 214 #[.pointer (some ⟨p, 0, none⟩), .int .i64 t, .int .i64 f, .int .i64 n] w fun e w' => e = .returned (.tuple #[]) /\ At w' p q N O y g (splice ws t ((ws.drop f).take n)) /\ Sv p q w w' := by
  obtain ⟨c0, c1, c2, c3, c4, c5, c6⟩ := hA.cells
  have k1 := hA.hN'
  have k3 := hA.hO
  have hl := hA.hl
  have b1 : IntKind.i64.wrap ((t : Int) + n) = (t : Int) + n := by rw [IntKind.wrap_i64]; omega
  have b2 : IntKind.i64.wrap ((f : Int) + n) = (f : Int) + n := by rw [IntKind.wrap_i64]; omega
  have b3 : (t : Int) + n <= (N : Int) + O := by omega
  have b4 : (f : Int) + n <= (N : Int) + O := by omega
  have b5 : ((t : Int) + n).toNat = t + n := by omega
  have b6 : ((f : Int) + n).toNat = f + n := by omega
  have b7 : (0 : Int) <= (t : Int) + n := by omega
  have b8 : (0 : Int) <= (f : Int) + n := by omega
  have hlen : ((ws.drop f).take n).length = n := by simp; omega
  have Hn : Hid ((((ws.drop f).take n).map (Value.int .i64)).length = Nat.min n n) := by show _ = _; rw [List.length_map, hlen]; simp
  have Hp : Hid (0 < (((ws.drop f).take n).map (Value.int .i64)).length -> (if N + O = t then some (⟨q, 0, none⟩ : Addr) else some ⟨q, t, none⟩) = some ⟨q, t, none⟩ /\ ∃ ad, (if N + O = f then some (⟨q, 0, none⟩ : Addr) else some ⟨q, f, none⟩) = some ad /\ ∀ j v, (((ws.drop f).take n).map (Value.int .i64))[j]? = some v -> w.drew.cell? (ad.add j) = some v) := by
    intro hpos
    rw [List.length_map, hlen] at hpos
    rw [if_neg (by omega), if_neg (by omega)]
    exact ⟨rfl, _, rfl, fun j v hv => hA.drew.src f n h2 j v hv⟩
  have Hf : Hid (t + (((ws.drop f).take n).map (Value.int .i64)).length <= (ws.map (Value.int .i64)).length) := by show _ <= _; rw [List.length_map, List.length_map, hlen]; omega
  clear hlen hl
  go_enter Tryz.func214, Tryz.ntmps214
  go_wp2_with (go_at_call 239; refine (has_yes _ _ _ hA ?_ ?_ ?_).mono ?_; omega; omega; omega; rintro e w1 ⟨rfl, hw⟩; have hw := hw.symm; subst hw)
  go_region_law (refine step_copy_mv rfl (.tmp 26) (.tmp 35) 42 42 2 rfl Tryz.underlying42 size64 (if N + O = t then some ⟨q, 0, none⟩ else some ⟨q, t, none⟩) (if N + O = f then some ⟨q, 0, none⟩ else some ⟨q, f, none⟩) n (N + O - t) n (N + O - f) ?_ ?_ q t (ws.map (Value.int .i64)) 2 hA.drew.hq (((ws.drop f).take n).map (Value.int .i64)) Hn.out Hp.out Hf.out (ints_one _) ?_; (first | rfl | simp [Act.eval, Act.put]); (first | rfl | simp [Act.eval, Act.put]); intro w4 hm4; obtain ⟨hx1, hx2⟩ := hA.drew.moved hm4 (by simp; omega); clear hm4)
  all_goals go_wp2_with fail
  all_goals
    go_end0
    refine ⟨rfl, ?_, (Sv.refl _ _ _).drew.trans hx2⟩
    first
      | exact hx1
      | (have e : t = f := (by omega)
         subst e
         exact hx1)
end Go.Proofs.YtnalfnlmaallmaaGreat

namespace Go.Proofs.YtnalfnlmaallmaaGreat
set_option maxRecDepth 100000
set_option maxHeartbeats 1000000
open Go.RowKit W
theorem pc_bd (x : Int) (h : pc x = 0) : 0 <= pf x /\ pf x <= 12 := by
 have := hc_bd _ _ (head_parts x h).1
 omega
theorem pc_zero : pc 0 = 7 := by decide +kernel
theorem pc_iB {N y g : Nat} {ws : List Int} {a : Int} (h : pc (ld N y g ws a) = 0) : iB N y g a = true := by
 cases hi : iB N y g a
 ·have e : ld N y g ws a = 0 := by simp [ld, hi]
  rw [e, pc_zero] at h
  omega
 ·rfl
def endA (N y g : Nat) (a : Int) : Int := if hB 0 y a = true then (y : Int) else (N : Int) + g
theorem cells3 {w w1 : World} {a b c : Value} {t : TypeId} (hb : Below (w.alloc (.cells #[a, b, c] t)).heap.size (w.alloc (.cells #[a, b, c] t)) w1) :
  w1.cell? ⟨w.heap.size, 0, none⟩ = some a /\ w1.cell? ⟨w.heap.size, 1, none⟩ = some b /\ w1.cell? ⟨w.heap.size, 2, none⟩ = some c /\ w1.frozen? ⟨w.heap.size, 0, none⟩ = false /\ w1.frozen? ⟨w.heap.size, 1, none⟩ = false /\ w1.frozen? ⟨w.heap.size, 2, none⟩ = false /\ w.heap.size < w1.heap.size := by
 obtain ⟨hc, hf⟩ := bcell hb
 have hz := hb.size
 refine ⟨?_, ?_, ?_, ?_, ?_, ?_, by simp at hz; omega⟩
 ·rw [hc _ _ (by simp)]; simp [go_sem]
 ·rw [hc _ _ (by simp)]; simp [go_sem]
 ·rw [hc _ _ (by simp)]; simp [go_sem]
 ·rw [hf _ _ (by simp)]; simp [go_sem]
 ·rw [hf _ _ (by simp)]; simp [go_sem]
 ·rw [hf _ _ (by simp)]; simp [go_sem]
theorem spaceOf_y {p q N O y g : Nat} {ws : List Int} (a : Int) (w : World) (h : At w p q N O y g ws) (hy : hB 0 y a = true) :
  Calls Tryz.prog 233 #[.pointer (some ⟨p, 0, none⟩), .int .i64 a] w fun e w' => e = .returned (.agg #[.int .i64 0, .int .i64 N, .int .i64 y]) /\ Below w.heap.size w w' := by
 have HY : Hid (hB 0 y a = true) := hy
 clear hy
 go_enter Tryz.func233, Tryz.ntmps233
 go_wp2_with fail
 refine (young_any a _ (h.alloc _)).mono ?_
 rintro e w1 ⟨rfl, hb1⟩
 rw [HY.out]
 obtain ⟨d0, d1, d2, f0, f1, f2, hz⟩ := cells3 hb1
 have h1 := (h.alloc _).below hb1 (Nat.le_refl _)
 obtain ⟨c0, c1, c2, c3, c4, c5, c6⟩ := h1.cells
 go_wp2_with fail
 exact bodyPost_ret (v := .agg #[.int .i64 0, .int .i64 N, .int .i64 y]) (by simp [results, Tryz.results233, go_sem, d0, d1, d2]) rfl ⟨rfl, (((((Below.refl _ _).alloc (Nat.le_refl _) _).trans (hb1.mono (by simp))).setCell (Nat.le_refl _) _).setCell (Nat.le_refl _) _).setCell (Nat.le_refl _) _⟩
theorem spaceOf_o {p q N O y g : Nat} {ws : List Int} (a : Int) (w : World) (h : At w p q N O y g ws) (hy : hB 0 y a = false) :
  Calls Tryz.prog 233 #[.pointer (some ⟨p, 0, none⟩), .int .i64 a] w fun e w' => e = .returned (.agg #[.int .i64 N, .int .i64 O, .int .i64 g]) /\ Below w.heap.size w w' := by
 have HY : Hid (hB 0 y a = false) := hy
 clear hy
 go_enter Tryz.func233, Tryz.ntmps233
 go_wp2_with fail
 refine (young_any a _ (h.alloc _)).mono ?_
 rintro e w1 ⟨rfl, hb1⟩
 rw [HY.out]
 obtain ⟨d0, d1, d2, f0, f1, f2, hz⟩ := cells3 hb1
 have h1 := (h.alloc _).below hb1 (Nat.le_refl _)
 obtain ⟨c0, c1, c2, c3, c4, c5, c6⟩ := h1.cells
 go_wp2_with fail
 exact bodyPost_ret (v := .agg #[.int .i64 N, .int .i64 O, .int .i64 g]) (by simp [results, Tryz.results233, go_sem, d0, d1, d2]) rfl ⟨rfl, (((((Below.refl _ _).alloc (Nat.le_refl _) _).trans (hb1.mono (by simp))).setCell (Nat.le_refl _) _).setCell (Nat.le_refl _) _).setCell (Nat.le_refl _) _⟩
theorem spaceEnd {p q N O y g : Nat} {ws : List Int} (a : Int) (w : World) (h : At w p q N O y g ws) : ∃ b s u : Int, 0 <= b /\ b <= 100000 /\ 0 <= u /\ u <= 100000 /\ b + u = endA N y g a /\
  Calls Tryz.prog 233 #[.pointer (some ⟨p, 0, none⟩), .int .i64 a] w fun e w' => e = .returned (.agg #[.int .i64 b, .int .i64 s, .int .i64 u]) /\ Below w.heap.size w w' := by
 have k1 := h.hN'
 have k2 := h.hy
 have k3 := h.hO
 have k4 := h.hg
 cases hy : hB 0 y a
 ·exact ⟨N, O, g, by omega, by omega, by omega, by omega, by simp [endA, hy], spaceOf_o a w h hy⟩
 ·exact ⟨0, N, y, by omega, by omega, by omega, by omega, by simp [endA, hy], spaceOf_y a w h hy⟩
theorem en_bd {N O y g : Nat} {a : Int} (hN : N <= 256) (hO : O <= 1024) (hy : y <= N) (hg : g <= O) : 0 <= endA N y g a /\ endA N y g a <= 1280 := by
 unfold endA
 split <;> omega
theorem copy_yes {p q N O y g : Nat} {ws : List Int} (a : Int) (w : World) (h : At w p q N O y g ws) (hp : pc (ld N y g ws a) = 0) (hr : 1 + pf (ld N y g ws a) <= endA N y g a - a) (hg : 1 + pf (ld N y g ws a) <= (O : Int) - g) :
  Calls Tryz.prog 193 #[.pointer (some ⟨p, 0, none⟩), .int .i64 a] w fun e w' => e = .returned (.int .i64 (N + g : Nat)) /\ At w' p q N O y (g + (1 + (pf (ld N y g ws a)).toNat)) (splice ws (N + g) ((ws.drop a.toNat).take (1 + (pf (ld N y g ws a)).toNat))) /\ Sv p q w w' := by
 obtain ⟨f0, f1⟩ := pc_bd _ hp
 have hi := pc_iB hp
 obtain ⟨d1, d2⟩ := iB_bd hi h.hy h.hg
 clear hi
 have k1 := h.hN'
 have k2 := h.hy
 have k3 := h.hO
 have k4 := h.hg
 have k5 := @en_bd N O y g a k1 k3 k2 k4
 have k6 : endA N y g a <= (N : Int) + O := by unfold endA; split <;> omega
 have HP : Hid (pc (ld N y g ws a) = 0) := hp
 clear hp
 obtain ⟨a, rfl⟩ := Int.eq_ofNat_of_zero_le d1
 rw [Int.toNat_natCast]
 obtain ⟨n, hn⟩ := Int.eq_ofNat_of_zero_le f0
 have HN : Hid (pf (ld N y g ws a) = n) := hn
 rw [hn] at hr hg f1 f0 ⊢
 clear hn
 rw [Int.toNat_natCast]
 go_enter Tryz.func193, Tryz.ntmps193
 go_wp2_with fail
 refine (thing_any a _ h).mono ?_
 rintro e w1 ⟨rfl, hb1⟩
 rw [HP.out, HN.out]
 have h1 := h.below hb1 (Nat.le_refl _)
 go_wp2_with fail
 obtain ⟨b, s, u, e1, e2, e3, e4, e5, hc⟩ := spaceEnd a w1 h1
 refine hc.mono ?_
 rintro e w2 ⟨rfl, hb2⟩
 clear hc
 have h2 := h1.below hb2 (Nat.le_refl _)
 go_wp2_with fail
 refine (end_any b s u _ e1 e2 e3 e4).mono ?_
 rintro e w3 ⟨rfl, hb3⟩
 have E5 : Hid (b + u = endA N y g a) := e5
 clear e5
 rw [E5.out]
 have h3 := h2.below hb3 (Nat.le_refl _)
 obtain ⟨c0, c1, c2, c3, c4, c5, c6⟩ := h3.cells
 go_wp2_with fail
 refine (takeG_yes (1 + n) _ h3 (by omega) (by omega)).mono ?_
 rintro e w4 ⟨rfl, h4, s4⟩
 rw [show (1 + (n : Int)).toNat = 1 + n by omega] at h4
 go_wp2_with fail
 rw [show (1 + (n : Int)) = ((1 + n : Nat) : Int) by omega]
 refine (move_any (N + g) a (1 + n) _ h4 (by omega) (by omega)).mono ?_
 rintro e w5 ⟨rfl, h5, s5⟩
 go_wp2_with fail
 go_ret
 exact ⟨rfl, h5, (((Sv.of hb1).trans (Sv.of hb2)).trans (Sv.of hb3)).trans (s4.trans s5)⟩
theorem copy_no {p q N O y g : Nat} {ws : List Int} (a : Int) (w : World) (h : At w p q N O y g ws) (hx : pc (ld N y g ws a) ≠ 0 \/ endA N y g a - a < 1 + pf (ld N y g ws a) \/ (O : Int) - g < 1 + pf (ld N y g ws a)) :
  Calls Tryz.prog 193 #[.pointer (some ⟨p, 0, none⟩), .int .i64 a] w fun e w' => e = .returned (.int .i64 (-1)) /\ Below w.heap.size w w' := by
 by_cases hp : pc (ld N y g ws a) = 0
 ·obtain ⟨f0, f1⟩ := pc_bd _ hp
  have hi := pc_iB hp
  obtain ⟨d1, d2⟩ := iB_bd hi h.hy h.hg
  clear hi
  have k1 := h.hN'
  have k2 := h.hy
  have k3 := h.hO
  have k4 := h.hg
  have k5 := @en_bd N O y g a k1 k3 k2 k4
  have hx' : endA N y g a - a < 1 + pf (ld N y g ws a) \/ (O : Int) - g < 1 + pf (ld N y g ws a) := by
   rcases hx with e | e
   ·exact absurd hp e
   ·exact e
  have HP : Hid (pc (ld N y g ws a) = 0) := hp
  clear hp hx
  by_cases hr : endA N y g a - a < 1 + pf (ld N y g ws a)
  ·clear hx'
   go_enter Tryz.func193, Tryz.ntmps193
   go_wp2_with fail
   refine (thing_any a _ h).mono ?_
   rintro e w1 ⟨rfl, hb1⟩
   rw [HP.out]
   have h1 := h.below hb1 (Nat.le_refl _)
   go_wp2_with fail
   obtain ⟨b, s, u, e1, e2, e3, e4, e5, hc⟩ := spaceEnd a w1 h1
   refine hc.mono ?_
   rintro e w2 ⟨rfl, hb2⟩
   clear hc
   go_wp2_with fail
   refine (end_any b s u _ e1 e2 e3 e4).mono ?_
   rintro e w3 ⟨rfl, hb3⟩
   have E5 : Hid (b + u = endA N y g a) := e5
   clear e5
   rw [E5.out]
   go_wp2_with fail
   go_ret
   exact ⟨rfl, (hb1.trans (hb2.mono hb1.size)).trans (hb3.mono (Nat.le_trans hb1.size hb2.size))⟩
  ·have hg : (O : Int) - g < 1 + pf (ld N y g ws a) := by omega
   clear hx'
   go_enter Tryz.func193, Tryz.ntmps193
   go_wp2_with fail
   refine (thing_any a _ h).mono ?_
   rintro e w1 ⟨rfl, hb1⟩
   rw [HP.out]
   have h1 := h.below hb1 (Nat.le_refl _)
   go_wp2_with fail
   obtain ⟨b, s, u, e1, e2, e3, e4, e5, hc⟩ := spaceEnd a w1 h1
   refine hc.mono ?_
   rintro e w2 ⟨rfl, hb2⟩
   clear hc
   have h2 := h1.below hb2 (Nat.le_refl _)
   go_wp2_with fail
   refine (end_any b s u _ e1 e2 e3 e4).mono ?_
   rintro e w3 ⟨rfl, hb3⟩
   have E5 : Hid (b + u = endA N y g a) := e5
   clear e5
   rw [E5.out]
   have h3 := h2.below hb3 (Nat.le_refl _)
   obtain ⟨c0, c1, c2, c3, c4, c5, c6⟩ := h3.cells
   go_wp2_with fail
   refine (takeG_no _ _ h3 (by omega)).mono ?_
   rintro e w4 ⟨rfl, hb4⟩
   go_wp2_with fail
   go_ret
   exact ⟨rfl, ((hb1.trans (hb2.mono hb1.size)).trans (hb3.mono (Nat.le_trans hb1.size hb2.size))).trans (hb4.mono (Nat.le_trans hb1.size (Nat.le_trans hb2.size hb3.size)))⟩
 ·have t : (pc (ld N y g ws a) != 0) = true := by simpa using hp
  clear hp hx
  go_enter Tryz.func193, Tryz.ntmps193
  go_wp2_with fail
  refine (thing_any a _ h).mono ?_
  rintro e w1 ⟨rfl, hb1⟩
  go_wp2_with fail
  go_ret
  exact ⟨rfl, hb1⟩
end Go.Proofs.YtnalfnlmaallmaaGreat

namespace Go.Proofs.YtnalfnlmaallmaaGreat
open Go.RowKit W
end Go.Proofs.YtnalfnlmaallmaaGreat
