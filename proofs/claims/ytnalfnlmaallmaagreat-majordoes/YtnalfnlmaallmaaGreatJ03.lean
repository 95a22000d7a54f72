/- Joined: Ar7, Ar8, Same, ABegun, Ar9, Sm, Sm1. -/
import Derived.Test.YtnalfnlmaallmaaGreatJ02
import Derived.Test.YtnalfnlmaallmaaGreatJ01
import Derived.Test.YtnalfnlmaallmaaGreatJ00
import Derived.Deep.QuietTactic
import Derived.Maps.AppendAt
namespace Go.Proofs.YtnalfnlmaallmaaGreat
set_option maxRecDepth 100000
set_option maxHeartbeats 1000000
open Go.RowKit W
structure Sb (B c : Nat) (w w' : World) : Prop where
  os : w'.os = w.os
  tape : w'.tape = w.tape
  output : w'.output = w.output
  size : w.heap.size <= w'.heap.size
  block : ∀ k, k < B -> k ≠ c -> w'.heap[k]? = w.heap[k]?
theorem Sb.refl (B c : Nat) (w : World) : Sb B c w w := ⟨rfl, rfl, rfl, Nat.le_refl _, fun _ _ _ => rfl⟩
theorem Sb.trans {B c : Nat} {a b d : World} (h : Sb B c a b) (k : Sb B c b d) : Sb B c a d :=
 ⟨k.os.trans h.os, k.tape.trans h.tape, k.output.trans h.output, Nat.le_trans h.size k.size, fun i hi h1 => (k.block i hi h1).trans (h.block i hi h1)⟩
theorem Sb.of {B D c : Nat} {w w' : World} (h : Below D w w') (hD : B <= D) : Sb B c w w' := ⟨h.os, h.tape, h.output, h.size, fun k hk _ => h.block k (by omega)⟩
theorem Sb.below {B D c : Nat} {w w' : World} (h : Sb B c w w') (hD : D <= B) (hc : D <= c) : Below D w w' := ⟨h.os, h.tape, h.output, h.size, fun k hk => h.block k (by omega) (by omega)⟩
theorem owned_below {w w' : World} {base n : Nat} {e : TypeId} {v : Value} {l : List Value} (h : w.ownsRow base e 1 v n l) (hb : Below w.heap.size w w') : w'.ownsRow base e 1 v n l := by
 obtain ⟨h1, h2⟩ := h
 refine ⟨h1, ?_⟩
 rcases h2 with h2 | ⟨b, cap, cur, hv, hb', hh, r⟩
 ·exact Or.inl h2
 ·exact Or.inr ⟨b, cap, cur, hv, hb', (hb.block b (lt_of_some hh)).trans hh, r⟩
theorem owned_mono {w : World} {base base' n : Nat} {e : TypeId} {v : Value} {l : List Value} (h : w.ownsRow base e 1 v n l) (hb : base' <= base) : w.ownsRow base' e 1 v n l := by
 obtain ⟨h1, h2⟩ := h
 refine ⟨h1, ?_⟩
 rcases h2 with h2 | ⟨b, cap, cur, hv, hb', r⟩
 ·exact Or.inl h2
 ·exact Or.inr ⟨b, cap, cur, hv, by omega, r⟩
theorem owned_sb {w w' : World} {base B c n : Nat} {e : TypeId} {v : Value} {l : List Value} (h : w.ownsRow base e 1 v n l) (hs : Sb B c w w') (hB : w.heap.size <= B) (hc : c < base) : w'.ownsRow base e 1 v n l := by
 obtain ⟨h1, h2⟩ := h
 refine ⟨h1, ?_⟩
 rcases h2 with h2 | ⟨b, cap, cur, hv, hb', hh, r⟩
 ·exact Or.inl h2
 ·exact Or.inr ⟨b, cap, cur, hv, hb', (hs.block b (by have := lt_of_some hh; omega) (by omega)).trans hh, r⟩
theorem infoInt : (Tryz.prog.info? 3).map (fun i => (i.zero, i.size, i.bytes)) = some (some (.int .i64 0), 1, 8) := by kernel_rfl
theorem own_not {w : World} {base n c : Nat} {e : TypeId} {v : Value} {l : List Value} (h : w.ownsRow base e 1 v n l) (hc : c < base) : some c ≠ v.ownBlock := by
 obtain ⟨_, h2⟩ := h
 rcases h2 with ⟨rfl, _⟩ | ⟨b, cap, cur, rfl, hb', _⟩
 ·simp [Value.ownBlock]
 ·simp [Value.ownBlock]; omega
theorem own_ge {w : World} {base n : Nat} {e : TypeId} {v : Value} {l : List Value} (h : w.ownsRow base e 1 v n l) : ∀ k, v.ownBlock = some k -> base <= k := by
 obtain ⟨_, h2⟩ := h
 intro k hk
 rcases h2 with ⟨rfl, _⟩ | ⟨b, cap, cur, rfl, hb', _⟩
 ·simp [Value.ownBlock] at hk
 ·simp [Value.ownBlock] at hk; omega
theorem own_shape {w : World} {base n : Nat} {e : TypeId} {v : Value} {l : List Value} (h : w.ownsRow base e 1 v n l) (hn : 0 < n) : ∃ b cap, v = .slice (some ⟨b, 0, none⟩) n cap := by
 obtain ⟨_, h2⟩ := h
 rcases h2 with ⟨_, h2⟩ | ⟨b, cap, cur, hv, _⟩
 ·omega
 ·exact ⟨b, cap, hv⟩
def ths (N y g : Nat) (ws : List Int) (hi : Int) : Nat -> Int -> List Int
 | 0, _ => []
 | k + 1, a => if a < hi then (if pc (ld N y g ws a) = 0 then a :: ths N y g ws hi k (a + (1 + pf (ld N y g ws a))) else []) else []
theorem ths_end {N y g : Nat} {ws : List Int} {hi a : Int} (k : Nat) (h : hi <= a) : ths N y g ws hi k a = [] := by
 cases k with
 | zero => rfl
 | succ k => unfold ths; rw [if_neg (by omega)]
theorem ths_no {N y g : Nat} {ws : List Int} {hi a : Int} (k : Nat) (h : pc (ld N y g ws a) ≠ 0) : ths N y g ws hi k a = [] := by
 cases k with
 | zero => rfl
 | succ k => unfold ths; rw [if_neg h]; split <;> rfl
theorem ths_yes {N y g : Nat} {ws : List Int} {hi a : Int} (k : Nat) (hk : hi - a <= k) (h : a < hi) (h2 : pc (ld N y g ws a) = 0) :
  ∃ k', k = k' + 1 /\ ths N y g ws hi k a = a :: ths N y g ws hi k' (a + (1 + pf (ld N y g ws a))) := by
 cases k with
 | zero => simp at hk; omega
 | succ k => exact ⟨k, rfl, by rw [ths, if_pos h, if_pos h2]⟩
theorem look1_any (a : Int) (c base : Nat) (v : Value) (L : List Int) (w : World) (hc : w.heap[c]? = some (.cells #[v] 81 (0, 0))) (hcb : c < base) (hB : base <= w.heap.size)
  (hown : w.ownsRow base 3 1 v L.length (L.map (Value.int .i64))) (hL : L.length <= 100000) :
  Calls Tryz.prog 191 #[.int .i64 a, .pointer (some ⟨c, 0, none⟩)] w fun e w' => e = .returned (.tuple #[]) /\ ∃ v', w'.heap[c]? = some (.cells #[v'] 81 (0, 0)) /\ w'.ownsRow base 3 1 v' (L ++ [a]).length ((L ++ [a]).map (Value.int .i64)) /\ Sb base c w w' := by
 obtain ⟨i0, hi, hz0, hz1, hz2⟩ := info_parts infoInt
 have cc : w.cell? ⟨c, 0, none⟩ = some v := by simp [World.cell?, hc]
 have HC : Hid (w.heap[c]? = some (.cells #[v] 81 (0, 0))) := hc
 clear hc
 have lc : c < w.heap.size := by omega
 go_enter Tryz.func191, Tryz.ntmps191
 go_wp2_with (at_builtin; refine wpList_append_own _ rfl _ _ 81 rfl base 3 i0 (.int .i64 0) 1 8 Tryz.underlying81 hi hz0 hz1 hz2 rfl (by decide) _ L.length (L.map (Value.int .i64)) rfl (hown.alloc _) ⟨w.heap.size, 0, none⟩ 1 1 [.int .i64 a] rfl rfl ?_ ?_ ?_ ?_ ?_ ?_; (intro j u hj; match j, hj with | 0, hj => (simp at hj; subst hj; simp [Addr.add])); (intro u hu; simp at hu; subst hu; rfl); (unfold maxLen; omega); omega; (simp; omega); intro v' w1 hown' hgrow _; obtain ⟨b1, cap1, ev'⟩ := own_shape hown' (Nat.succ_pos _); subst ev'; have hc1 : w1.heap[c]? = some (.cells #[v] 81 (0, 0)) := (hgrow.block c (by simp; omega) (own_not hown hcb)).trans ((Below.heap_alloc _ _ _ lc).trans HC.out); have cc1 : w1.cell? ⟨c, 0, none⟩ = some v := (by simp [World.cell?, hc1]); have cf1 : w1.frozen? ⟨c, 0, none⟩ = false := (by simp [World.frozen?, hc1]); have HC1 : Hid (w1.heap[c]? = some (.cells #[v] 81 (0, 0))) := hc1; clear hc1)
 go_end0
 refine ⟨rfl, .slice (some ⟨b1, 0, none⟩) (L.length + 1) cap1, ?_, ?_, ?_⟩
 ·have hc1 := HC1.out
  simp only [World.setCell, Array.getElem?_modify, if_true, hc1, Option.map_some]
  simp
 ·have := ownsRow_setCell_below hown' (a := ⟨c, 0, none⟩) hcb (.slice (some ⟨b1, 0, none⟩) (L.length + 1) cap1)
  simpa using this
 ·refine (Sb.of ((Below.refl base w).alloc hB _) (Nat.le_refl _)).trans (Sb.trans (Sb.of ((Below.refl base _).grown hgrow (by simp; omega) (own_ge hown)) (Nat.le_refl _)) ?_)
  exact ⟨rfl, rfl, rfl, by simp [World.setCell], fun k _ h1 => Below.heap_setCell _ _ _ _ h1⟩
theorem each1_any {p q N O y g : Nat} {ws : List Int} (b s u : Int) (c : Nat) (w : World) (h : At w p q N O y g ws) (hc : w.heap[c]? = some (.cells #[.slice none 0 0] 81 (0, 0))) (hpc : p ≠ c) (hqc : q ≠ c)
  (b0 : 0 <= b) (b1 : b <= 2000) (u0 : 0 <= u) (u1 : u <= 2000) :
  Calls Tryz.prog 190 #[.pointer (some ⟨p, 0, none⟩), .agg #[.int .i64 b, .int .i64 s, .int .i64 u], .func (.func 191) #[] #[.pointer (some ⟨c, 0, none⟩)]] w fun e w' => e = .returned (.tuple #[]) /\ ∃ v, w'.heap[c]? = some (.cells #[v] 81 (0, 0)) /\ w'.ownsRow w.heap.size 3 1 v (ths N y g ws (b + u) 2000 b).length ((ths N y g ws (b + u) 2000 b).map (Value.int .i64)) /\ Sb w.heap.size c w w' := by
 have lp := h.ltp
 have lc := lt_of_some hc
 have HC : Hid (w.heap[c]? = some (.cells #[.slice none 0 0] 81 (0, 0))) := hc
 clear hc
 go_enter Tryz.func190, Tryz.ntmps190
 go_wp2_with fail
 go_loopw [6] (fun i wr => ∃ (a : Int) (L : List Int) (k : Nat) (v : Value), i = .int .i64 a /\ b <= a /\ a <= 100000 /\ b + u - a <= k /\ (L.length : Int) + b <= a /\ L ++ ths N y g ws (b + u) k a = ths N y g ws (b + u) 2000 b /\ wr.heap[c]? = some (.cells #[v] 81 (0, 0)) /\ wr.ownsRow (w.heap.size + 1) 3 1 v L.length (L.map (Value.int .i64)) /\ Sb (w.heap.size + 1) c (w.alloc (.cells #[.int .i64 b, .int .i64 s, .int .i64 u] 140)) wr) (fun i _ => (b + u - intOf i).toNat)
 case atStart => exact ⟨b, [], 2000, _, rfl, by omega, by omega, by omega, by simp, rfl, (Below.heap_alloc _ _ _ lc).trans HC.out, World.ownsRow_nil _ _ _ _, Sb.refl _ _ _⟩
 case round =>
  obtain ⟨a, L, k, v, rfl, a1, a2, a3, a4, a5, hc, hown, hS⟩ := hrel
  have hbox := hS.block w.heap.size (by omega) (by omega)
  rw [heap_alloc_new] at hbox
  have x0 : wr.cell? ⟨w.heap.size, 0, none⟩ = some (.int .i64 b) := by simp [World.cell?, hbox]
  have x1 : wr.cell? ⟨w.heap.size, 1, none⟩ = some (.int .i64 s) := by simp [World.cell?, hbox]
  have x2 : wr.cell? ⟨w.heap.size, 2, none⟩ = some (.int .i64 u) := by simp [World.cell?, hbox]
  have hA : At wr p q N O y g ws := (h.alloc _).same (hS.block p (by omega) hpc) (hS.block q (by have := h.ltq; omega) hqc)
  have hsz := hS.size
  simp only [World.size_alloc] at hsz
  have A5 : Hid (L ++ ths N y g ws (b + u) k a = ths N y g ws (b + u) 2000 b) := a5
  have CC : Hid (wr.heap[c]? = some (.cells #[v] 81 (0, 0))) := hc
  have BX : Hid (wr.heap[w.heap.size]? = some (.cells #[.int .i64 b, .int .i64 s, .int .i64 u] 140)) := hbox
  clear a5 hc hbox
  go_wp2_with fail
  refine (end_any b s u _ b0 (by omega) u0 (by omega)).mono ?_
  rintro e w1 ⟨rfl, hb1⟩
  clear x0 x1 x2
  by_cases hlt : a < b + u
  ·go_wp2_with fail
   refine (thing_any a _ (hA.below hb1 (Nat.le_refl _))).mono ?_
   rintro e w2 ⟨rfl, hb2⟩
   have hb12 : Below wr.heap.size wr w2 := hb1.trans (hb2.mono hb1.size)
   by_cases hp : pc (ld N y g ws a) = 0
   ·obtain ⟨f0, f1⟩ := pc_bd _ hp
    obtain ⟨k', rfl, e1⟩ := ths_yes (N := N) (y := y) (g := g) (ws := ws) k a3 hlt hp
    have HP : Hid (pc (ld N y g ws a) = 0) := hp
    have E1 : Hid (ths N y g ws (b + u) (k' + 1) a = a :: ths N y g ws (b + u) k' (a + (1 + pf (ld N y g ws a)))) := e1
    clear hp e1
    rw [HP.out]
    go_wp2_with fail
    refine (look1_any a c (w.heap.size + 1) v L w2 ((hb12.block c (lt_of_some CC.out)).trans CC.out) (by omega) (by have := hb12.size; omega) (owned_below hown hb12) (by omega)).mono ?_
    rintro e w3 ⟨rfl, v', hc3, hown3, hS3⟩
    have CC3 : Hid (w3.heap[c]? = some (.cells #[v'] 81 (0, 0))) := hc3
    clear hc3
    go_wp2_with fail
    go_roundw
    case rel => exact ⟨a + (1 + pf (ld N y g ws a)), L ++ [a], k', v', rfl, by omega, by omega, by omega, by simp; omega, by rw [<- A5.out, E1.out]; simp, CC3.out, hown3, (hS.trans (Sb.of hb12 hsz)).trans hS3⟩
    case measure => simp [intOf]; omega
   ·have t : (pc (ld N y g ws a) != 0) = true := by simpa using hp
    have e1 := ths_no (N := N) (y := y) (g := g) (ws := ws) (hi := b + u) k hp
    have E1 : Hid (ths N y g ws (b + u) k a = []) := e1
    clear hp e1
    go_wp2_with fail
    refine bodyPost_ret (results_none rfl _ _ _) rfl ?_
    have e2 := A5.out
    rw [E1.out, List.append_nil] at e2
    rw [<- e2]
    exact ⟨rfl, v, (hb12.block c (lt_of_some CC.out)).trans CC.out, owned_mono (owned_below hown hb12) (by omega), ⟨(hS.trans (Sb.of hb12 hsz)).os, (hS.trans (Sb.of hb12 hsz)).tape, (hS.trans (Sb.of hb12 hsz)).output, by have := (hS.trans (Sb.of hb12 hsz)).size; simp at this; omega, fun k hk h1 => ((hS.trans (Sb.of hb12 hsz)).block k (by omega) h1).trans (Below.heap_alloc _ _ _ hk)⟩⟩
  ·go_wp2_with fail
   refine bodyPost_end (results_none rfl _ _ _) rfl ?_
   have e2 := A5.out
   rw [ths_end k (by omega), List.append_nil] at e2
   rw [<- e2]
   exact ⟨rfl, v, (hb1.block c (lt_of_some CC.out)).trans CC.out, owned_mono (owned_below hown hb1) (by omega), ⟨(hS.trans (Sb.of hb1 hsz)).os, (hS.trans (Sb.of hb1 hsz)).tape, (hS.trans (Sb.of hb1 hsz)).output, by have := (hS.trans (Sb.of hb1 hsz)).size; simp at this; omega, fun k hk h1 => ((hS.trans (Sb.of hb1 hsz)).block k (by omega) h1).trans (Below.heap_alloc _ _ _ hk)⟩⟩
end Go.Proofs.YtnalfnlmaallmaaGreat

namespace Go.Proofs.YtnalfnlmaallmaaGreat
set_option maxRecDepth 100000
set_option maxHeartbeats 1000000
open Go.RowKit W
theorem look2_any (a : Int) (c base : Nat) (v : Value) (L : List Int) (w : World) (hc : w.heap[c]? = some (.cells #[v] 81 (0, 0))) (hcb : c < base) (hB : base <= w.heap.size)
  (hown : w.ownsRow base 3 1 v L.length (L.map (Value.int .i64))) (hL : L.length <= 100000) :
  Calls Tryz.prog 192 #[.int .i64 a, .pointer (some ⟨c, 0, none⟩)] w fun e w' => e = .returned (.tuple #[]) /\ ∃ v', w'.heap[c]? = some (.cells #[v'] 81 (0, 0)) /\ w'.ownsRow base 3 1 v' (L ++ [a]).length ((L ++ [a]).map (Value.int .i64)) /\ Sb base c w w' := by
 obtain ⟨i0, hi, hz0, hz1, hz2⟩ := info_parts infoInt
 have cc : w.cell? ⟨c, 0, none⟩ = some v := by simp [World.cell?, hc]
 have HC : Hid (w.heap[c]? = some (.cells #[v] 81 (0, 0))) := hc
 clear hc
 have lc : c < w.heap.size := by omega
 go_enter Tryz.func192, Tryz.ntmps192
 go_wp2_with (at_builtin; refine wpList_append_own _ rfl _ _ 81 rfl base 3 i0 (.int .i64 0) 1 8 Tryz.underlying81 hi hz0 hz1 hz2 rfl (by decide) _ L.length (L.map (Value.int .i64)) rfl (hown.alloc _) ⟨w.heap.size, 0, none⟩ 1 1 [.int .i64 a] rfl rfl ?_ ?_ ?_ ?_ ?_ ?_; (intro j u hj; match j, hj with | 0, hj => (simp at hj; subst hj; simp [Addr.add])); (intro u hu; simp at hu; subst hu; rfl); (unfold maxLen; omega); omega; (simp; omega); intro v' w1 hown' hgrow _; obtain ⟨b1, cap1, ev'⟩ := own_shape hown' (Nat.succ_pos _); subst ev'; have hc1 : w1.heap[c]? = some (.cells #[v] 81 (0, 0)) := (hgrow.block c (by simp; omega) (own_not hown hcb)).trans ((Below.heap_alloc _ _ _ lc).trans HC.out); have cc1 : w1.cell? ⟨c, 0, none⟩ = some v := (by simp [World.cell?, hc1]); have cf1 : w1.frozen? ⟨c, 0, none⟩ = false := (by simp [World.frozen?, hc1]); have HC1 : Hid (w1.heap[c]? = some (.cells #[v] 81 (0, 0))) := hc1; clear hc1)
 go_end0
 refine ⟨rfl, .slice (some ⟨b1, 0, none⟩) (L.length + 1) cap1, ?_, ?_, ?_⟩
 ·have hc1 := HC1.out
  simp only [World.setCell, Array.getElem?_modify, if_true, hc1, Option.map_some]
  simp
 ·have := ownsRow_setCell_below hown' (a := ⟨c, 0, none⟩) hcb (.slice (some ⟨b1, 0, none⟩) (L.length + 1) cap1)
  simpa using this
 ·refine (Sb.of ((Below.refl base w).alloc hB _) (Nat.le_refl _)).trans (Sb.trans (Sb.of ((Below.refl base _).grown hgrow (by simp; omega) (own_ge hown)) (Nat.le_refl _)) ?_)
  exact ⟨rfl, rfl, rfl, by simp [World.setCell], fun k _ h1 => Below.heap_setCell _ _ _ _ h1⟩
theorem each2_any {p q N O y g : Nat} {ws : List Int} (b s u : Int) (c : Nat) (w : World) (h : At w p q N O y g ws) (hc : w.heap[c]? = some (.cells #[.slice none 0 0] 81 (0, 0))) (hpc : p ≠ c) (hqc : q ≠ c)
  (b0 : 0 <= b) (b1 : b <= 2000) (u0 : 0 <= u) (u1 : u <= 2000) :
  Calls Tryz.prog 190 #[.pointer (some ⟨p, 0, none⟩), .agg #[.int .i64 b, .int .i64 s, .int .i64 u], .func (.func 192) #[] #[.pointer (some ⟨c, 0, none⟩)]] w fun e w' => e = .returned (.tuple #[]) /\ ∃ v, w'.heap[c]? = some (.cells #[v] 81 (0, 0)) /\ w'.ownsRow w.heap.size 3 1 v (ths N y g ws (b + u) 2000 b).length ((ths N y g ws (b + u) 2000 b).map (Value.int .i64)) /\ Sb w.heap.size c w w' := by
 have lp := h.ltp
 have lc := lt_of_some hc
 have HC : Hid (w.heap[c]? = some (.cells #[.slice none 0 0] 81 (0, 0))) := hc
 clear hc
 go_enter Tryz.func190, Tryz.ntmps190
 go_wp2_with fail
 go_loopw [6] (fun i wr => ∃ (a : Int) (L : List Int) (k : Nat) (v : Value), i = .int .i64 a /\ b <= a /\ a <= 100000 /\ b + u - a <= k /\ (L.length : Int) + b <= a /\ L ++ ths N y g ws (b + u) k a = ths N y g ws (b + u) 2000 b /\ wr.heap[c]? = some (.cells #[v] 81 (0, 0)) /\ wr.ownsRow (w.heap.size + 1) 3 1 v L.length (L.map (Value.int .i64)) /\ Sb (w.heap.size + 1) c (w.alloc (.cells #[.int .i64 b, .int .i64 s, .int .i64 u] 140)) wr) (fun i _ => (b + u - intOf i).toNat)
 case atStart => exact ⟨b, [], 2000, _, rfl, by omega, by omega, by omega, by simp, rfl, (Below.heap_alloc _ _ _ lc).trans HC.out, World.ownsRow_nil _ _ _ _, Sb.refl _ _ _⟩
 case round =>
  obtain ⟨a, L, k, v, rfl, a1, a2, a3, a4, a5, hc, hown, hS⟩ := hrel
  have hbox := hS.block w.heap.size (by omega) (by omega)
  rw [heap_alloc_new] at hbox
  have x0 : wr.cell? ⟨w.heap.size, 0, none⟩ = some (.int .i64 b) := by simp [World.cell?, hbox]
  have x1 : wr.cell? ⟨w.heap.size, 1, none⟩ = some (.int .i64 s) := by simp [World.cell?, hbox]
  have x2 : wr.cell? ⟨w.heap.size, 2, none⟩ = some (.int .i64 u) := by simp [World.cell?, hbox]
  have hA : At wr p q N O y g ws := (h.alloc _).same (hS.block p (by omega) hpc) (hS.block q (by have := h.ltq; omega) hqc)
  have hsz := hS.size
  simp only [World.size_alloc] at hsz
  have A5 : Hid (L ++ ths N y g ws (b + u) k a = ths N y g ws (b + u) 2000 b) := a5
  have CC : Hid (wr.heap[c]? = some (.cells #[v] 81 (0, 0))) := hc
  have BX : Hid (wr.heap[w.heap.size]? = some (.cells #[.int .i64 b, .int .i64 s, .int .i64 u] 140)) := hbox
  clear a5 hc hbox
  go_wp2_with fail
  refine (end_any b s u _ b0 (by omega) u0 (by omega)).mono ?_
  rintro e w1 ⟨rfl, hb1⟩
  clear x0 x1 x2
  by_cases hlt : a < b + u
  ·go_wp2_with fail
   refine (thing_any a _ (hA.below hb1 (Nat.le_refl _))).mono ?_
   rintro e w2 ⟨rfl, hb2⟩
   have hb12 : Below wr.heap.size wr w2 := hb1.trans (hb2.mono hb1.size)
   by_cases hp : pc (ld N y g ws a) = 0
   ·obtain ⟨f0, f1⟩ := pc_bd _ hp
    obtain ⟨k', rfl, e1⟩ := ths_yes (N := N) (y := y) (g := g) (ws := ws) k a3 hlt hp
    have HP : Hid (pc (ld N y g ws a) = 0) := hp
    have E1 : Hid (ths N y g ws (b + u) (k' + 1) a = a :: ths N y g ws (b + u) k' (a + (1 + pf (ld N y g ws a)))) := e1
    clear hp e1
    rw [HP.out]
    go_wp2_with fail
    refine (look2_any a c (w.heap.size + 1) v L w2 ((hb12.block c (lt_of_some CC.out)).trans CC.out) (by omega) (by have := hb12.size; omega) (owned_below hown hb12) (by omega)).mono ?_
    rintro e w3 ⟨rfl, v', hc3, hown3, hS3⟩
    have CC3 : Hid (w3.heap[c]? = some (.cells #[v'] 81 (0, 0))) := hc3
    clear hc3
    go_wp2_with fail
    go_roundw
    case rel => exact ⟨a + (1 + pf (ld N y g ws a)), L ++ [a], k', v', rfl, by omega, by omega, by omega, by simp; omega, by rw [<- A5.out, E1.out]; simp, CC3.out, hown3, (hS.trans (Sb.of hb12 hsz)).trans hS3⟩
    case measure => simp [intOf]; omega
   ·have t : (pc (ld N y g ws a) != 0) = true := by simpa using hp
    have e1 := ths_no (N := N) (y := y) (g := g) (ws := ws) (hi := b + u) k hp
    have E1 : Hid (ths N y g ws (b + u) k a = []) := e1
    clear hp e1
    go_wp2_with fail
    refine bodyPost_ret (results_none rfl _ _ _) rfl ?_
    have e2 := A5.out
    rw [E1.out, List.append_nil] at e2
    rw [<- e2]
    exact ⟨rfl, v, (hb12.block c (lt_of_some CC.out)).trans CC.out, owned_mono (owned_below hown hb12) (by omega), ⟨(hS.trans (Sb.of hb12 hsz)).os, (hS.trans (Sb.of hb12 hsz)).tape, (hS.trans (Sb.of hb12 hsz)).output, by have := (hS.trans (Sb.of hb12 hsz)).size; simp at this; omega, fun k hk h1 => ((hS.trans (Sb.of hb12 hsz)).block k (by omega) h1).trans (Below.heap_alloc _ _ _ hk)⟩⟩
  ·go_wp2_with fail
   refine bodyPost_end (results_none rfl _ _ _) rfl ?_
   have e2 := A5.out
   rw [ths_end k (by omega), List.append_nil] at e2
   rw [<- e2]
   exact ⟨rfl, v, (hb1.block c (lt_of_some CC.out)).trans CC.out, owned_mono (owned_below hown hb1) (by omega), ⟨(hS.trans (Sb.of hb1 hsz)).os, (hS.trans (Sb.of hb1 hsz)).tape, (hS.trans (Sb.of hb1 hsz)).output, by have := (hS.trans (Sb.of hb1 hsz)).size; simp at this; omega, fun k hk h1 => ((hS.trans (Sb.of hb1 hsz)).block k (by omega) h1).trans (Below.heap_alloc _ _ _ hk)⟩⟩
def thY (N y g : Nat) (ws : List Int) : List Int := ths N y g ws y 2000 0
def thO (N y g : Nat) (ws : List Int) : List Int := ths N y g ws ((N : Int) + g) 2000 N
theorem things_any {p q N O y g : Nat} {ws : List Int} (w : World) (h : At w p q N O y g ws) :
  Calls Tryz.prog 124 #[.pointer (some ⟨p, 0, none⟩)] w fun e w' => ∃ v1 v2, e = .returned (.tuple #[v1, v2]) /\ w'.ownsRow w.heap.size 3 1 v1 (thY N y g ws).length ((thY N y g ws).map (Value.int .i64)) /\ w'.ownsRow w.heap.size 3 1 v2 (thO N y g ws).length ((thO N y g ws).map (Value.int .i64)) /\ Below w.heap.size w w' := by
 obtain ⟨c0, c1, c2, c3, c4, c5, c6⟩ := h.cells
 have lp := h.ltp
 have lq := h.ltq
 have k1 := h.hN'
 have k2 := h.hy
 have k3 := h.hO
 have k4 := h.hg
 go_enter Tryz.func124, Tryz.ntmps124
 go_wp2_with fail
 refine (each1_any 0 N y w.heap.size _ ((h.alloc _).alloc _) ((Below.heap_alloc _ _ _ (by simp)).trans (heap_alloc_new _ _)) (by omega) (by omega) (by omega) (by omega) (by omega) (by omega)).mono ?_
 rintro e w1 ⟨rfl, v1, hc1, hown1, hS1⟩
 have h1 : At w1 p q N O y g ws := ((h.alloc _).alloc _).same (hS1.block p (by simp; omega) (by omega)) (hS1.block q (by simp; omega) (by omega))
 have hc2 : w1.heap[w.heap.size + 1]? = some (.cells #[.slice none 0 0] 81 (0, 0)) := (hS1.block (w.heap.size + 1) (by simp) (by omega)).trans (new_top _ (by simp))
 have CC1 : Hid (w1.heap[w.heap.size]? = some (.cells #[v1] 81 (0, 0))) := hc1
 have CC2 : Hid (w1.heap[w.heap.size + 1]? = some (.cells #[.slice none 0 0] 81 (0, 0))) := hc2
 have hz1 := hS1.size
 simp only [World.size_alloc] at hz1
 clear hc1 hc2 c0 c1 c2 c3 c4 c5 c6
 obtain ⟨c0, c1, c2, c3, c4, c5, c6⟩ := h1.cells
 go_wp2_with fail
 refine (each2_any N O g (w.heap.size + 1) _ h1 CC2.out (by omega) (by omega) (by omega) (by omega) (by omega) (by omega)).mono ?_
 rintro e w2 ⟨rfl, v2, hc2, hown2, hS2⟩
 have x1 : w2.cell? ⟨w.heap.size, 0, none⟩ = some v1 := by
  have := (hS2.block w.heap.size (by omega) (by omega)).trans CC1.out
  simp [World.cell?, this]
 have x2 : w2.cell? ⟨w.heap.size + 1, 0, none⟩ = some v2 := by simp [World.cell?, hc2]
 have hz2 := hS2.size
 clear hc2
 go_wp2_with fail
 go_quiet (fail)
 go_wp2_with fail
 go_ret2
 simp only [World.size_alloc] at hown1 hS1
 have e1 : thY N y g ws = ths N y g ws (0 + (y : Int)) 2000 0 := by rw [Int.zero_add]; rfl
 refine ⟨v1, v2, rfl, ?_, ?_, ?_⟩
 ·rw [e1]
  exact owned_below (owned_mono (base := w.heap.size + 1 + 1) (owned_sb hown1 hS2 (Nat.le_refl _) (by omega)) (by omega)) (below_drewN (Below.refl _ _) _)
 ·exact owned_below (owned_mono hown2 (by omega)) (below_drewN (Below.refl _ _) _)
 ·exact below_drewN ((((Below.refl _ _).alloc (Nat.le_refl _) _).alloc (by simp) _).trans ((hS1.below (by omega) (Nat.le_refl _)).trans (hS2.below (by omega) (by omega)))) _
end Go.Proofs.YtnalfnlmaallmaaGreat

namespace Go.Proofs.YtnalfnlmaallmaaGreat
open Go.RowKit W
end Go.Proofs.YtnalfnlmaallmaaGreat

namespace Go.Proofs.YtnalfnlmaallmaaGreat
open Go.RowKit W
def B1 : List Int := fil (List.replicate 24 0) 0 33 2
def B2 : List Int := fil B1 3 194 12
end Go.Proofs.YtnalfnlmaallmaaGreat

namespace Go.Proofs.YtnalfnlmaallmaaGreat
open Go.RowKit W
theorem length_fil (ws : List Int) (y : Nat) (hd : Int) (k : Nat) : (fil ws y hd k).length = ws.length := by
 induction k with
 | zero => simp [fil]
 | succ k ih => simp [fil, ih]
theorem getD_set (l : List Int) (i j : Nat) (x : Int) (h : i < l.length) : (l.set i x).getD j 0 = if i = j then x else l.getD j 0 := by
 rw [List.getD_eq_getElem?_getD, List.getD_eq_getElem?_getD, List.getElem?_set]
 split
 ·rename_i e; subst e; simp
 ·rfl
theorem fil_get (ws : List Int) (y : Nat) (hd : Int) (k i : Nat) (h : y + k < ws.length) : (fil ws y hd k).getD i 0 = if i = y then hd else if y + 1 <= i /\ i < y + 1 + k then 2 else ws.getD i 0 := by
 induction k with
 | zero =>
  rw [fil, getD_set _ _ _ _ (by omega)]
  by_cases e : y = i
  ·rw [if_pos e, if_pos e.symm]
  ·rw [if_neg e, if_neg (fun c => e c.symm), if_neg (by omega)]
 | succ k ih =>
  rw [fil, getD_set _ _ _ _ (by rw [length_fil]; omega), ih (by omega)]
  by_cases e : y + 1 + k = i
  ·rw [if_pos e, if_neg (by omega), if_pos (by omega)]
  ·rw [if_neg e]
   by_cases e2 : i = y
   ·rw [if_pos e2, if_pos e2]
   ·rw [if_neg e2, if_neg e2]
    by_cases e3 : y + 1 <= i /\ i < y + 1 + k
    ·rw [if_pos e3, if_pos (by omega)]
    ·rw [if_neg e3, if_neg (by omega)]
theorem hB_head (y f : Nat) : hB 0 ((y + 1 + f : Nat) : Int) y = true := by simp [hB]; omega
theorem ld_head {N y g : Nat} {ws : List Int} (hd : Int) (f : Nat) (h : y + f < ws.length) : ld N (y + 1 + f) g (fil ws y hd f) y = hd := by
 have hi : iB N (y + 1 + f) g y = true := by unfold iB; rw [hB_head]; rfl
 unfold ld
 rw [if_pos hi, Int.toNat_natCast, fil_get _ _ _ _ _ h, if_pos rfl]
def mkB (N y : Nat) (k f : Int) : Bool := decide (hc k f = 0 /\ f + 1 <= (N : Int) - y)
def cpB (N O y g : Nat) (ws : List Int) (a : Int) : Bool := decide (pc (ld N y g ws a) = 0 /\ 1 + pf (ld N y g ws a) <= endA N y g a - a /\ 1 + pf (ld N y g ws a) <= (O : Int) - g)
theorem mkB_yes {N y : Nat} {k f : Int} (h : mkB N y k f = true) : hc k f = 0 /\ f + 1 <= (N : Int) - y := by simpa [mkB] using h
theorem mkB_no {N y : Nat} {k f : Int} (h : mkB N y k f = false) : hc k f ≠ 0 \/ (N : Int) - y < f + 1 := by
 have : ¬ (hc k f = 0 /\ f + 1 <= (N : Int) - y) := by simpa [mkB] using h
 by_cases c : hc k f = 0
 ·exact Or.inr (by omega)
 ·exact Or.inl c
theorem cpB_yes {N O y g : Nat} {ws : List Int} {a : Int} (h : cpB N O y g ws a = true) : pc (ld N y g ws a) = 0 /\ 1 + pf (ld N y g ws a) <= endA N y g a - a /\ 1 + pf (ld N y g ws a) <= (O : Int) - g := by simpa [cpB] using h
theorem cpB_no {N O y g : Nat} {ws : List Int} {a : Int} (h : cpB N O y g ws a = false) : pc (ld N y g ws a) ≠ 0 \/ endA N y g a - a < 1 + pf (ld N y g ws a) \/ (O : Int) - g < 1 + pf (ld N y g ws a) := by
 have : ¬ (pc (ld N y g ws a) = 0 /\ 1 + pf (ld N y g ws a) <= endA N y g a - a /\ 1 + pf (ld N y g ws a) <= (O : Int) - g) := by simpa [cpB] using h
 by_cases c : pc (ld N y g ws a) = 0
 ·exact Or.inr (by omega)
 ·exact Or.inl c
def mkR (N y : Nat) (k f : Int) : Int := if mkB N y k f = true then (y : Int) else -1
def mkY (N y : Nat) (k f : Int) : Nat := if mkB N y k f = true then y + 1 + f.toNat else y
def mkW (N y : Nat) (k f : Int) (ws : List Int) : List Int := if mkB N y k f = true then fil ws y (hw k f) f.toNat else ws
def cpR (N O y g : Nat) (ws : List Int) (a : Int) : Int := if cpB N O y g ws a = true then ((N + g : Nat) : Int) else -1
def cpG (N O y g : Nat) (ws : List Int) (a : Int) : Nat := if cpB N O y g ws a = true then g + (1 + (pf (ld N y g ws a)).toNat) else g
def cpW (N O y g : Nat) (ws : List Int) (a : Int) : List Int := if cpB N O y g ws a = true then splice ws (N + g) ((ws.drop a.toNat).take (1 + (pf (ld N y g ws a)).toNat)) else ws
theorem make_any {p q N O y g : Nat} {ws : List Int} (k f : Int) (w : World) (h : At w p q N O y g ws) :
  Calls Tryz.prog 50 #[.pointer (some ⟨p, 0, none⟩), .int .i64 k, .int .i64 f] w fun e w' => e = .returned (.int .i64 (mkR N y k f)) /\ At w' p q N O (mkY N y k f) g (mkW N y k f ws) /\ Sv p q w w' := by
 unfold mkR mkY mkW
 cases hb : mkB N y k f
 ·rw [if_neg (by simp), if_neg (by simp), if_neg (by simp)]
  exact (make_no k f w h (mkB_no hb)).mono fun e w' hx => ⟨hx.1, h.below hx.2 (Nat.le_refl _), Sv.of hx.2⟩
 ·rw [if_pos rfl, if_pos rfl, if_pos rfl]
  exact make_yes k f w h (mkB_yes hb).1 (mkB_yes hb).2
theorem copy_any {p q N O y g : Nat} {ws : List Int} (a : Int) (w : World) (h : At w p q N O y g ws) :
  Calls Tryz.prog 193 #[.pointer (some ⟨p, 0, none⟩), .int .i64 a] w fun e w' => e = .returned (.int .i64 (cpR N O y g ws a)) /\ At w' p q N O y (cpG N O y g ws a) (cpW N O y g ws a) /\ Sv p q w w' := by
 unfold cpR cpG cpW
 cases hb : cpB N O y g ws a
 ·rw [if_neg (by simp), if_neg (by simp), if_neg (by simp)]
  exact (copy_no a w h (cpB_no hb)).mono fun e w' hx => ⟨hx.1, h.below hx.2 (Nat.le_refl _), Sv.of hx.2⟩
 ·rw [if_pos rfl, if_pos rfl, if_pos rfl]
  exact copy_yes a w h (cpB_yes hb).1 (cpB_yes hb).2.1 (cpB_yes hb).2.2
end Go.Proofs.YtnalfnlmaallmaaGreat

namespace Go.Proofs.YtnalfnlmaallmaaGreat
open Go.RowKit W
structure Fr (X : Nat -> Prop) (w w' : World) : Prop where
  os : w'.os = w.os
  tape : w'.tape = w.tape
  output : w'.output = w.output
  size : w.heap.size <= w'.heap.size
  block : ∀ k, k < w.heap.size -> ¬ X k -> w'.heap[k]? = w.heap[k]?
theorem Fr.refl (X : Nat -> Prop) (w : World) : Fr X w w := ⟨rfl, rfl, rfl, Nat.le_refl _, fun _ _ _ => rfl⟩
theorem Fr.trans {X Y : Nat -> Prop} {a b c : World} (h : Fr X a b) (k : Fr Y b c) (hy : ∀ i, Y i -> X i \/ a.heap.size <= i) : Fr X a c :=
 ⟨k.os.trans h.os, k.tape.trans h.tape, k.output.trans h.output, Nat.le_trans h.size k.size, fun i hi hx => (k.block i (Nat.lt_of_lt_of_le hi h.size) (fun c => (hy i c).elim hx (fun c => by omega))).trans (h.block i hi hx)⟩
theorem Fr.mono {X Y : Nat -> Prop} {w w' : World} (h : Fr X w w') (hy : ∀ i, X i -> Y i) : Fr Y w w' := ⟨h.os, h.tape, h.output, h.size, fun i hi hx => h.block i hi (fun c => hx (hy i c))⟩
theorem Fr.of {X : Nat -> Prop} {w w' : World} (h : Below w.heap.size w w') : Fr X w w' := ⟨h.os, h.tape, h.output, h.size, fun k hk _ => h.block k hk⟩
theorem Fr.alloc {X : Nat -> Prop} {a w : World} (h : Fr X a w) (o : Obj) : Fr X a (w.alloc o) := h.trans (Fr.of (X := X) ((Below.refl _ _).alloc (Nat.le_refl _) _)) (fun _ c => Or.inl c)
theorem Fr.drew {X : Nat -> Prop} {a w : World} (h : Fr X a w) : Fr X a w.drew := ⟨h.os, h.tape, h.output, h.size, h.block⟩
theorem Fr.set {X : Nat -> Prop} {a w : World} (h : Fr X a w) (c o : Nat) (v : Value) (hc : X c) : Fr X a (w.setCell ⟨c, o, none⟩ v) :=
 ⟨h.os, h.tape, h.output, by simpa [World.setCell] using h.size, fun k hk hx => (Below.heap_setCell _ _ _ _ (fun e => hx (by rw [e]; exact hc))).trans (h.block k hk hx)⟩
theorem Fr.grown {X : Nat -> Prop} {a w w' : World} {row : Option Nat} (h : Fr X a w) (g : w.grownBy w' row) (hr : ∀ k, row = some k -> X k \/ a.heap.size <= k) : Fr X a w' :=
 ⟨g.os.trans h.os, g.tape.trans h.tape, g.output.trans h.output, Nat.le_trans h.size g.size, fun k hk hx => (g.block k (Nat.lt_of_lt_of_le hk h.size) (fun e => (hr k e.symm).elim hx (fun c => by omega))).trans (h.block k hk hx)⟩
theorem Fr.below {X : Nat -> Prop} {w w' : World} {B : Nat} (h : Fr X w w') (hB : B <= w.heap.size) (hx : ∀ k, X k -> B <= k) : Below B w w' :=
 ⟨h.os, h.tape, h.output, h.size, fun k hk => h.block k (by omega) (fun c => by have := hx k c; omega)⟩
/-! ### rows -/
theorem row_keep {w w' : World} {base n m : Nat} {e : TypeId} {v : Value} {l : List Value} (h : w.ownsRow base e m v n l) (hk : ∀ k, some k = v.ownBlock -> w'.heap[k]? = w.heap[k]?) : w'.ownsRow base e m v n l := by
 refine ⟨h.1, ?_⟩
 rcases h.2 with hn | ⟨g, cap, cur, rfl, hb, hgg, rest⟩
 ·exact .inl hn
 ·exact .inr ⟨g, cap, cur, rfl, hb, (hk g rfl).trans hgg, rest⟩
theorem row_lt {w : World} {base n m : Nat} {e : TypeId} {v : Value} {l : List Value} (h : w.ownsRow base e m v n l) : ∀ k, some k = v.ownBlock -> base <= k /\ k < w.heap.size := fun k hk => h.lt k hk.symm
theorem row_fr {X : Nat -> Prop} {w w' : World} {base n m : Nat} {e : TypeId} {v : Value} {l : List Value} (h : w.ownsRow base e m v n l) (f : Fr X w w') (hx : ∀ k, some k = v.ownBlock -> ¬ X k) : w'.ownsRow base e m v n l :=
 row_keep h (fun k hk => f.block k (row_lt h k hk).2 (hx k hk))
theorem row_base {w : World} {base base' n m : Nat} {e : TypeId} {v : Value} {l : List Value} (h : w.ownsRow base e m v n l) (hb : ∀ k, some k = v.ownBlock -> base' <= k) : w.ownsRow base' e m v n l := by
 refine ⟨h.1, ?_⟩
 rcases h.2 with hn | ⟨g, cap, cur, rfl, _, rest⟩
 ·exact .inl hn
 ·exact .inr ⟨g, cap, cur, rfl, hb g rfl, rest⟩
theorem row_type {w : World} {base n m : Nat} {e : TypeId} {v : Value} {l : List Value} (h : w.ownsRow base e m v n l) : ∀ k, some k = v.ownBlock -> ∃ cur, w.heap[k]? = some (.cells cur e (0, 0)) := by
 intro k hk
 rcases h.2 with ⟨rfl, _⟩ | ⟨g, cap, cur, rfl, _, hgg, _⟩
 ·simp [Value.ownBlock] at hk
 ·simp [Value.ownBlock] at hk
  subst hk
  exact ⟨cur, hgg⟩
theorem row_shape {w : World} {base n m : Nat} {e : TypeId} {v : Value} {l : List Value} (h : w.ownsRow base e m v n l) (hn : 0 < n) : ∃ b cap, v = .slice (some ⟨b, 0, none⟩) n cap := by
 rcases h.2 with ⟨_, h0⟩ | ⟨g, cap, cur, hv, _⟩
 ·omega
 ·exact ⟨g, cap, hv⟩
theorem row_slice {w : World} {base n m : Nat} {e : TypeId} {v : Value} {l : List Value} (h : w.ownsRow base e m v n l) : ∃ ad cap, v = .slice ad n cap := by
 rcases h.2 with ⟨hv, h0⟩ | ⟨g, cap, cur, hv, _⟩
 ·exact ⟨none, 0, by rw [hv, h0]⟩
 ·exact ⟨_, cap, hv⟩
def Ls (w : World) (ad : Option Addr) (l : List Int) : Prop := 0 < l.length -> ∃ b o, ad = some ⟨b, o, none⟩ /\ b < w.heap.size /\ ∀ i, i < l.length -> w.cell? ⟨b, o + i, none⟩ = some (.int .i64 (l.getD i 0))
def Lp (w : World) (ad : Option Addr) (l : List (Int × Int)) : Prop :=
 0 < l.length -> ∃ b o, ad = some ⟨b, o, none⟩ /\ b < w.heap.size /\ ∀ i, i < l.length -> w.cell? ⟨b, o + i * 2, none⟩ = some (.int .i64 (l.getD i (0, 0)).1) /\ w.cell? ⟨b, o + i * 2 + 1, none⟩ = some (.int .i64 (l.getD i (0, 0)).2)
def ev (l : List (Int × Int)) : List Value := l.flatMap fun e => [.int .i64 e.1, .int .i64 e.2]
theorem ev_append (a b : List (Int × Int)) : ev (a ++ b) = ev a ++ ev b := by simp [ev]
theorem ev_length : ∀ l : List (Int × Int), (ev l).length = l.length * 2
 | [] => rfl
 | e :: r => by
  have := ev_length r
  simp [ev] at this ⊢
  omega
theorem ev_get : ∀ (l : List (Int × Int)) (i : Nat), i < l.length -> (ev l)[i * 2]? = some (.int .i64 (l.getD i (0, 0)).1) /\ (ev l)[i * 2 + 1]? = some (.int .i64 (l.getD i (0, 0)).2)
 | [], i, h => by simp at h
 | e :: r, 0, _ => by simp [ev]
 | e :: r, i + 1, h => by
  have h2 := ev_get r i (by simpa using h)
  have e1 : (ev (e :: r)) = .int .i64 e.1 :: .int .i64 e.2 :: ev r := by simp [ev]
  rw [e1, show (i + 1) * 2 = i * 2 + 1 + 1 by omega]
  simpa using h2
theorem row_ints {w : World} {base : Nat} {e : TypeId} {ad : Option Addr} {cap : Nat} {l : List Int} (h : w.ownsRow base e 1 (.slice ad l.length cap) l.length (l.map (Value.int .i64))) : Ls w ad l := by
 intro hp
 rcases h.2 with ⟨_, h0⟩ | ⟨g, cap', cur, hv, hb, hh, h3, h4, h5, h6⟩
 ·omega
 ·simp at hv
  obtain ⟨rfl, rfl⟩ := hv
  refine ⟨g, 0, rfl, lt_of_some hh, fun i hi => ?_⟩
  have e2 : (cur.toList.take (l.length * 1))[i]? = some (.int .i64 (l.getD i 0)) := by
   rw [h6]
   simp [List.getElem?_map, List.getElem?_eq_getElem hi]
  rw [List.getElem?_take_of_lt (by omega)] at e2
  simp [World.cell?, hh]
  simpa using e2
theorem row_pairs {w : World} {base : Nat} {e : TypeId} {ad : Option Addr} {cap : Nat} {l : List (Int × Int)} (h : w.ownsRow base e 2 (.slice ad l.length cap) l.length (ev l)) : Lp w ad l := by
 intro hp
 rcases h.2 with ⟨_, h0⟩ | ⟨g, cap', cur, hv, hb, hh, h3, h4, h5, h6⟩
 ·omega
 ·simp at hv
  obtain ⟨rfl, rfl⟩ := hv
  refine ⟨g, 0, rfl, lt_of_some hh, fun i hi => ?_⟩
  obtain ⟨k1, k2⟩ := ev_get l i hi
  rw [<- h6, List.getElem?_take_of_lt (by omega)] at k1 k2
  constructor
  ·simp [World.cell?, hh]
   simpa using k1
  ·simp [World.cell?, hh]
   simpa using k2
theorem Ls.keep {w w' : World} {ad : Option Addr} {l : List Int} (h : Ls w ad l) (hs : w.heap.size <= w'.heap.size) (hk : 0 < l.length -> ∀ a, ad = some a -> w'.heap[a.block]? = w.heap[a.block]?) : Ls w' ad l := by
 intro hp
 obtain ⟨b, o, rfl, hb, hc⟩ := h hp
 exact ⟨b, o, rfl, by omega, fun i hi => (World.cell?_of_block (a := ⟨b, o + i, none⟩) (hk hp ⟨b, o, none⟩ rfl)).trans (hc i hi)⟩
theorem Lp.keep {w w' : World} {ad : Option Addr} {l : List (Int × Int)} (h : Lp w ad l) (hs : w.heap.size <= w'.heap.size) (hk : 0 < l.length -> ∀ a, ad = some a -> w'.heap[a.block]? = w.heap[a.block]?) : Lp w' ad l := by
 intro hp
 obtain ⟨b, o, rfl, hb, hc⟩ := h hp
 exact ⟨b, o, rfl, by omega, fun i hi => ⟨(World.cell?_of_block (a := ⟨b, o + i * 2, none⟩) (hk hp ⟨b, o, none⟩ rfl)).trans (hc i hi).1, (World.cell?_of_block (a := ⟨b, o + i * 2 + 1, none⟩) (hk hp ⟨b, o, none⟩ rfl)).trans (hc i hi).2⟩⟩
end Go.Proofs.YtnalfnlmaallmaaGreat

namespace Go.Proofs.YtnalfnlmaallmaaGreat
open Go.RowKit W Kp
theorem info64 : (Tryz.prog.info? 2).map (fun i => (i.zero, i.size, i.bytes)) = some (some (.int .i64 0), 1, 8) := by kernel_rfl
end Go.Proofs.YtnalfnlmaallmaaGreat
