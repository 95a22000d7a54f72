/- Joined: Ar7, Ar8, Same, ABegun, Ar9. -/
import Derived.Test.YtakofbkmhmcnfabGreatJ02
/- What Things of package arena answers: contracts of it, of the looks that it hands over, and of what shows them each place, over the seat's own translation; nothing that was in memory turns. -/
namespace Go.Proofs.YtakofbkmhmcnfabGreat
open Go.RowKit W

/-- Below block number B all but block c is as it was. -/
structure Sb (B c : Nat) (w w' : World) : Prop where
  os : w'.os = w.os
  tape : w'.tape = w.tape
  output : w'.output = w.output
  size : w.heap.size ≤ w'.heap.size
  block : ∀ k, k < B → k ≠ c → w'.heap[k]? = w.heap[k]?
theorem Sb.refl (B c : Nat) (w : World) : Sb B c w w := ⟨rfl, rfl, rfl, Nat.le_refl _, fun _ _ _ => rfl⟩
theorem Sb.trans {B c : Nat} {a b d : World} (h : Sb B c a b) (k : Sb B c b d) : Sb B c a d :=
  ⟨k.os.trans h.os, k.tape.trans h.tape, k.output.trans h.output, Nat.le_trans h.size k.size, fun i hi h1 => (k.block i hi h1).trans (h.block i hi h1)⟩
theorem Sb.of {B D c : Nat} {w w' : World} (h : Below D w w') (hD : B ≤ D) : Sb B c w w' := ⟨h.os, h.tape, h.output, h.size, fun k hk _ => h.block k (by omega)⟩
theorem Sb.below {B D c : Nat} {w w' : World} (h : Sb B c w w') (hD : D ≤ B) (hc : D ≤ c) : Below D w w' := ⟨h.os, h.tape, h.output, h.size, fun k hk => h.block k (by omega) (by omega)⟩

theorem owned_below {w w' : World} {base n : Nat} {e : TypeId} {v : Value} {l : List Value} (h : w.ownsRow base e 1 v n l) (hb : Below w.heap.size w w') : w'.ownsRow base e 1 v n l := by
  obtain ⟨h1, h2⟩ := h
  refine ⟨h1, ?_⟩
  rcases h2 with h2 | ⟨b, cap, cur, hv, hb', hh, r⟩
  · exact Or.inl h2
  · exact Or.inr ⟨b, cap, cur, hv, hb', (hb.block b (lt_of_some hh)).trans hh, r⟩
theorem owned_mono {w : World} {base base' n : Nat} {e : TypeId} {v : Value} {l : List Value} (h : w.ownsRow base e 1 v n l) (hb : base' ≤ base) : w.ownsRow base' e 1 v n l := by
  obtain ⟨h1, h2⟩ := h
  refine ⟨h1, ?_⟩
  rcases h2 with h2 | ⟨b, cap, cur, hv, hb', r⟩
  · exact Or.inl h2
  · exact Or.inr ⟨b, cap, cur, hv, by omega, r⟩
theorem owned_sb {w w' : World} {base B c n : Nat} {e : TypeId} {v : Value} {l : List Value} (h : w.ownsRow base e 1 v n l) (hs : Sb B c w w') (hB : w.heap.size ≤ B) (hc : c < base) : w'.ownsRow base e 1 v n l := by
  obtain ⟨h1, h2⟩ := h
  refine ⟨h1, ?_⟩
  rcases h2 with h2 | ⟨b, cap, cur, hv, hb', hh, r⟩
  · exact Or.inl h2
  · exact Or.inr ⟨b, cap, cur, hv, hb', (hs.block b (by have := lt_of_some hh; omega) (by omega)).trans hh, r⟩

theorem infoInt : (Tryz.prog.info? 3).map (fun i => (i.zero, i.size, i.bytes)) = some (some (.int .i64 0), 1, 8) := by kernel_rfl

theorem own_not {w : World} {base n c : Nat} {e : TypeId} {v : Value} {l : List Value} (h : w.ownsRow base e 1 v n l) (hc : c < base) : some c ≠ v.ownBlock := by
  obtain ⟨_, h2⟩ := h
  rcases h2 with ⟨rfl, _⟩ | ⟨b, cap, cur, rfl, hb', _⟩
  · simp [Value.ownBlock]
  · simp [Value.ownBlock]; omega
theorem own_ge {w : World} {base n : Nat} {e : TypeId} {v : Value} {l : List Value} (h : w.ownsRow base e 1 v n l) : ∀ k, v.ownBlock = some k → base ≤ k := by
  obtain ⟨_, h2⟩ := h
  intro k hk
  rcases h2 with ⟨rfl, _⟩ | ⟨b, cap, cur, rfl, hb', _⟩
  · simp [Value.ownBlock] at hk
  · simp [Value.ownBlock] at hk; omega

theorem own_shape {w : World} {base n : Nat} {e : TypeId} {v : Value} {l : List Value} (h : w.ownsRow base e 1 v n l) (hn : 0 < n) : ∃ b cap, v = .slice (some ⟨b, 0, none⟩) n cap := by
  obtain ⟨_, h2⟩ := h
  rcases h2 with ⟨_, h2⟩ | ⟨b, cap, cur, hv, _⟩
  · omega
  · exact ⟨b, cap, hv⟩

/-- Where things begin from a place on, of what is in use ahead of another; at most so many. -/
def ths (N y g : Nat) (ws : List Int) (hi : Int) : Nat → Int → List Int
  | 0, _ => []
  | k + 1, a => if a < hi then (if pc (ld N y g ws a) = 0 then a :: ths N y g ws hi k (a + (1 + pf (ld N y g ws a))) else []) else []
theorem ths_end {N y g : Nat} {ws : List Int} {hi a : Int} (k : Nat) (h : hi ≤ a) : ths N y g ws hi k a = [] := by
  cases k with
  | zero => rfl
  | succ k => unfold ths; rw [if_neg (by omega)]
theorem ths_no {N y g : Nat} {ws : List Int} {hi a : Int} (k : Nat) (h : pc (ld N y g ws a) ≠ 0) : ths N y g ws hi k a = [] := by
  cases k with
  | zero => rfl
  | succ k => unfold ths; rw [if_neg h]; split <;> rfl
theorem ths_yes {N y g : Nat} {ws : List Int} {hi a : Int} (k : Nat) (hk : hi - a ≤ k) (h : a < hi) (h2 : pc (ld N y g ws a) = 0) :
    ∃ k', k = k' + 1 ∧ ths N y g ws hi k a = a :: ths N y g ws hi k' (a + (1 + pf (ld N y g ws a))) := by
  cases k with
  | zero => simp at hk; omega
  | succ k => exact ⟨k, rfl, by rw [ths, if_pos h, if_pos h2]⟩

set_option maxRecDepth 100000 in
set_option maxHeartbeats 1000000 in
theorem look1_any (a : Int) (c base : Nat) (v : Value) (L : List Int) (w : World) (hc : w.heap[c]? = some (.cells #[v] 56 (0, 0))) (hcb : c < base) (hB : base ≤ w.heap.size)
    (hown : w.ownsRow base 3 1 v L.length (L.map (Value.int .i64))) (hL : L.length ≤ 100000) :
    Calls Tryz.prog 77 #[.int .i64 a, .pointer (some ⟨c, 0, none⟩)] w fun e w' => e = .returned (.tuple #[]) ∧ ∃ v', w'.heap[c]? = some (.cells #[v'] 56 (0, 0)) ∧ w'.ownsRow base 3 1 v' (L ++ [a]).length ((L ++ [a]).map (Value.int .i64)) ∧ Sb base c w w' := by
  obtain ⟨i0, hi, hz0, hz1, hz2⟩ := info_parts infoInt
  have cc : w.cell? ⟨c, 0, none⟩ = some v := by simp [World.cell?, hc]
  have HC : Hid (w.heap[c]? = some (.cells #[v] 56 (0, 0))) := hc
  clear hc
  have lc : c < w.heap.size := by omega
  go_enter Tryz.func77, Tryz.ntmps77
  go_wp2_with (at_builtin; refine wpList_append_own _ rfl _ _ 56 rfl base 3 i0 (.int .i64 0) 1 8 Tryz.underlying56 hi hz0 hz1 hz2 rfl (by decide) _ L.length (L.map (Value.int .i64)) rfl (hown.alloc _) ⟨w.heap.size, 0, none⟩ 1 1 [.int .i64 a] rfl rfl ?_ ?_ ?_ ?_ ?_ ?_; (intro j u hj; match j, hj with | 0, hj => (simp at hj; subst hj; simp [Addr.add])); (intro u hu; simp at hu; subst hu; rfl); (unfold maxLen; omega); omega; (simp; omega); intro v' w1 hown' hgrow _; obtain ⟨b1, cap1, ev'⟩ := own_shape hown' (Nat.succ_pos _); subst ev'; have hc1 : w1.heap[c]? = some (.cells #[v] 56 (0, 0)) := (hgrow.block c (by simp; omega) (own_not hown hcb)).trans ((Below.heap_alloc _ _ _ lc).trans HC.out); have cc1 : w1.cell? ⟨c, 0, none⟩ = some v := (by simp [World.cell?, hc1]); have cf1 : w1.frozen? ⟨c, 0, none⟩ = false := (by simp [World.frozen?, hc1]); have HC1 : Hid (w1.heap[c]? = some (.cells #[v] 56 (0, 0))) := hc1; clear hc1)
  go_end0
  refine ⟨rfl, .slice (some ⟨b1, 0, none⟩) (L.length + 1) cap1, ?_, ?_, ?_⟩
  · have hc1 := HC1.out
    simp only [World.setCell, Array.getElem?_modify, if_true, hc1, Option.map_some]
    simp
  · have := ownsRow_setCell_below hown' (a := ⟨c, 0, none⟩) hcb (.slice (some ⟨b1, 0, none⟩) (L.length + 1) cap1)
    simpa using this
  · refine (Sb.of ((Below.refl base w).alloc hB _) (Nat.le_refl _)).trans (Sb.trans (Sb.of ((Below.refl base _).grown hgrow (by simp; omega) (own_ge hown)) (Nat.le_refl _)) ?_)
    exact ⟨rfl, rfl, rfl, by simp [World.setCell], fun k _ h1 => Below.heap_setCell _ _ _ _ h1⟩

set_option maxRecDepth 100000 in
set_option maxHeartbeats 1000000 in
theorem each1_any {p q N O y g : Nat} {ws : List Int} (b s u : Int) (c : Nat) (w : World) (h : At w p q N O y g ws) (hc : w.heap[c]? = some (.cells #[.slice none 0 0] 56 (0, 0))) (hpc : p ≠ c) (hqc : q ≠ c)
    (b0 : 0 ≤ b) (b1 : b ≤ 2000) (u0 : 0 ≤ u) (u1 : u ≤ 2000) :
    Calls Tryz.prog 76 #[.pointer (some ⟨p, 0, none⟩), .agg #[.int .i64 b, .int .i64 s, .int .i64 u], .func (.func 77) #[] #[.pointer (some ⟨c, 0, none⟩)]] w fun e w' => e = .returned (.tuple #[]) ∧ ∃ v, w'.heap[c]? = some (.cells #[v] 56 (0, 0)) ∧ w'.ownsRow w.heap.size 3 1 v (ths N y g ws (b + u) 2000 b).length ((ths N y g ws (b + u) 2000 b).map (Value.int .i64)) ∧ Sb w.heap.size c w w' := by
  have lp := h.ltp
  have lc := lt_of_some hc
  have HC : Hid (w.heap[c]? = some (.cells #[.slice none 0 0] 56 (0, 0))) := hc
  clear hc
  go_enter Tryz.func76, Tryz.ntmps76
  go_wp2_with fail
  go_loopw [6] (fun i wr => ∃ (a : Int) (L : List Int) (k : Nat) (v : Value), i = .int .i64 a ∧ b ≤ a ∧ a ≤ 100000 ∧ b + u - a ≤ k ∧ (L.length : Int) + b ≤ a ∧ L ++ ths N y g ws (b + u) k a = ths N y g ws (b + u) 2000 b ∧ wr.heap[c]? = some (.cells #[v] 56 (0, 0)) ∧ wr.ownsRow (w.heap.size + 1) 3 1 v L.length (L.map (Value.int .i64)) ∧ Sb (w.heap.size + 1) c (w.alloc (.cells #[.int .i64 b, .int .i64 s, .int .i64 u] 129)) wr) (fun i _ => (b + u - intOf i).toNat)
  case atStart => exact ⟨b, [], 2000, _, rfl, by omega, by omega, by omega, by simp, rfl, (Below.heap_alloc _ _ _ lc).trans HC.out, World.ownsRow_nil _ _ _ _, Sb.refl _ _ _⟩
  case round =>
    obtain ⟨a, L, k, v, rfl, a1, a2, a3, a4, a5, hc, hown, hS⟩ := hrel
    have hbox := hS.block w.heap.size (by omega) (by omega)
    rw [heap_alloc_new] at hbox
    have x0 : wr.cell? ⟨w.heap.size, 0, none⟩ = some (.int .i64 b) := by simp [World.cell?, hbox]
    have x1 : wr.cell? ⟨w.heap.size, 1, none⟩ = some (.int .i64 s) := by simp [World.cell?, hbox]
    have x2 : wr.cell? ⟨w.heap.size, 2, none⟩ = some (.int .i64 u) := by simp [World.cell?, hbox]
    have hA : At wr p q N O y g ws := (h.alloc _).same (hS.block p (by omega) hpc) (hS.block q (by have := h.ltq; omega) hqc)
    have hsz := hS.size
    simp only [World.size_alloc] at hsz
    have A5 : Hid (L ++ ths N y g ws (b + u) k a = ths N y g ws (b + u) 2000 b) := a5
    have CC : Hid (wr.heap[c]? = some (.cells #[v] 56 (0, 0))) := hc
    have BX : Hid (wr.heap[w.heap.size]? = some (.cells #[.int .i64 b, .int .i64 s, .int .i64 u] 129)) := hbox
    clear a5 hc hbox
    go_wp2_with fail
    refine (end_any b s u _ b0 (by omega) u0 (by omega)).mono ?_
    rintro e w1 ⟨rfl, hb1⟩
    clear x0 x1 x2
    by_cases hlt : a < b + u
    · go_wp2_with fail
      refine (thing_any a _ (hA.below hb1 (Nat.le_refl _))).mono ?_
      rintro e w2 ⟨rfl, hb2⟩
      have hb12 : Below wr.heap.size wr w2 := hb1.trans (hb2.mono hb1.size)
      by_cases hp : pc (ld N y g ws a) = 0
      · obtain ⟨f0, f1⟩ := pc_bd _ hp
        obtain ⟨k', rfl, e1⟩ := ths_yes (N := N) (y := y) (g := g) (ws := ws) k a3 hlt hp
        have HP : Hid (pc (ld N y g ws a) = 0) := hp
        have E1 : Hid (ths N y g ws (b + u) (k' + 1) a = a :: ths N y g ws (b + u) k' (a + (1 + pf (ld N y g ws a)))) := e1
        clear hp e1
        rw [HP.out]
        go_wp2_with fail
        refine (look1_any a c (w.heap.size + 1) v L w2 ((hb12.block c (lt_of_some CC.out)).trans CC.out) (by omega) (by have := hb12.size; omega) (owned_below hown hb12) (by omega)).mono ?_
        rintro e w3 ⟨rfl, v', hc3, hown3, hS3⟩
        have CC3 : Hid (w3.heap[c]? = some (.cells #[v'] 56 (0, 0))) := hc3
        clear hc3
        go_wp2_with fail
        go_roundw
        case rel => exact ⟨a + (1 + pf (ld N y g ws a)), L ++ [a], k', v', rfl, by omega, by omega, by omega, by simp; omega, by rw [← A5.out, E1.out]; simp, CC3.out, hown3, (hS.trans (Sb.of hb12 hsz)).trans hS3⟩
        case measure => simp [intOf]; omega
      · have t : (pc (ld N y g ws a) != 0) = true := by simpa using hp
        have e1 := ths_no (N := N) (y := y) (g := g) (ws := ws) (hi := b + u) k hp
        have E1 : Hid (ths N y g ws (b + u) k a = []) := e1
        clear hp e1
        go_wp2_with fail
        refine bodyPost_ret (results_none rfl _ _ _) rfl ?_
        have e2 := A5.out
        rw [E1.out, List.append_nil] at e2
        rw [← e2]
        exact ⟨rfl, v, (hb12.block c (lt_of_some CC.out)).trans CC.out, owned_mono (owned_below hown hb12) (by omega), ⟨(hS.trans (Sb.of hb12 hsz)).os, (hS.trans (Sb.of hb12 hsz)).tape, (hS.trans (Sb.of hb12 hsz)).output, by have := (hS.trans (Sb.of hb12 hsz)).size; simp at this; omega, fun k hk h1 => ((hS.trans (Sb.of hb12 hsz)).block k (by omega) h1).trans (Below.heap_alloc _ _ _ hk)⟩⟩
    · go_wp2_with fail
      refine bodyPost_end (results_none rfl _ _ _) rfl ?_
      have e2 := A5.out
      rw [ths_end k (by omega), List.append_nil] at e2
      rw [← e2]
      exact ⟨rfl, v, (hb1.block c (lt_of_some CC.out)).trans CC.out, owned_mono (owned_below hown hb1) (by omega), ⟨(hS.trans (Sb.of hb1 hsz)).os, (hS.trans (Sb.of hb1 hsz)).tape, (hS.trans (Sb.of hb1 hsz)).output, by have := (hS.trans (Sb.of hb1 hsz)).size; simp at this; omega, fun k hk h1 => ((hS.trans (Sb.of hb1 hsz)).block k (by omega) h1).trans (Below.heap_alloc _ _ _ hk)⟩⟩

end Go.Proofs.YtakofbkmhmcnfabGreat

/- What Things of package arena answers: its own contract, over the seat's own translation; nothing that was in memory turns. -/
namespace Go.Proofs.YtakofbkmhmcnfabGreat
open Go.RowKit W

set_option maxRecDepth 100000 in
set_option maxHeartbeats 1000000 in
theorem look2_any (a : Int) (c base : Nat) (v : Value) (L : List Int) (w : World) (hc : w.heap[c]? = some (.cells #[v] 56 (0, 0))) (hcb : c < base) (hB : base ≤ w.heap.size)
    (hown : w.ownsRow base 3 1 v L.length (L.map (Value.int .i64))) (hL : L.length ≤ 100000) :
    Calls Tryz.prog 78 #[.int .i64 a, .pointer (some ⟨c, 0, none⟩)] w fun e w' => e = .returned (.tuple #[]) ∧ ∃ v', w'.heap[c]? = some (.cells #[v'] 56 (0, 0)) ∧ w'.ownsRow base 3 1 v' (L ++ [a]).length ((L ++ [a]).map (Value.int .i64)) ∧ Sb base c w w' := by
  obtain ⟨i0, hi, hz0, hz1, hz2⟩ := info_parts infoInt
  have cc : w.cell? ⟨c, 0, none⟩ = some v := by simp [World.cell?, hc]
  have HC : Hid (w.heap[c]? = some (.cells #[v] 56 (0, 0))) := hc
  clear hc
  have lc : c < w.heap.size := by omega
  go_enter Tryz.func78, Tryz.ntmps78
  go_wp2_with (at_builtin; refine wpList_append_own _ rfl _ _ 56 rfl base 3 i0 (.int .i64 0) 1 8 Tryz.underlying56 hi hz0 hz1 hz2 rfl (by decide) _ L.length (L.map (Value.int .i64)) rfl (hown.alloc _) ⟨w.heap.size, 0, none⟩ 1 1 [.int .i64 a] rfl rfl ?_ ?_ ?_ ?_ ?_ ?_; (intro j u hj; match j, hj with | 0, hj => (simp at hj; subst hj; simp [Addr.add])); (intro u hu; simp at hu; subst hu; rfl); (unfold maxLen; omega); omega; (simp; omega); intro v' w1 hown' hgrow _; obtain ⟨b1, cap1, ev'⟩ := own_shape hown' (Nat.succ_pos _); subst ev'; have hc1 : w1.heap[c]? = some (.cells #[v] 56 (0, 0)) := (hgrow.block c (by simp; omega) (own_not hown hcb)).trans ((Below.heap_alloc _ _ _ lc).trans HC.out); have cc1 : w1.cell? ⟨c, 0, none⟩ = some v := (by simp [World.cell?, hc1]); have cf1 : w1.frozen? ⟨c, 0, none⟩ = false := (by simp [World.frozen?, hc1]); have HC1 : Hid (w1.heap[c]? = some (.cells #[v] 56 (0, 0))) := hc1; clear hc1)
  go_end0
  refine ⟨rfl, .slice (some ⟨b1, 0, none⟩) (L.length + 1) cap1, ?_, ?_, ?_⟩
  · have hc1 := HC1.out
    simp only [World.setCell, Array.getElem?_modify, if_true, hc1, Option.map_some]
    simp
  · have := ownsRow_setCell_below hown' (a := ⟨c, 0, none⟩) hcb (.slice (some ⟨b1, 0, none⟩) (L.length + 1) cap1)
    simpa using this
  · refine (Sb.of ((Below.refl base w).alloc hB _) (Nat.le_refl _)).trans (Sb.trans (Sb.of ((Below.refl base _).grown hgrow (by simp; omega) (own_ge hown)) (Nat.le_refl _)) ?_)
    exact ⟨rfl, rfl, rfl, by simp [World.setCell], fun k _ h1 => Below.heap_setCell _ _ _ _ h1⟩

set_option maxRecDepth 100000 in
set_option maxHeartbeats 1000000 in
theorem each2_any {p q N O y g : Nat} {ws : List Int} (b s u : Int) (c : Nat) (w : World) (h : At w p q N O y g ws) (hc : w.heap[c]? = some (.cells #[.slice none 0 0] 56 (0, 0))) (hpc : p ≠ c) (hqc : q ≠ c)
    (b0 : 0 ≤ b) (b1 : b ≤ 2000) (u0 : 0 ≤ u) (u1 : u ≤ 2000) :
    Calls Tryz.prog 76 #[.pointer (some ⟨p, 0, none⟩), .agg #[.int .i64 b, .int .i64 s, .int .i64 u], .func (.func 78) #[] #[.pointer (some ⟨c, 0, none⟩)]] w fun e w' => e = .returned (.tuple #[]) ∧ ∃ v, w'.heap[c]? = some (.cells #[v] 56 (0, 0)) ∧ w'.ownsRow w.heap.size 3 1 v (ths N y g ws (b + u) 2000 b).length ((ths N y g ws (b + u) 2000 b).map (Value.int .i64)) ∧ Sb w.heap.size c w w' := by
  have lp := h.ltp
  have lc := lt_of_some hc
  have HC : Hid (w.heap[c]? = some (.cells #[.slice none 0 0] 56 (0, 0))) := hc
  clear hc
  go_enter Tryz.func76, Tryz.ntmps76
  go_wp2_with fail
  go_loopw [6] (fun i wr => ∃ (a : Int) (L : List Int) (k : Nat) (v : Value), i = .int .i64 a ∧ b ≤ a ∧ a ≤ 100000 ∧ b + u - a ≤ k ∧ (L.length : Int) + b ≤ a ∧ L ++ ths N y g ws (b + u) k a = ths N y g ws (b + u) 2000 b ∧ wr.heap[c]? = some (.cells #[v] 56 (0, 0)) ∧ wr.ownsRow (w.heap.size + 1) 3 1 v L.length (L.map (Value.int .i64)) ∧ Sb (w.heap.size + 1) c (w.alloc (.cells #[.int .i64 b, .int .i64 s, .int .i64 u] 129)) wr) (fun i _ => (b + u - intOf i).toNat)
  case atStart => exact ⟨b, [], 2000, _, rfl, by omega, by omega, by omega, by simp, rfl, (Below.heap_alloc _ _ _ lc).trans HC.out, World.ownsRow_nil _ _ _ _, Sb.refl _ _ _⟩
  case round =>
    obtain ⟨a, L, k, v, rfl, a1, a2, a3, a4, a5, hc, hown, hS⟩ := hrel
    have hbox := hS.block w.heap.size (by omega) (by omega)
    rw [heap_alloc_new] at hbox
    have x0 : wr.cell? ⟨w.heap.size, 0, none⟩ = some (.int .i64 b) := by simp [World.cell?, hbox]
    have x1 : wr.cell? ⟨w.heap.size, 1, none⟩ = some (.int .i64 s) := by simp [World.cell?, hbox]
    have x2 : wr.cell? ⟨w.heap.size, 2, none⟩ = some (.int .i64 u) := by simp [World.cell?, hbox]
    have hA : At wr p q N O y g ws := (h.alloc _).same (hS.block p (by omega) hpc) (hS.block q (by have := h.ltq; omega) hqc)
    have hsz := hS.size
    simp only [World.size_alloc] at hsz
    have A5 : Hid (L ++ ths N y g ws (b + u) k a = ths N y g ws (b + u) 2000 b) := a5
    have CC : Hid (wr.heap[c]? = some (.cells #[v] 56 (0, 0))) := hc
    have BX : Hid (wr.heap[w.heap.size]? = some (.cells #[.int .i64 b, .int .i64 s, .int .i64 u] 129)) := hbox
    clear a5 hc hbox
    go_wp2_with fail
    refine (end_any b s u _ b0 (by omega) u0 (by omega)).mono ?_
    rintro e w1 ⟨rfl, hb1⟩
    clear x0 x1 x2
    by_cases hlt : a < b + u
    · go_wp2_with fail
      refine (thing_any a _ (hA.below hb1 (Nat.le_refl _))).mono ?_
      rintro e w2 ⟨rfl, hb2⟩
      have hb12 : Below wr.heap.size wr w2 := hb1.trans (hb2.mono hb1.size)
      by_cases hp : pc (ld N y g ws a) = 0
      · obtain ⟨f0, f1⟩ := pc_bd _ hp
        obtain ⟨k', rfl, e1⟩ := ths_yes (N := N) (y := y) (g := g) (ws := ws) k a3 hlt hp
        have HP : Hid (pc (ld N y g ws a) = 0) := hp
        have E1 : Hid (ths N y g ws (b + u) (k' + 1) a = a :: ths N y g ws (b + u) k' (a + (1 + pf (ld N y g ws a)))) := e1
        clear hp e1
        rw [HP.out]
        go_wp2_with fail
        refine (look2_any a c (w.heap.size + 1) v L w2 ((hb12.block c (lt_of_some CC.out)).trans CC.out) (by omega) (by have := hb12.size; omega) (owned_below hown hb12) (by omega)).mono ?_
        rintro e w3 ⟨rfl, v', hc3, hown3, hS3⟩
        have CC3 : Hid (w3.heap[c]? = some (.cells #[v'] 56 (0, 0))) := hc3
        clear hc3
        go_wp2_with fail
        go_roundw
        case rel => exact ⟨a + (1 + pf (ld N y g ws a)), L ++ [a], k', v', rfl, by omega, by omega, by omega, by simp; omega, by rw [← A5.out, E1.out]; simp, CC3.out, hown3, (hS.trans (Sb.of hb12 hsz)).trans hS3⟩
        case measure => simp [intOf]; omega
      · have t : (pc (ld N y g ws a) != 0) = true := by simpa using hp
        have e1 := ths_no (N := N) (y := y) (g := g) (ws := ws) (hi := b + u) k hp
        have E1 : Hid (ths N y g ws (b + u) k a = []) := e1
        clear hp e1
        go_wp2_with fail
        refine bodyPost_ret (results_none rfl _ _ _) rfl ?_
        have e2 := A5.out
        rw [E1.out, List.append_nil] at e2
        rw [← e2]
        exact ⟨rfl, v, (hb12.block c (lt_of_some CC.out)).trans CC.out, owned_mono (owned_below hown hb12) (by omega), ⟨(hS.trans (Sb.of hb12 hsz)).os, (hS.trans (Sb.of hb12 hsz)).tape, (hS.trans (Sb.of hb12 hsz)).output, by have := (hS.trans (Sb.of hb12 hsz)).size; simp at this; omega, fun k hk h1 => ((hS.trans (Sb.of hb12 hsz)).block k (by omega) h1).trans (Below.heap_alloc _ _ _ hk)⟩⟩
    · go_wp2_with fail
      refine bodyPost_end (results_none rfl _ _ _) rfl ?_
      have e2 := A5.out
      rw [ths_end k (by omega), List.append_nil] at e2
      rw [← e2]
      exact ⟨rfl, v, (hb1.block c (lt_of_some CC.out)).trans CC.out, owned_mono (owned_below hown hb1) (by omega), ⟨(hS.trans (Sb.of hb1 hsz)).os, (hS.trans (Sb.of hb1 hsz)).tape, (hS.trans (Sb.of hb1 hsz)).output, by have := (hS.trans (Sb.of hb1 hsz)).size; simp at this; omega, fun k hk h1 => ((hS.trans (Sb.of hb1 hsz)).block k (by omega) h1).trans (Below.heap_alloc _ _ _ hk)⟩⟩


/-- The things of the nursery, and of the old space. -/
def thY (N y g : Nat) (ws : List Int) : List Int := ths N y g ws y 2000 0
def thO (N y g : Nat) (ws : List Int) : List Int := ths N y g ws ((N : Int) + g) 2000 N

set_option maxRecDepth 100000 in
set_option maxHeartbeats 1000000 in
theorem things_any {p q N O y g : Nat} {ws : List Int} (w : World) (h : At w p q N O y g ws) :
    Calls Tryz.prog 24 #[.pointer (some ⟨p, 0, none⟩)] w fun e w' => ∃ v1 v2, e = .returned (.tuple #[v1, v2]) ∧ w'.ownsRow w.heap.size 3 1 v1 (thY N y g ws).length ((thY N y g ws).map (Value.int .i64)) ∧ w'.ownsRow w.heap.size 3 1 v2 (thO N y g ws).length ((thO N y g ws).map (Value.int .i64)) ∧ Below w.heap.size w w' := by
  obtain ⟨c0, c1, c2, c3, c4, c5, c6⟩ := h.cells
  have lp := h.ltp
  have lq := h.ltq
  have k1 := h.hN'
  have k2 := h.hy
  have k3 := h.hO
  have k4 := h.hg
  go_enter Tryz.func24, Tryz.ntmps24
  go_wp2_with fail
  refine (each1_any 0 N y w.heap.size _ ((h.alloc _).alloc _) ((Below.heap_alloc _ _ _ (by simp)).trans (heap_alloc_new _ _)) (by omega) (by omega) (by omega) (by omega) (by omega) (by omega)).mono ?_
  rintro e w1 ⟨rfl, v1, hc1, hown1, hS1⟩
  have h1 : At w1 p q N O y g ws := ((h.alloc _).alloc _).same (hS1.block p (by simp; omega) (by omega)) (hS1.block q (by simp; omega) (by omega))
  have hc2 : w1.heap[w.heap.size + 1]? = some (.cells #[.slice none 0 0] 56 (0, 0)) := (hS1.block (w.heap.size + 1) (by simp) (by omega)).trans (new_top _ (by simp))
  have CC1 : Hid (w1.heap[w.heap.size]? = some (.cells #[v1] 56 (0, 0))) := hc1
  have CC2 : Hid (w1.heap[w.heap.size + 1]? = some (.cells #[.slice none 0 0] 56 (0, 0))) := hc2
  have hz1 := hS1.size
  simp only [World.size_alloc] at hz1
  clear hc1 hc2 c0 c1 c2 c3 c4 c5 c6
  obtain ⟨c0, c1, c2, c3, c4, c5, c6⟩ := h1.cells
  go_wp2_with fail
  refine (each2_any N O g (w.heap.size + 1) _ h1 CC2.out (by omega) (by omega) (by omega) (by omega) (by omega) (by omega)).mono ?_
  rintro e w2 ⟨rfl, v2, hc2, hown2, hS2⟩
  have x1 : w2.cell? ⟨w.heap.size, 0, none⟩ = some v1 := by
    have := (hS2.block w.heap.size (by omega) (by omega)).trans CC1.out
    simp [World.cell?, this]
  have x2 : w2.cell? ⟨w.heap.size + 1, 0, none⟩ = some v2 := by simp [World.cell?, hc2]
  have hz2 := hS2.size
  clear hc2
  go_wp2_with fail
  go_quiet (fail)
  go_wp2_with fail
  go_ret2
  simp only [World.size_alloc] at hown1 hS1
  have e1 : thY N y g ws = ths N y g ws (0 + (y : Int)) 2000 0 := by rw [Int.zero_add]; rfl
  refine ⟨v1, v2, rfl, ?_, ?_, ?_⟩
  · rw [e1]
    exact owned_below (owned_mono (base := w.heap.size + 1 + 1) (owned_sb hown1 hS2 (Nat.le_refl _) (by omega)) (by omega)) (below_drewN (Below.refl _ _) _)
  · exact owned_below (owned_mono hown2 (by omega)) (below_drewN (Below.refl _ _) _)
  · exact below_drewN ((((Below.refl _ _).alloc (Nat.le_refl _) _).alloc (by simp) _).trans ((hS1.below (by omega) (Nat.le_refl _)).trans (hS2.below (by omega) (by omega)))) _

end Go.Proofs.YtakofbkmhmcnfabGreat

/- The document's comparisons of two lists answer true where both hold the same numbers: contracts, over the seat's own translation; nothing that was in memory turns. -/
namespace Go.Proofs.YtakofbkmhmcnfabGreat
open Go.RowKit W

/-- A slice's address is where these numbers lie (of none: wherever). -/
def Lies (w : World) (ad : Option Addr) (l : List Int) : Prop := 0 < l.length → ∃ b, ad = some ⟨b, 0, none⟩ ∧ ∀ i, i < l.length → w.cell? ⟨b, i, none⟩ = some (.int .i64 (l.getD i 0))

theorem Lies.below {w w' : World} {ad : Option Addr} {l : List Int} (h : Lies w ad l) (hb : Below w.heap.size w w') : Lies w' ad l := by
  intro hl
  obtain ⟨b, hb1, hc⟩ := h hl
  refine ⟨b, hb1, fun i hi => ?_⟩
  rw [hb.cell (p := ⟨b, i, none⟩) (World.block_lt_of_cell? w ⟨b, i, none⟩ (hc i hi)), hc i hi]

theorem lies_owned {w : World} {base : Nat} {e : TypeId} {v : Value} {l : List Int} (h : w.ownsRow base e 1 v l.length (l.map (Value.int .i64))) : ∃ ad cap, v = .slice ad l.length cap ∧ Lies w ad l := by
  rcases Nat.eq_zero_or_pos l.length with hz | hp
  · obtain ⟨_, h2⟩ := h
    rcases h2 with ⟨hv, _⟩ | ⟨b, cap, cur, hv, _⟩
    · exact ⟨none, 0, by rw [hz]; exact hv, fun h => by omega⟩
    · exact ⟨_, cap, hv, fun h => by omega⟩
  · obtain ⟨b, cap, hv, _, hc⟩ := owned_cells h hp
    exact ⟨_, cap, hv, fun _ => ⟨b, rfl, hc⟩⟩

end Go.Proofs.YtakofbkmhmcnfabGreat

/- The statements on arenas begin by a few steps in a small arena: they answer as the statements ask, in whatever memory; nothing that was in memory turns. -/
namespace Go.Proofs.YtakofbkmhmcnfabGreat
open Go.RowKit W

def B1 : List Int := fil (List.replicate 24 0) 0 33 2
def B2 : List Int := fil B1 3 194 12
def B3 : List Int := splice B2 16 ((B2.drop 0).take 3)
theorem lB0 : ld 16 16 0 B2 0 = 33 := by decide +kernel
theorem lB16 : ld 16 16 3 B3 16 = 33 := by decide +kernel
theorem lB1 : ld 16 16 3 B3 1 = 2 := by decide +kernel
theorem p33 : pk 33 = 1 ∧ pf 33 = 2 ∧ pc 33 = 0 := by decide +kernel
theorem e16 : endA 16 16 0 0 = 16 := by decide +kernel
theorem tB1 : thY 16 16 3 B3 = [0, 3] := by decide +kernel
theorem tB2 : thO 16 16 3 B3 = [16] := by decide +kernel

theorem cells_row {w : World} {a b : Int} {t : TypeId} : Lies (w.alloc (.cells #[.int .i64 a, .int .i64 b] t)) (some ⟨w.heap.size, 0, none⟩) [a, b] := by
  intro _
  refine ⟨_, rfl, fun i hi => ?_⟩
  match i, hi with
  | 0, _ => simp [go_sem]
  | 1, _ => simp [go_sem]
theorem cells_row1 {w : World} {a : Int} {t : TypeId} : Lies (w.alloc (.cells #[.int .i64 a] t)) (some ⟨w.heap.size, 0, none⟩) [a] := by
  intro _
  refine ⟨_, rfl, fun i hi => ?_⟩
  match i, hi with
  | 0, _ => simp [go_sem]
theorem Lies.alloc {w : World} {ad : Option Addr} {l : List Int} (h : Lies w ad l) (o : Obj) : Lies (w.alloc o) ad l := h.below ((Below.refl _ _).alloc (Nat.le_refl _) _)

end Go.Proofs.YtakofbkmhmcnfabGreat

/- Make and Copy of package arena in one contract each, whatever they are asked; what words are where a thing was made. -/
namespace Go.Proofs.YtakofbkmhmcnfabGreat
open Go.RowKit W

theorem length_fil (ws : List Int) (y : Nat) (hd : Int) (k : Nat) : (fil ws y hd k).length = ws.length := by
  induction k with
  | zero => simp [fil]
  | succ k ih => simp [fil, ih]
theorem getD_set (l : List Int) (i j : Nat) (x : Int) (h : i < l.length) : (l.set i x).getD j 0 = if i = j then x else l.getD j 0 := by
  rw [List.getD_eq_getElem?_getD, List.getD_eq_getElem?_getD, List.getElem?_set]
  split
  · rename_i e; subst e; simp
  · rfl
theorem fil_get (ws : List Int) (y : Nat) (hd : Int) (k i : Nat) (h : y + k < ws.length) : (fil ws y hd k).getD i 0 = if i = y then hd else if y + 1 ≤ i ∧ i < y + 1 + k then 2 else ws.getD i 0 := by
  induction k with
  | zero =>
    rw [fil, getD_set _ _ _ _ (by omega)]
    by_cases e : y = i
    · rw [if_pos e, if_pos e.symm]
    · rw [if_neg e, if_neg (fun c => e c.symm), if_neg (by omega)]
  | succ k ih =>
    rw [fil, getD_set _ _ _ _ (by rw [length_fil]; omega), ih (by omega)]
    by_cases e : y + 1 + k = i
    · rw [if_pos e, if_neg (by omega), if_pos (by omega)]
    · rw [if_neg e]
      by_cases e2 : i = y
      · rw [if_pos e2, if_pos e2]
      · rw [if_neg e2, if_neg e2]
        by_cases e3 : y + 1 ≤ i ∧ i < y + 1 + k
        · rw [if_pos e3, if_pos (by omega)]
        · rw [if_neg e3, if_neg (by omega)]

theorem hB_head (y f : Nat) : hB 0 ((y + 1 + f : Nat) : Int) y = true := by simp [hB]; omega
theorem ld_head {N y g : Nat} {ws : List Int} (hd : Int) (f : Nat) (h : y + f < ws.length) : ld N (y + 1 + f) g (fil ws y hd f) y = hd := by
  have hi : iB N (y + 1 + f) g y = true := by unfold iB; rw [hB_head]; rfl
  unfold ld
  rw [if_pos hi, Int.toNat_natCast, fil_get _ _ _ _ _ h, if_pos rfl]
theorem en_head (N y g f : Nat) : endA N (y + 1 + f) g y = ((y + 1 + f : Nat) : Int) := by
  unfold endA
  rw [if_pos (hB_head y f)]
theorem ld_none {N y g : Nat} {ws : List Int} {a : Int} (h1 : a < 0 ∨ (y : Int) ≤ a) (h2 : a < N ∨ (N : Int) + g ≤ a) : ld N y g ws a = 0 := by
  have e1 : hB 0 y a = false := by simp [hB]; omega
  have e2 : hB N g a = false := by simp [hB]; omega
  unfold ld iB
  rw [e1, e2]
  rfl

/-- Is a thing made, or copied? -/
def mkB (N y : Nat) (k f : Int) : Bool := decide (hc k f = 0 ∧ f + 1 ≤ (N : Int) - y)
def cpB (N O y g : Nat) (ws : List Int) (a : Int) : Bool := decide (pc (ld N y g ws a) = 0 ∧ 1 + pf (ld N y g ws a) ≤ endA N y g a - a ∧ 1 + pf (ld N y g ws a) ≤ (O : Int) - g)
theorem mkB_yes {N y : Nat} {k f : Int} (h : mkB N y k f = true) : hc k f = 0 ∧ f + 1 ≤ (N : Int) - y := by simpa [mkB] using h
theorem mkB_no {N y : Nat} {k f : Int} (h : mkB N y k f = false) : hc k f ≠ 0 ∨ (N : Int) - y < f + 1 := by
  have : ¬ (hc k f = 0 ∧ f + 1 ≤ (N : Int) - y) := by simpa [mkB] using h
  by_cases c : hc k f = 0
  · exact Or.inr (by omega)
  · exact Or.inl c
theorem cpB_yes {N O y g : Nat} {ws : List Int} {a : Int} (h : cpB N O y g ws a = true) : pc (ld N y g ws a) = 0 ∧ 1 + pf (ld N y g ws a) ≤ endA N y g a - a ∧ 1 + pf (ld N y g ws a) ≤ (O : Int) - g := by simpa [cpB] using h
theorem cpB_no {N O y g : Nat} {ws : List Int} {a : Int} (h : cpB N O y g ws a = false) : pc (ld N y g ws a) ≠ 0 ∨ endA N y g a - a < 1 + pf (ld N y g ws a) ∨ (O : Int) - g < 1 + pf (ld N y g ws a) := by
  have : ¬ (pc (ld N y g ws a) = 0 ∧ 1 + pf (ld N y g ws a) ≤ endA N y g a - a ∧ 1 + pf (ld N y g ws a) ≤ (O : Int) - g) := by simpa [cpB] using h
  by_cases c : pc (ld N y g ws a) = 0
  · exact Or.inr (by omega)
  · exact Or.inl c

/-- What Make answers and leaves. -/
def mkR (N y : Nat) (k f : Int) : Int := if mkB N y k f = true then (y : Int) else -1
def mkY (N y : Nat) (k f : Int) : Nat := if mkB N y k f = true then y + 1 + f.toNat else y
def mkW (N y : Nat) (k f : Int) (ws : List Int) : List Int := if mkB N y k f = true then fil ws y (hw k f) f.toNat else ws
def cpR (N O y g : Nat) (ws : List Int) (a : Int) : Int := if cpB N O y g ws a = true then ((N + g : Nat) : Int) else -1
def cpG (N O y g : Nat) (ws : List Int) (a : Int) : Nat := if cpB N O y g ws a = true then g + (1 + (pf (ld N y g ws a)).toNat) else g
def cpW (N O y g : Nat) (ws : List Int) (a : Int) : List Int := if cpB N O y g ws a = true then splice ws (N + g) ((ws.drop a.toNat).take (1 + (pf (ld N y g ws a)).toNat)) else ws

theorem make_any {p q N O y g : Nat} {ws : List Int} (k f : Int) (w : World) (h : At w p q N O y g ws) :
    Calls Tryz.prog 33 #[.pointer (some ⟨p, 0, none⟩), .int .i64 k, .int .i64 f] w fun e w' => e = .returned (.int .i64 (mkR N y k f)) ∧ At w' p q N O (mkY N y k f) g (mkW N y k f ws) ∧ Sv p q w w' := by
  unfold mkR mkY mkW
  cases hb : mkB N y k f
  · rw [if_neg (by simp), if_neg (by simp), if_neg (by simp)]
    exact (make_no k f w h (mkB_no hb)).mono fun e w' hx => ⟨hx.1, h.below hx.2 (Nat.le_refl _), Sv.of hx.2⟩
  · rw [if_pos rfl, if_pos rfl, if_pos rfl]
    exact make_yes k f w h (mkB_yes hb).1 (mkB_yes hb).2

theorem copy_any {p q N O y g : Nat} {ws : List Int} (a : Int) (w : World) (h : At w p q N O y g ws) :
    Calls Tryz.prog 159 #[.pointer (some ⟨p, 0, none⟩), .int .i64 a] w fun e w' => e = .returned (.int .i64 (cpR N O y g ws a)) ∧ At w' p q N O y (cpG N O y g ws a) (cpW N O y g ws a) ∧ Sv p q w w' := by
  unfold cpR cpG cpW
  cases hb : cpB N O y g ws a
  · rw [if_neg (by simp), if_neg (by simp), if_neg (by simp)]
    exact (copy_no a w h (cpB_no hb)).mono fun e w' hx => ⟨hx.1, h.below hx.2 (Nat.le_refl _), Sv.of hx.2⟩
  · rw [if_pos rfl, if_pos rfl, if_pos rfl]
    exact copy_yes a w h (cpB_yes hb).1 (cpB_yes hb).2.1 (cpB_yes hb).2.2

/-- A list of steps that came in: so many; the numbers of each. -/
def IsSteps (w : World) (ad : Option Addr) (n : Nat) (S : Nat → Int × Int × Int × Int) : Prop :=
  0 < n → ∃ b o, ad = some ⟨b, o, none⟩ ∧ b < w.heap.size ∧ ∀ i, i < n → w.cell? ⟨b, o + i * 4, none⟩ = some (.int .i64 (S i).1) ∧ w.cell? ⟨b, o + i * 4 + 1, none⟩ = some (.int .i64 (S i).2.1) ∧ w.cell? ⟨b, o + i * 4 + 2, none⟩ = some (.int .i64 (S i).2.2.1) ∧ w.cell? ⟨b, o + i * 4 + 3, none⟩ = some (.int .i64 (S i).2.2.2)

end Go.Proofs.YtakofbkmhmcnfabGreat
