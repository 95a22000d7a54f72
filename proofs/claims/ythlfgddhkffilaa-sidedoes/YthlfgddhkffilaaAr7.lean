/- What Things of package arena answers: contracts of it, of the looks that it hands over, and of what shows them each place, over the seat's own translation; nothing that was in memory turns. -/
import Derived.Test.YthlfgddhkffilaaAr6
namespace Go.Proofs.Ythlfgddhkffilaa
open Go.RowKit W

/-- Below block number B all but block c is as it was. -/
structure Sb (B c : Nat) (w w' : World) : Prop where
  os : w'.os = w.os
  tape : w'.tape = w.tape
  output : w'.output = w.output
  size : w.heap.size ≤ w'.heap.size
  block : ∀ k, k < B → k ≠ c → w'.heap[k]? = w.heap[k]?
theorem Sb.refl (B c : Nat) (w : World) : Sb B c w w := ⟨rfl, rfl, rfl, Nat.le_refl _, fun _ _ _ => rfl⟩
theorem Sb.trans {B c : Nat} {a b d : World} (h : Sb B c a b) (k : Sb B c b d) : Sb B c a d :=
  ⟨k.os.trans h.os, k.tape.trans h.tape, k.output.trans h.output, Nat.le_trans h.size k.size, fun i hi h1 => (k.block i hi h1).trans (h.block i hi h1)⟩
theorem Sb.of {B D c : Nat} {w w' : World} (h : Below D w w') (hD : B ≤ D) : Sb B c w w' := ⟨h.os, h.tape, h.output, h.size, fun k hk _ => h.block k (by omega)⟩
theorem Sb.below {B D c : Nat} {w w' : World} (h : Sb B c w w') (hD : D ≤ B) (hc : D ≤ c) : Below D w w' := ⟨h.os, h.tape, h.output, h.size, fun k hk => h.block k (by omega) (by omega)⟩

theorem owned_below {w w' : World} {base n : Nat} {e : TypeId} {v : Value} {l : List Value} (h : w.ownsRow base e 1 v n l) (hb : Below w.heap.size w w') : w'.ownsRow base e 1 v n l := by
  obtain ⟨h1, h2⟩ := h
  refine ⟨h1, ?_⟩
  rcases h2 with h2 | ⟨b, cap, cur, hv, hb', hh, r⟩
  · exact Or.inl h2
  · exact Or.inr ⟨b, cap, cur, hv, hb', (hb.block b (lt_of_some hh)).trans hh, r⟩
theorem owned_mono {w : World} {base base' n : Nat} {e : TypeId} {v : Value} {l : List Value} (h : w.ownsRow base e 1 v n l) (hb : base' ≤ base) : w.ownsRow base' e 1 v n l := by
  obtain ⟨h1, h2⟩ := h
  refine ⟨h1, ?_⟩
  rcases h2 with h2 | ⟨b, cap, cur, hv, hb', r⟩
  · exact Or.inl h2
  · exact Or.inr ⟨b, cap, cur, hv, by omega, r⟩
theorem owned_sb {w w' : World} {base B c n : Nat} {e : TypeId} {v : Value} {l : List Value} (h : w.ownsRow base e 1 v n l) (hs : Sb B c w w') (hB : w.heap.size ≤ B) (hc : c < base) : w'.ownsRow base e 1 v n l := by
  obtain ⟨h1, h2⟩ := h
  refine ⟨h1, ?_⟩
  rcases h2 with h2 | ⟨b, cap, cur, hv, hb', hh, r⟩
  · exact Or.inl h2
  · exact Or.inr ⟨b, cap, cur, hv, hb', (hs.block b (by have := lt_of_some hh; omega) (by omega)).trans hh, r⟩

theorem infoInt : (Try.prog.info? 3).map (fun i => (i.zero, i.size, i.bytes)) = some (some (.int .i64 0), 1, 8) := by kernel_rfl

theorem own_not {w : World} {base n c : Nat} {e : TypeId} {v : Value} {l : List Value} (h : w.ownsRow base e 1 v n l) (hc : c < base) : some c ≠ v.ownBlock := by
  obtain ⟨_, h2⟩ := h
  rcases h2 with ⟨rfl, _⟩ | ⟨b, cap, cur, rfl, hb', _⟩
  · simp [Value.ownBlock]
  · simp [Value.ownBlock]; omega
theorem own_ge {w : World} {base n : Nat} {e : TypeId} {v : Value} {l : List Value} (h : w.ownsRow base e 1 v n l) : ∀ k, v.ownBlock = some k → base ≤ k := by
  obtain ⟨_, h2⟩ := h
  intro k hk
  rcases h2 with ⟨rfl, _⟩ | ⟨b, cap, cur, rfl, hb', _⟩
  · simp [Value.ownBlock] at hk
  · simp [Value.ownBlock] at hk; omega

theorem own_shape {w : World} {base n : Nat} {e : TypeId} {v : Value} {l : List Value} (h : w.ownsRow base e 1 v n l) (hn : 0 < n) : ∃ b cap, v = .slice (some ⟨b, 0, none⟩) n cap := by
  obtain ⟨_, h2⟩ := h
  rcases h2 with ⟨_, h2⟩ | ⟨b, cap, cur, hv, _⟩
  · omega
  · exact ⟨b, cap, hv⟩

/-- Where things begin from a place on, of what is in use ahead of another; at most so many. -/
def ths (N y g : Nat) (ws : List Int) (hi : Int) : Nat → Int → List Int
  | 0, _ => []
  | k + 1, a => if a < hi then (if pc (ld N y g ws a) = 0 then a :: ths N y g ws hi k (a + (1 + pf (ld N y g ws a))) else []) else []
theorem ths_end {N y g : Nat} {ws : List Int} {hi a : Int} (k : Nat) (h : hi ≤ a) : ths N y g ws hi k a = [] := by
  cases k with
  | zero => rfl
  | succ k => unfold ths; rw [if_neg (by omega)]
theorem ths_no {N y g : Nat} {ws : List Int} {hi a : Int} (k : Nat) (h : pc (ld N y g ws a) ≠ 0) : ths N y g ws hi k a = [] := by
  cases k with
  | zero => rfl
  | succ k => unfold ths; rw [if_neg h]; split <;> rfl
theorem ths_yes {N y g : Nat} {ws : List Int} {hi a : Int} (k : Nat) (hk : hi - a ≤ k) (h : a < hi) (h2 : pc (ld N y g ws a) = 0) :
    ∃ k', k = k' + 1 ∧ ths N y g ws hi k a = a :: ths N y g ws hi k' (a + (1 + pf (ld N y g ws a))) := by
  cases k with
  | zero => simp at hk; omega
  | succ k => exact ⟨k, rfl, by rw [ths, if_pos h, if_pos h2]⟩

set_option maxRecDepth 100000 in
set_option maxHeartbeats 1000000 in
theorem look1_any (a : Int) (c base : Nat) (v : Value) (L : List Int) (w : World) (hc : w.heap[c]? = some (.cells #[v] 61 (0, 0))) (hcb : c < base) (hB : base ≤ w.heap.size)
    (hown : w.ownsRow base 3 1 v L.length (L.map (Value.int .i64))) (hL : L.length ≤ 100000) :
    Calls Try.prog 93 #[.int .i64 a, .pointer (some ⟨c, 0, none⟩)] w fun e w' => e = .returned (.tuple #[]) ∧ ∃ v', w'.heap[c]? = some (.cells #[v'] 61 (0, 0)) ∧ w'.ownsRow base 3 1 v' (L ++ [a]).length ((L ++ [a]).map (Value.int .i64)) ∧ Sb base c w w' := by
  obtain ⟨i0, hi, hz0, hz1, hz2⟩ := info_parts infoInt
  have cc : w.cell? ⟨c, 0, none⟩ = some v := by simp [World.cell?, hc]
  have HC : Hid (w.heap[c]? = some (.cells #[v] 61 (0, 0))) := hc
  clear hc
  have lc : c < w.heap.size := by omega
  go_enter Try.func93, Try.ntmps93
  go_wp2_with (at_builtin; refine wpList_append_own _ rfl _ _ 61 rfl base 3 i0 (.int .i64 0) 1 8 Try.underlying61 hi hz0 hz1 hz2 rfl (by decide) _ L.length (L.map (Value.int .i64)) rfl (hown.alloc _) ⟨w.heap.size, 0, none⟩ 1 1 [.int .i64 a] rfl rfl ?_ ?_ ?_ ?_ ?_ ?_; (intro j u hj; match j, hj with | 0, hj => (simp at hj; subst hj; simp [Addr.add])); (intro u hu; simp at hu; subst hu; rfl); (unfold maxLen; omega); omega; (simp; omega); intro v' w1 hown' hgrow _; obtain ⟨b1, cap1, ev'⟩ := own_shape hown' (Nat.succ_pos _); subst ev'; have hc1 : w1.heap[c]? = some (.cells #[v] 61 (0, 0)) := (hgrow.block c (by simp; omega) (own_not hown hcb)).trans ((Below.heap_alloc _ _ _ lc).trans HC.out); have cc1 : w1.cell? ⟨c, 0, none⟩ = some v := (by simp [World.cell?, hc1]); have cf1 : w1.frozen? ⟨c, 0, none⟩ = false := (by simp [World.frozen?, hc1]); have HC1 : Hid (w1.heap[c]? = some (.cells #[v] 61 (0, 0))) := hc1; clear hc1)
  go_end0
  refine ⟨rfl, .slice (some ⟨b1, 0, none⟩) (L.length + 1) cap1, ?_, ?_, ?_⟩
  · have hc1 := HC1.out
    simp only [World.setCell, Array.getElem?_modify, if_true, hc1, Option.map_some]
    simp
  · have := ownsRow_setCell_below hown' (a := ⟨c, 0, none⟩) hcb (.slice (some ⟨b1, 0, none⟩) (L.length + 1) cap1)
    simpa using this
  · refine (Sb.of ((Below.refl base w).alloc hB _) (Nat.le_refl _)).trans (Sb.trans (Sb.of ((Below.refl base _).grown hgrow (by simp; omega) (own_ge hown)) (Nat.le_refl _)) ?_)
    exact ⟨rfl, rfl, rfl, by simp [World.setCell], fun k _ h1 => Below.heap_setCell _ _ _ _ h1⟩

set_option maxRecDepth 100000 in
set_option maxHeartbeats 1000000 in
theorem each1_any {p q N O y g : Nat} {ws : List Int} (b s u : Int) (c : Nat) (w : World) (h : At w p q N O y g ws) (hc : w.heap[c]? = some (.cells #[.slice none 0 0] 61 (0, 0))) (hpc : p ≠ c) (hqc : q ≠ c)
    (b0 : 0 ≤ b) (b1 : b ≤ 2000) (u0 : 0 ≤ u) (u1 : u ≤ 2000) :
    Calls Try.prog 92 #[.pointer (some ⟨p, 0, none⟩), .agg #[.int .i64 b, .int .i64 s, .int .i64 u], .func (.func 93) #[] #[.pointer (some ⟨c, 0, none⟩)]] w fun e w' => e = .returned (.tuple #[]) ∧ ∃ v, w'.heap[c]? = some (.cells #[v] 61 (0, 0)) ∧ w'.ownsRow w.heap.size 3 1 v (ths N y g ws (b + u) 2000 b).length ((ths N y g ws (b + u) 2000 b).map (Value.int .i64)) ∧ Sb w.heap.size c w w' := by
  have lp := h.ltp
  have lc := lt_of_some hc
  have HC : Hid (w.heap[c]? = some (.cells #[.slice none 0 0] 61 (0, 0))) := hc
  clear hc
  go_enter Try.func92, Try.ntmps92
  go_wp2_with fail
  go_loopw [6] (fun i wr => ∃ (a : Int) (L : List Int) (k : Nat) (v : Value), i = .int .i64 a ∧ b ≤ a ∧ a ≤ 100000 ∧ b + u - a ≤ k ∧ (L.length : Int) + b ≤ a ∧ L ++ ths N y g ws (b + u) k a = ths N y g ws (b + u) 2000 b ∧ wr.heap[c]? = some (.cells #[v] 61 (0, 0)) ∧ wr.ownsRow (w.heap.size + 1) 3 1 v L.length (L.map (Value.int .i64)) ∧ Sb (w.heap.size + 1) c (w.alloc (.cells #[.int .i64 b, .int .i64 s, .int .i64 u] 115)) wr) (fun i _ => (b + u - intOf i).toNat)
  case atStart => exact ⟨b, [], 2000, _, rfl, by omega, by omega, by omega, by simp, rfl, (Below.heap_alloc _ _ _ lc).trans HC.out, World.ownsRow_nil _ _ _ _, Sb.refl _ _ _⟩
  case round =>
    obtain ⟨a, L, k, v, rfl, a1, a2, a3, a4, a5, hc, hown, hS⟩ := hrel
    have hbox := hS.block w.heap.size (by omega) (by omega)
    rw [heap_alloc_new] at hbox
    have x0 : wr.cell? ⟨w.heap.size, 0, none⟩ = some (.int .i64 b) := by simp [World.cell?, hbox]
    have x1 : wr.cell? ⟨w.heap.size, 1, none⟩ = some (.int .i64 s) := by simp [World.cell?, hbox]
    have x2 : wr.cell? ⟨w.heap.size, 2, none⟩ = some (.int .i64 u) := by simp [World.cell?, hbox]
    have hA : At wr p q N O y g ws := (h.alloc _).same (hS.block p (by omega) hpc) (hS.block q (by have := h.ltq; omega) hqc)
    have hsz := hS.size
    simp only [World.size_alloc] at hsz
    have A5 : Hid (L ++ ths N y g ws (b + u) k a = ths N y g ws (b + u) 2000 b) := a5
    have CC : Hid (wr.heap[c]? = some (.cells #[v] 61 (0, 0))) := hc
    have BX : Hid (wr.heap[w.heap.size]? = some (.cells #[.int .i64 b, .int .i64 s, .int .i64 u] 115)) := hbox
    clear a5 hc hbox
    go_wp2_with fail
    refine (end_any b s u _ b0 (by omega) u0 (by omega)).mono ?_
    rintro e w1 ⟨rfl, hb1⟩
    clear x0 x1 x2
    by_cases hlt : a < b + u
    · go_wp2_with fail
      refine (thing_any a _ (hA.below hb1 (Nat.le_refl _))).mono ?_
      rintro e w2 ⟨rfl, hb2⟩
      have hb12 : Below wr.heap.size wr w2 := hb1.trans (hb2.mono hb1.size)
      by_cases hp : pc (ld N y g ws a) = 0
      · obtain ⟨f0, f1⟩ := pc_bd _ hp
        obtain ⟨k', rfl, e1⟩ := ths_yes (N := N) (y := y) (g := g) (ws := ws) k a3 hlt hp
        have HP : Hid (pc (ld N y g ws a) = 0) := hp
        have E1 : Hid (ths N y g ws (b + u) (k' + 1) a = a :: ths N y g ws (b + u) k' (a + (1 + pf (ld N y g ws a)))) := e1
        clear hp e1
        rw [HP.out]
        go_wp2_with fail
        refine (look1_any a c (w.heap.size + 1) v L w2 ((hb12.block c (lt_of_some CC.out)).trans CC.out) (by omega) (by have := hb12.size; omega) (owned_below hown hb12) (by omega)).mono ?_
        rintro e w3 ⟨rfl, v', hc3, hown3, hS3⟩
        have CC3 : Hid (w3.heap[c]? = some (.cells #[v'] 61 (0, 0))) := hc3
        clear hc3
        go_wp2_with fail
        go_roundw
        case rel => exact ⟨a + (1 + pf (ld N y g ws a)), L ++ [a], k', v', rfl, by omega, by omega, by omega, by simp; omega, by rw [← A5.out, E1.out]; simp, CC3.out, hown3, (hS.trans (Sb.of hb12 hsz)).trans hS3⟩
        case measure => simp [intOf]; omega
      · have t : (pc (ld N y g ws a) != 0) = true := by simpa using hp
        have e1 := ths_no (N := N) (y := y) (g := g) (ws := ws) (hi := b + u) k hp
        have E1 : Hid (ths N y g ws (b + u) k a = []) := e1
        clear hp e1
        go_wp2_with fail
        refine bodyPost_ret (results_none rfl _ _ _) rfl ?_
        have e2 := A5.out
        rw [E1.out, List.append_nil] at e2
        rw [← e2]
        exact ⟨rfl, v, (hb12.block c (lt_of_some CC.out)).trans CC.out, owned_mono (owned_below hown hb12) (by omega), ⟨(hS.trans (Sb.of hb12 hsz)).os, (hS.trans (Sb.of hb12 hsz)).tape, (hS.trans (Sb.of hb12 hsz)).output, by have := (hS.trans (Sb.of hb12 hsz)).size; simp at this; omega, fun k hk h1 => ((hS.trans (Sb.of hb12 hsz)).block k (by omega) h1).trans (Below.heap_alloc _ _ _ hk)⟩⟩
    · go_wp2_with fail
      refine bodyPost_end (results_none rfl _ _ _) rfl ?_
      have e2 := A5.out
      rw [ths_end k (by omega), List.append_nil] at e2
      rw [← e2]
      exact ⟨rfl, v, (hb1.block c (lt_of_some CC.out)).trans CC.out, owned_mono (owned_below hown hb1) (by omega), ⟨(hS.trans (Sb.of hb1 hsz)).os, (hS.trans (Sb.of hb1 hsz)).tape, (hS.trans (Sb.of hb1 hsz)).output, by have := (hS.trans (Sb.of hb1 hsz)).size; simp at this; omega, fun k hk h1 => ((hS.trans (Sb.of hb1 hsz)).block k (by omega) h1).trans (Below.heap_alloc _ _ _ hk)⟩⟩

end Go.Proofs.Ythlfgddhkffilaa
