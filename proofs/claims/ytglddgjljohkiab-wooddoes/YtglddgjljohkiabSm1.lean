/- The statements' own sets of words that are alive, and grow: what is and keep do: contracts, over the seat's own translation. -/
import Derived.Test.YtglddgjljohkiabSm
import Derived.Deep.QuietTactic
import Derived.Maps.AppendAt
namespace Go.Proofs.Ytglddgjljohkiab
open Go.RowKit W Kp

/-- A set of words: its struct is the block c; what is alive is A, what leads where L; all of its memory is of F. -/
structure Wd (w : World) (F : Nat → Prop) (c : Nat) (A : List Int) (L : Pairs) : Prop where
  sl : ∃ a ca b cb, w.heap[c]? = some (.cells #[.slice a A.length ca, .slice b L.length cb] 32 (0, 0)) ∧ w.ownsRow 0 2 1 (.slice a A.length ca) A.length (A.map (Value.int .i64)) ∧
    w.ownsRow 0 94 2 (.slice b L.length cb) L.length (ev L) ∧ (∀ k, some k = (Value.slice a A.length ca).ownBlock → F k) ∧ (∀ k, some k = (Value.slice b L.length cb).ownBlock → F k)
  fc : F c
  lt : ∀ k, F k → k < w.heap.size

theorem Wd.keep {w w' : World} {F : Nat → Prop} {c : Nat} {A : List Int} {L : Pairs} (h : Wd w F c A L) (hs : w.heap.size ≤ w'.heap.size) (hk : ∀ k, F k → w'.heap[k]? = w.heap[k]?) : Wd w' F c A L := by
  obtain ⟨a, ca, b, cb, h1, h2, h3, h4, h5⟩ := h.sl
  exact ⟨⟨a, ca, b, cb, (hk c h.fc).trans h1, row_keep h2 (fun k e => hk k (h4 k e)), row_keep h3 (fun k e => hk k (h5 k e)), h4, h5⟩, h.fc, fun k hk' => Nat.lt_of_lt_of_le (h.lt k hk') hs⟩
theorem Wd.below {w w' : World} {F : Nat → Prop} {c : Nat} {A : List Int} {L : Pairs} (h : Wd w F c A L) (hb : Below w.heap.size w w') : Wd w' F c A L := h.keep hb.size (fun k hk => hb.block k (h.lt k hk))
theorem Wd.alloc {w : World} {F : Nat → Prop} {c : Nat} {A : List Int} {L : Pairs} (h : Wd w F c A L) (o : Obj) : Wd (w.alloc o) F c A L := h.below ((Below.refl _ _).alloc (Nat.le_refl _) _)
theorem Wd.fr {w w' : World} {F X : Nat → Prop} {c : Nat} {A : List Int} {L : Pairs} (h : Wd w F c A L) (f : Fr X w w') (hx : ∀ k, F k → ¬ X k) : Wd w' F c A L := h.keep f.size (fun k hk => f.block k (h.lt k hk) (hx k hk))

theorem take_none {l : List Int} {k : Nat} {x : Int} (hlt : k < l.length) (h : (l.take k).contains x = false) (e : ¬ x = l[k]) : (l.take (k + 1)).contains x = false := by
  have e1 : l.take (k + 1) = l.take k ++ [l[k]] := by rw [List.take_add_one, List.getElem?_eq_getElem hlt]; rfl
  rw [e1]
  cases hc : (l.take k ++ [l[k]]).contains x
  · rfl
  · rw [List.contains_iff_mem, List.mem_append, List.mem_singleton] at hc
    rcases hc with h' | h'
    · rw [← List.contains_iff_mem, h] at h'
      cases h'
    · exact absurd h' e

set_option maxRecDepth 100000 in
set_option maxHeartbeats 1000000 in
theorem is_any {w : World} {F : Nat → Prop} {c : Nat} {A : List Int} {L : Pairs} (x : Int) (h : Wd w F c A L) (hm : A.length ≤ 100000) :
    Calls Try.prog 13 #[.pointer (some ⟨c, 0, none⟩), .int .i64 x] w fun e w' => e = .returned (.bool (A.contains x)) ∧ w' = w := by
  obtain ⟨a, ca, b, cb, h1, h2, h3, h4, h5⟩ := h.sl
  have c0 : w.cell? ⟨c, 0, none⟩ = some (.slice a A.length ca) := by simp [World.cell?, h1]
  have H : Hid (Ls w a A) := row_ints h2
  clear h1 h2 h3 h4 h5 h
  generalize hr : A.contains x = r
  have HR : Hid (A.contains x = r) := hr
  clear hr
  go_enter Try.func13, Try.ntmps13
  go_wp2_with fail
  go_loopw [5] (fun i wr => ∃ k : Nat, k ≤ A.length ∧ i = .int .i64 k ∧ wr = w ∧ Hid ((A.take k).contains x = false)) (fun i _ => A.length - (intOf i).toNat)
  case atStart => exact ⟨0, Nat.zero_le _, rfl, rfl, by simp [Hid]⟩
  case round =>
    obtain ⟨k, hk, rfl, rfl, HK⟩ := hrel
    by_cases hlt : k < A.length
    · obtain ⟨bb, of, rfl, _, hc⟩ := H.out (by omega)
      have x1 := hc k hlt
      have hg : A.getD k 0 = A[k] := by simp [List.getElem?_eq_getElem hlt]
      clear hc
      by_cases e : A.getD k 0 = x
      · have hrt : r = true := by
          rw [← HR.out, List.contains_iff_mem, ← e, hg]
          exact List.getElem_mem hlt
        subst hrt
        rw [e] at x1
        clear e hg
        go_wp2_with fail
        go_ret
        exact ⟨rfl, rfl⟩
      · have HK' : Hid ((A.take (k + 1)).contains x = false) := take_none hlt HK.out (fun h' => e (by rw [hg, h']))
        generalize A.getD k 0 = y at x1 e
        clear hg
        go_wp2_with fail
        go_roundw
        case rel => exact ⟨k + 1, by omega, by go_num, trivial, HK'⟩
        case measure => simp [intOf]; omega
    · have hrt : r = false := by
        rw [← HR.out, ← HK.out, List.take_of_length_le (by omega)]
      subst hrt
      go_wp2_with fail
      go_ret
      exact ⟨rfl, rfl⟩

theorem info64 : (Try.prog.info? 2).map (fun i => (i.zero, i.size, i.bytes)) = some (some (.int .i64 0), 1, 8) := by kernel_rfl

/-- One more is alive, by an append and a store. -/
theorem Wd.more {w w1 : World} {F : Nat → Prop} {c : Nat} {A : List Int} {L : Pairs} {x : Int} {a b : Option Addr} {ca cb b1 cap1 : Nat}
    (h1 : w.heap[c]? = some (.cells #[.slice a A.length ca, .slice b L.length cb] 32 (0, 0))) (h3 : w.ownsRow 0 94 2 (.slice b L.length cb) L.length (ev L))
    (h2 : w.ownsRow 0 2 1 (.slice a A.length ca) A.length (A.map (Value.int .i64))) (h4 : ∀ k, some k = (Value.slice a A.length ca).ownBlock → F k) (h5 : ∀ k, some k = (Value.slice b L.length cb).ownBlock → F k) (fc : F c) (lt : ∀ k, F k → k < w.heap.size)
    (ho : w1.ownsRow 0 2 1 (.slice (some ⟨b1, 0, none⟩) (A.length + 1) cap1) (A.length + 1) (A.map (Value.int .i64) ++ [.int .i64 x])) (hg : w.grownBy w1 (Value.slice a A.length ca).ownBlock) (hl : some b1 = (Value.slice a A.length ca).ownBlock ∨ b1 = w.heap.size) :
    Wd (w1.setCell ⟨c, 0, none⟩ (.slice (some ⟨b1, 0, none⟩) (A.length + 1) cap1)) (fun k => F k ∨ w.heap.size ≤ k ∧ k < w1.heap.size) c (A ++ [x]) L ∧ Fr F w (w1.setCell ⟨c, 0, none⟩ (.slice (some ⟨b1, 0, none⟩) (A.length + 1) cap1)) := by
  have hca : some c ≠ (Value.slice a A.length ca).ownBlock := fun e => by
    obtain ⟨cur, hc⟩ := row_type h2 c e
    rw [h1] at hc
    simp at hc
  have hcb : some c ≠ (Value.slice b L.length cb).ownBlock := fun e => by
    obtain ⟨cur, hc⟩ := row_type h3 c e
    rw [h1] at hc
    simp at hc
  have hab : ∀ k, some k = (Value.slice b L.length cb).ownBlock → some k ≠ (Value.slice a A.length ca).ownBlock := fun k e e' => by
    obtain ⟨cur, hc⟩ := row_type h3 k e
    obtain ⟨cur', hc'⟩ := row_type h2 k e'
    rw [hc] at hc'
    simp at hc'
  have hc1 : w1.heap[c]? = some (.cells #[.slice a A.length ca, .slice b L.length cb] 32 (0, 0)) := (hg.block c (lt_of_some h1) hca).trans h1
  have hne : b1 ≠ c := fun e => by
    obtain ⟨cur, hc⟩ := row_type ho b1 rfl
    rw [e, hc1] at hc
    simp at hc
  have hb1 := (row_lt ho b1 rfl).2
  refine ⟨⟨⟨some ⟨b1, 0, none⟩, cap1, b, cb, ?_, ?_, ?_, ?_, fun k e => Or.inl (h5 k e)⟩, Or.inl fc, ?_⟩, ?_⟩
  · simp only [World.setCell, Array.getElem?_modify, if_true, hc1, Option.map_some]
    simp
  · have := row_keep (w' := w1.setCell ⟨c, 0, none⟩ (.slice (some ⟨b1, 0, none⟩) (A.length + 1) cap1)) ho (fun k e => Below.heap_setCell _ _ _ _ (by simp [Value.ownBlock] at e; subst e; exact hne))
    simpa using this
  · refine row_keep h3 (fun k e => (Below.heap_setCell _ _ _ _ (fun e' => hcb (by rw [← e]; exact congrArg some e'.symm))).trans (hg.block k (row_lt h3 k e).2 (hab k e)))
  · intro k e
    simp [Value.ownBlock] at e
    subst e
    rcases hl with hl | hl
    · exact Or.inl (h4 k hl)
    · exact Or.inr ⟨by omega, hb1⟩
  · intro k hk
    have := hg.size
    simp only [World.setCell, Array.size_modify]
    rcases hk with hk | hk
    · have := lt k hk; omega
    · omega
  · exact ((Fr.refl F w).grown hg (fun k e => Or.inl (h4 k e.symm))).set c 0 _ fc

set_option maxRecDepth 100000 in
set_option maxHeartbeats 2000000 in
/-- keep, deep first. -/
theorem keep_any {c : Nat} {L : Pairs} (hL : L.length ≤ 10000) : ∀ (n : Nat) (w : World) (F : Nat → Prop) (A : List Int) (x : Int), Wd w F c A L → mu L A < n → A.length + mu L A + n ≤ 60000 →
    Calls Try.prog 11 #[.pointer (some ⟨c, 0, none⟩), .int .i64 x] w fun e w' => e = .returned (.int .i64 (wrap64 (x + 1000))) ∧ ∃ F', Wd w' F' c (dfs L n A x) L ∧ Fr F w w' ∧ ∀ k, F' k → F k ∨ w.heap.size ≤ k
  | 0, _, _, _, _, _, h, _ => by omega
  | n + 1, w, F, A, x, h, hmu, hA => by
    obtain ⟨i0, hi, hz0, hz1, hz2⟩ := info_parts info64
    by_cases cx : x ∈ A
    · rw [dfs_in _ _ _ _ cx]
      go_enter Try.func11, Try.ntmps11
      go_wp2_with fail
      refine (is_any x h (by omega)).mono ?_
      rintro e w1 ⟨rfl, hw1⟩
      have hw1 := hw1.symm
      subst hw1
      rw [List.contains_iff_mem.2 cx]
      clear cx
      go_wp2_with fail
      go_ret
      exact ⟨rfl, F, h, Fr.refl _ _, fun k hk => Or.inl hk⟩
    · have CX : Hid (x ∉ A) := cx
      rw [upto_all _ _ _ _ cx]
      obtain ⟨a, ca, b, cb, h1, h2, h3, h4, h5⟩ := h.sl
      have lc : c < w.heap.size := lt_of_some h1
      have c0 : w.cell? ⟨c, 0, none⟩ = some (.slice a A.length ca) := by simp [World.cell?, h1]
      have H1 : Hid (w.heap[c]? = some (.cells #[.slice a A.length ca, .slice b L.length cb] 32 (0, 0))) := h1
      have hcn : some c ≠ (Value.slice a A.length ca).ownBlock := fun e => by
        obtain ⟨cur, hc⟩ := row_type h2 c e
        rw [h1] at hc
        simp at hc
      have hcf : A.contains x = false := by simpa using cx
      go_enter Try.func11, Try.ntmps11
      go_wp2_with fail
      refine (is_any x h (by omega)).mono ?_
      rintro e w1 ⟨rfl, hw1⟩
      have hw1 := hw1.symm
      subst hw1
      rw [hcf]
      clear cx hcf h1
      go_wp2_with (at_builtin; refine wpList_append_own_at _ rfl _ _ 23 rfl 0 2 i0 (.int .i64 0) 1 8 Try.underlying23 hi hz0 hz1 hz2 rfl (by decide) (.slice a A.length ca) A.length (A.map (Value.int .i64)) rfl (h2.alloc _) ⟨w.heap.size, 0, none⟩ 1 1 [.int .i64 x] rfl rfl ?_ ?_ ?_ ?_ ?_ ?_; (intro j u hj; match j, hj with | 0, hj => (simp at hj; subst hj; simp [Addr.add])); (intro u hu; simp at hu; subst hu; rfl); (unfold maxLen; omega); omega; (simp); intro v' w1 hown' hgrow _ hloc; obtain ⟨b1, cap1, ev'⟩ := row_shape hown' (Nat.succ_pos _); subst ev'; have hc1 : w1.heap[c]? = some (.cells #[.slice a A.length ca, .slice b L.length cb] 32 (0, 0)) := (hgrow.block c (by simp; omega) hcn).trans ((Below.heap_alloc _ _ _ lc).trans H1.out); have cc1 : w1.cell? ⟨c, 0, none⟩ = some (.slice a A.length ca) := (by simp [World.cell?, hc1]); have cf1 : w1.frozen? ⟨c, 0, none⟩ = false := (by simp [World.frozen?, hc1]); clear hc1)
      obtain ⟨hW, hF⟩ := Wd.more (F := F) (x := x) ((Below.heap_alloc _ _ _ lc).trans H1.out) (h3.alloc _) (h2.alloc _) h4 h5 h.fc (fun k hk => by have := h.lt k hk; simp; omega) hown' hgrow (hloc.imp id (fun e => by simpa [Value.ownBlock] using e))
      have hF := ((Fr.refl F w).alloc (.cells #[.int .i64 x] 2)).trans hF (fun i c => Or.inl c)
      clear hown' hgrow hloc h2 h3 h4 h5 c0 cc1 cf1 H1 hcn
      go_wp2_with fail
      go_loopw [5] (fun i wr => ∃ (j : Nat) (F1 : Nat → Prop), j ≤ L.length ∧ i = .int .i64 j ∧ Wd wr F1 c (upto L n A x j) L ∧ Fr F w wr ∧ Hid (∀ k, F1 k → F k ∨ w.heap.size ≤ k)) (fun i _ => L.length - (intOf i).toNat)
      case atStart => exact ⟨0, fun k => F k ∨ (w.alloc (Obj.cells #[Value.int IntKind.i64 x] 2)).heap.size ≤ k ∧ k < w1.heap.size, Nat.zero_le _, rfl, by rw [upto_zero]; exact hW, hF, fun k hk => Or.imp id (fun h => by have := h.1; simp at this; omega) hk⟩
      case round =>
        clear hW hF
        obtain ⟨j, F1, hj, rfl, hW, hF, HF⟩ := hrel
        obtain ⟨a, ca, b, cb, h1, h2, h3, h4, h5⟩ := hW.sl
        have c1 : wr.cell? ⟨c, 1, none⟩ = some (.slice b L.length cb) := by simp [World.cell?, h1]
        have hp := row_pairs h3
        clear h1 h2 h3 h4 h5
        by_cases hlt : j < L.length
        · obtain ⟨bb, of, rfl, hbl, hc⟩ := hp (by omega)
          obtain ⟨x1, x2⟩ := hc j hlt
          clear hp hc
          have hd : L.getD j (0, 0) = L[j] := by simp [List.getElem?_eq_getElem hlt]
          have hu := upto_succ L n A x j hlt
          by_cases cq : (L.getD j (0, 0)).1 = x
          · have hm : mu L (upto L n A x j) < n := part_mu hmu CX.out (upto_part (dfs_kept L n) hmu CX.out j hj) (List.getElem_mem hlt) (by rw [← hd]; exact cq)
            have hl := upto_len hmu CX.out j hj
            rw [if_pos cq] at hu
            have HU : Hid (upto L n A x (j + 1) = dfs L n (upto L n A x j) (L.getD j (0, 0)).2) := hu
            rw [cq] at x1
            generalize (L.getD j (0, 0)).2 = y at x2 HU
            clear hu cq hd
            go_wp2_with fail
            refine (keep_any hL n _ F1 _ y hW hm (by omega)).mono ?_
            rintro e w3 ⟨rfl, F2, hW2, hF2, HF2⟩
            have HF3 : Hid (∀ k, F2 k → F k ∨ w.heap.size ≤ k) := fun k hk => (HF2 k hk).elim (HF.out k) (fun h => Or.inr (Nat.le_trans hF.size h))
            clear HF2
            go_wp2_with fail
            go_roundw
            case rel => exact ⟨j + 1, F2, by omega, by go_num, by rw [HU.out]; exact hW2, hF.trans hF2 HF.out, HF3⟩
            case measure => simp [intOf]; omega
          · rw [if_neg cq] at hu
            have HU : Hid (upto L n A x (j + 1) = upto L n A x j) := hu
            generalize (L.getD j (0, 0)).1 = y at x1 cq
            clear hu hd x2
            go_wp2_with fail
            go_roundw
            case rel => exact ⟨j + 1, F1, by omega, by go_num, by rw [HU.out]; exact hW, hF, HF⟩
            case measure => simp [intOf]; omega
        · obtain rfl : j = L.length := by omega
          clear hp
          go_wp2_with fail
          go_ret
          exact ⟨rfl, F1, hW, hF, HF.out⟩

end Go.Proofs.Ytglddgjljohkiab
