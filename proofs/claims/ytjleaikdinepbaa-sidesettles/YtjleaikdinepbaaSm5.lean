/- The document's answer's keep: by a list of what is still to be done: a contract, over the seat's own translation. -/
import Derived.Test.YtjleaikdinepbaaSm4
namespace Go.Proofs.Ytjleaikdinepbaa
open Go.RowKit W Kp

theorem Qu.tail {w : World} {e : TypeId} {g o n cap : Nat} {u : Value} {l : List Value} (h : Qu w e (.slice (some ⟨g, o, none⟩) n cap) (u :: l)) : Qu w e (.slice (some ⟨g, o + 1, none⟩) l.length (cap - 1)) l := by
  obtain ⟨g', o', cap', cur, hv, hg, h1, h2, h3, h4⟩ := h
  simp at hv
  obtain ⟨⟨rfl, rfl⟩, rfl, rfl⟩ := hv
  simp at h1
  refine ⟨g, o + 1, cap - 1, cur, rfl, hg, by omega, by omega, by omega, ?_⟩
  have e1 : cur.toList.drop (o + 1) = (cur.toList.drop o).drop 1 := by rw [List.drop_drop]
  have e2 := congrArg (List.drop 1) h4
  rw [List.drop_take] at e2
  rw [e1]
  simpa using e2
theorem Qu.one (w : World) (e : TypeId) (u : Value) : Qu (w.alloc (.cells #[u] e)) e (.slice (some ⟨w.heap.size, 0, none⟩) 1 1) [u] :=
  ⟨w.heap.size, 0, 1, #[u], rfl, heap_alloc_new _ _, by simp, by unfold maxLen; omega, by simp, by simp⟩
/-- .. where nothing is left behind it, it stays where it was. -/
theorem Qu.tail1 {w : World} {e : TypeId} {g o n : Nat} {u : Value} {l : List Value} (h : Qu w e (.slice (some ⟨g, o, none⟩) n 1) (u :: l)) : Qu w e (.slice (some ⟨g, o, none⟩) l.length 0) l := by
  obtain ⟨g', o', cap', cur, hv, hg, h1, h2, h3, h4⟩ := h
  simp at hv
  obtain ⟨⟨rfl, rfl⟩, rfl, rfl⟩ := hv
  have hl : l = [] := List.eq_nil_of_length_eq_zero (by rw [List.length_cons] at h1; omega)
  subst hl
  exact ⟨g, o, 0, cur, rfl, hg, by simp, by omega, by omega, by simp⟩
theorem Qu.fr {X : Nat → Prop} {w w' : World} {e : TypeId} {v : Value} {l : List Value} (h : Qu w e v l) (f : Fr X w w') (hx : ∀ k, some k = v.ownBlock → ¬ X k) : Qu w' e v l :=
  h.keep (fun k hk => f.block k (h.lt k hk) (hx k hk))
theorem Qu.alloc {w : World} {e : TypeId} {v : Value} {l : List Value} (h : Qu w e v l) (o : Obj) : Qu (w.alloc o) e v l := h.keep (fun k hk => Below.heap_alloc _ _ _ (h.lt k hk))
theorem Qu.shape {w : World} {e : TypeId} {v : Value} {l : List Value} (h : Qu w e v l) : ∃ g o cap, v = .slice (some ⟨g, o, none⟩) l.length cap := by
  obtain ⟨g, o, cap, cur, hv, _⟩ := h
  exact ⟨g, o, cap, hv⟩

/-- A slice's length. -/
def slen : Value → Nat
  | .slice _ n _ => n
  | _ => 0

set_option maxRecDepth 100000 in
set_option maxHeartbeats 2000000 in
theorem keep2_any {w : World} {ba bl bi : Nat} {A : List Int} {L : Pairs} {rowA : Option Nat} {adL : Option Addr} (x : Int) (n : Nat) (h : Sb2 w ba bl bi A L rowA adL) (hn : 1 + mu L A < n) (hL : L.length ≤ 10000) (hA : A.length + mu L A ≤ 50000) :
    Calls Try.prog 109 #[.int .i64 x, .pointer (some ⟨bi, 0, none⟩), .pointer (some ⟨ba, 0, none⟩), .pointer (some ⟨bl, 0, none⟩)] w fun e w' => e = .returned (.tuple #[]) ∧
      ∃ rowB, Sb2 w' ba bl bi (bfs L n A [x]) L rowB adL ∧ Fr (fun k => k = ba ∨ some k = rowA) w w' ∧ (rowB = rowA ∨ ∃ k, rowB = some k ∧ w.heap.size ≤ k) := by
  obtain ⟨i0, hi, hz0, hz1, hz2⟩ := info_parts info64
  obtain ⟨l1, l2, l3, l4, l5⟩ := h.lts
  go_enter Try.func109, Try.ntmps109
  go_wp2_with fail
  go_loopw [5] (fun tv wr => ∃ (m : Nat) (R t : List Int) (rowR : Option Nat) (g o cap : Nat), tv = .slice (some ⟨g, o, none⟩) t.length cap ∧ Qu wr 2 (.slice (some ⟨g, o, none⟩) t.length cap) (t.map (Value.int .i64)) ∧ Sb2 wr ba bl bi R L rowR adL ∧
      Hid (bfs L m R t = bfs L n A [x]) ∧ t.length + mu L R < m ∧ R.length + mu L R + t.length ≤ A.length + mu L A + 1 ∧ w.heap.size ≤ g ∧ Hid (some g ≠ rowR) ∧ Fr (fun k => k = ba ∨ some k = rowA) w wr ∧ Hid (rowR = rowA ∨ ∃ k, rowR = some k ∧ w.heap.size ≤ k))
    (fun tv wr => slen tv + muOf L ba wr)
  case atStart => exact ⟨n, A, [x], rowA, w.heap.size, 0, 1, rfl, Qu.one _ _ _, h.below ((Below.refl _ _).alloc (Nat.le_refl _) _), rfl, by simp; omega, by simp, Nat.le_refl _, fun e => by have := l4 _ e.symm; omega, (Fr.refl _ _).alloc _, Or.inl rfl⟩
  case round =>
    obtain ⟨m, R, t, rowR, g, o, cap, rfl, hQ, hS, HB, hm, hb, hg, HG, hF, HR⟩ := hrel
    have hmu := muOf_eq (L := L) hS
    cases t with
    | nil =>
      rw [bfs_end] at HB
      go_wp2_with fail
      go_end0
      refine ⟨rfl, rowR, by rw [← HB.out]; exact hS, hF, HR.out⟩
    | cons y t =>
      have x0 : wr.cell? ⟨g, o, none⟩ = some (.int .i64 y) := hQ.cell 0 _ rfl
      have y0 : wr.cell? ⟨bi, 0, none⟩ = some (.func (.func 108) #[] #[.pointer (some ⟨ba, 0, none⟩)]) := by simp [World.cell?, hS.is]
      have hcap : 0 < cap := by
        obtain ⟨g', o', cap', cur, hv, hg, h1, h2, h3, h4⟩ := hQ
        simp at hv h1
        omega
      simp only [List.length_cons] at hm hb
      obtain ⟨m, rfl⟩ : ∃ m', m = m' + 1 := ⟨m - 1, by omega⟩
      by_cases hc1 : cap = 1
      · subst hc1
        have hQ1 : Qu wr 2 (.slice (some ⟨g, o, none⟩) t.length 0) (t.map (Value.int .i64)) := by simpa using Qu.tail1 (u := .int .i64 y) (l := t.map (Value.int .i64)) hQ
        go_wp2_with fail
        obtain ⟨a, ca, s1, s2, s3⟩ := hS.sl
        have z0 : wr.cell? ⟨ba, 0, none⟩ = some (.slice a R.length ca) := by simp [World.cell?, s1]
        refine (is1_any y z0 (row_ints s2) (by omega)).mono ?_
        rintro e w1 ⟨rfl, hw1⟩
        have hw1 := hw1.symm
        subst hw1
        by_cases cy : y ∈ R
        · have HB' : Hid (bfs L m R t = bfs L n A [x]) := by rw [← HB.out, bfs_in _ _ _ _ _ cy]; rfl
          rw [List.contains_iff_mem.2 cy]
          clear cy s1 s2 s3 hQ
          go_wp2_with fail
          go_roundw
          case rel => exact ⟨m, R, t, rowR, g, o, 0, rfl, hQ1, hS, HB', by omega, by omega, hg, HG, hF, HR⟩
          case measure => simp [slen]
        · have HB' : Hid (bfs L m (R ++ [y]) (t ++ (L.filter (fun e => e.1 == y)).map (·.2)) = bfs L n A [x]) := by rw [← HB.out, bfs_new _ _ _ _ _ cy]; rfl
          have hma := mu_add L cy
          have hcf : R.contains y = false := by simpa using cy
          have hrn : (Value.slice a R.length ca).ownBlock = rowR := s3
          obtain ⟨q1, q2, q3, q4, q5⟩ := hS.nes
          obtain ⟨p1, p2, p3, p4, p5⟩ := hS.lts
          have S1 : Hid (wr.heap[ba]? = some (.cells #[.slice a R.length ca] 54 (0, 0))) := s1
          have hwr := hF.size
          rw [hcf]
          clear cy hcf s1 hQ
          go_wp2_with (at_builtin; refine wpList_append_own_at _ rfl _ _ 54 rfl 0 2 i0 (.int .i64 0) 1 8 Try.underlying54 hi hz0 hz1 hz2 rfl (by decide) (.slice a R.length ca) R.length (R.map (Value.int .i64)) rfl (s2.alloc _) ⟨wr.heap.size, 0, none⟩ 1 1 [.int .i64 y] rfl rfl ?_ ?_ ?_ ?_ ?_ ?_; (intro j u hj; match j, hj with | 0, hj => (simp at hj; subst hj; simp [Addr.add])); (intro u hu; simp at hu; subst hu; rfl); (unfold maxLen; omega); omega; (simp); intro v' w1 hown' hgrow _ hloc; obtain ⟨b1, cap2, ev'⟩ := row_shape hown' (Nat.succ_pos _); subst ev'; rw [hrn] at hgrow hloc; have hc1 : w1.heap[ba]? = some (.cells #[.slice a R.length ca] 54 (0, 0)) := (hgrow.block ba (by simp; omega) q3).trans ((Below.heap_alloc _ _ _ p1).trans S1.out); have cc1 : w1.cell? ⟨ba, 0, none⟩ = some (.slice a R.length ca) := (by simp [World.cell?, hc1]); have cf1 : w1.frozen? ⟨ba, 0, none⟩ = false := (by simp [World.frozen?, hc1]); clear hc1)
          have hl1 : some b1 = rowR ∨ b1 = (wr.alloc (.cells #[.int .i64 y] 2)).heap.size := hloc.imp id (fun e => by simpa [Value.ownBlock] using e)
          obtain ⟨hS2, hF2⟩ := Sb2.more (x := y) (hS.below ((Below.refl _ _).alloc (Nat.le_refl _) (.cells #[.int .i64 y] 2))) hown' hgrow hl1
          have hgb : g < wr.heap.size := hQ1.lt g rfl
          have hQ2 := (hQ1.alloc (.cells #[.int .i64 y] 2)).fr hF2 (fun k e => by
            simp [Value.ownBlock] at e
            subst e
            intro c
            rcases c with c | c
            · omega
            · exact HG.out c)
          have hg1 : g ≠ b1 := by
            rcases hl1 with c | c
            · exact fun e => HG.out (by rw [e]; exact c)
            · simp at c; omega
          have hF3 := (hF.alloc (.cells #[.int .i64 y] 2)).trans hF2 (fun i c => by
            rcases c with c | c
            · exact Or.inl (Or.inl c)
            · rcases HR.out with r | ⟨k, r, rk⟩
              · exact Or.inl (Or.inr (by rw [c, r]))
              · rw [r] at c; simp at c; exact Or.inr (by omega))
          have HR2 : Hid (some b1 = rowA ∨ ∃ k, some b1 = some k ∧ w.heap.size ≤ k) := by
            rcases hl1 with c | c
            · rw [c]; exact HR.out
            · exact Or.inr ⟨b1, rfl, by simp at c; omega⟩
          clear hown' hgrow hloc cc1 cf1 S1 hF2 hF hQ1 hS s2 s3 z0 x0 y0 q1 q2 q3 q4 q5 p1 p2 p3 p4 p5 hl1 HB HR HG
          generalize wr.heap.size = B0 at *
          go_wp2_with fail
          go_loopw [5, 7] (fun tv i wr => ∃ (j g2 o2 cap2 : Nat) (T : List Int), j ≤ L.length ∧ Hid (T = t ++ ledBy L y j) ∧ i = .int .i64 j ∧ tv = .slice (some ⟨g2, o2, none⟩) T.length cap2 ∧ Qu wr 2 (.slice (some ⟨g2, o2, none⟩) T.length cap2) (T.map (Value.int .i64)) ∧ Sb2 wr ba bl bi (R ++ [y]) L (some b1) adL ∧
              w.heap.size ≤ g2 ∧ g2 ≠ b1 ∧ Fr (fun k => k = ba ∨ some k = rowA) w wr) (fun _ i _ => L.length - (intOf i).toNat)
          case atStart => exact ⟨0, g, o, 0, t, Nat.zero_le _, by simp [Hid, ledBy_zero], rfl, rfl, hQ2, hS2, hg, hg1, hF3⟩
          case round =>
            clear hS2 hF3 hQ2
            obtain ⟨j, g2, o2, cap2, T, hj, HT, rfl, rfl, hQ, hS, hg2, hgb2, hF⟩ := hrel
            obtain ⟨p1, p2, p3, p4, p5⟩ := hS.lts
            have pb := p4 b1 rfl
            obtain ⟨cl, s4⟩ := hS.ll
            have z1 : wr.cell? ⟨bl, 0, none⟩ = some (.slice adL L.length cl) := by simp [World.cell?, s4]
            have hwr := hF.size
            have hTl : T.length ≤ t.length + L.length := by
              have := ledBy_len L y j
              rw [HT.out, List.length_append]
              omega
            clear s4
            by_cases hlt : j < L.length
            · obtain ⟨bb, of, eL, hbl, hc⟩ := hS.led (by omega)
              obtain ⟨x1, x2⟩ := hc j hlt
              rw [eL] at z1
              clear hc
              by_cases cq : (L.getD j (0, 0)).1 = y
              · have HT' : Hid (T ++ [(L.getD j (0, 0)).2] = t ++ ledBy L y (j + 1)) := by
                  show T ++ [(L.getD j (0, 0)).2] = t ++ ledBy L y (j + 1)
                  rw [ledBy_yes L y j hlt cq, HT.out, List.append_assoc]
                rw [cq] at x1
                generalize (L.getD j (0, 0)).2 = z at x2 HT'
                clear cq
                go_wp2_with (at_builtin; refine wpList_append_q _ rfl _ _ 54 rfl 2 i0 (.int .i64 0) Try.underlying54 hi hz0 hz1 hz2 rfl (.slice (some ⟨g2, o2, none⟩) T.length cap2) (T.map (Value.int .i64)) rfl (hQ.alloc _) ⟨wr.heap.size, 0, none⟩ 1 (.int .i64 z) rfl (by simp) rfl (by rw [List.length_map]; omega) ?_; intro v' w3 hQ3 hgrow hloc; obtain ⟨g3, o3, cap3, ev3⟩ := hQ3.shape; rw [List.length_append, List.length_map, List.length_singleton] at ev3; subst ev3)
                have hf3 : Fr (fun k => k = g2) (wr.alloc (.cells #[.int .i64 z] 2)) w3 := (Fr.refl _ _).grown hgrow (fun k e => Or.inl (by simp [Value.ownBlock] at e; exact e.symm))
                have hS3 := (hS.below ((Below.refl _ _).alloc (Nat.le_refl _) (.cells #[.int .i64 z] 2))).fr hf3 (by omega) (by omega) (by omega) (fun k e => by simp at e; omega) (fun hp a e => by have := l5 hp a e; omega)
                have hF3 := (hF.alloc (.cells #[.int .i64 z] 2)).trans hf3 (fun i c => Or.inr (by omega))
                have hg3 : w.heap.size ≤ g3 ∧ g3 ≠ b1 := by
                  rcases hloc with c | c
                  · simp [Value.ownBlock] at c; omega
                  · simp [Value.ownBlock] at c; omega
                have hQ3' : Qu w3 2 (.slice (some ⟨g3, o3, none⟩) (T ++ [z]).length cap3) ((T ++ [z]).map (Value.int .i64)) := by simpa using hQ3
                clear hQ hS hF hgrow hloc hQ3 hf3 x1 x2 z1
                go_wp2_with fail
                go_roundw
                case rel => exact ⟨j + 1, g3, o3, cap3, T ++ [z], by omega, HT', by go_num, by simp, hQ3', hS3, hg3.1, hg3.2, hF3⟩
                case measure => simp [intOf]; omega
              · have HT' : Hid (T = t ++ ledBy L y (j + 1)) := by
                  show T = t ++ ledBy L y (j + 1)
                  rw [ledBy_no L y j hlt cq]
                  exact HT.out
                generalize (L.getD j (0, 0)).1 = z at x1 cq
                clear x2
                go_wp2_with fail
                go_roundw
                case rel => exact ⟨j + 1, g2, o2, cap2, T, by omega, HT', by go_num, rfl, hQ, hS, hg2, hgb2, hF⟩
                case measure => simp [intOf]; omega
            · obtain rfl : j = L.length := by omega
              have HB2 : Hid (bfs L m (R ++ [y]) T = bfs L n A [x]) := by
                show bfs L m (R ++ [y]) T = bfs L n A [x]
                rw [← HB'.out, HT.out, ledBy_all]
              have hTe : T.length = t.length + (L.filter (fun e => e.1 == y)).length := by
                rw [HT.out, ledBy_all]
                simp
              have hmu2 := muOf_eq (L := L) hS
              go_wp2_with fail
              go_roundw
              case rel => exact ⟨m, R ++ [y], T, some b1, g2, o2, cap2, rfl, hQ, hS, HB2, by omega, by rw [List.length_append, List.length_singleton]; omega, hg2, fun e => hgb2 (by simpa using e), hF, HR2⟩
              case measure => simp [slen, hmu, hmu2]; omega
      · have hQ1 : Qu wr 2 (.slice (some ⟨g, o + 1, none⟩) t.length (cap - 1)) (t.map (Value.int .i64)) := by simpa using Qu.tail (u := .int .i64 y) (l := t.map (Value.int .i64)) hQ
        go_wp2_with fail
        obtain ⟨a, ca, s1, s2, s3⟩ := hS.sl
        have z0 : wr.cell? ⟨ba, 0, none⟩ = some (.slice a R.length ca) := by simp [World.cell?, s1]
        refine (is1_any y z0 (row_ints s2) (by omega)).mono ?_
        rintro e w1 ⟨rfl, hw1⟩
        have hw1 := hw1.symm
        subst hw1
        by_cases cy : y ∈ R
        · have HB' : Hid (bfs L m R t = bfs L n A [x]) := by rw [← HB.out, bfs_in _ _ _ _ _ cy]; rfl
          rw [List.contains_iff_mem.2 cy]
          clear cy s1 s2 s3 hQ
          go_wp2_with fail
          go_roundw
          case rel => exact ⟨m, R, t, rowR, g, (o + 1), (cap - 1), rfl, hQ1, hS, HB', by omega, by omega, hg, HG, hF, HR⟩
          case measure => simp [slen]
        · have HB' : Hid (bfs L m (R ++ [y]) (t ++ (L.filter (fun e => e.1 == y)).map (·.2)) = bfs L n A [x]) := by rw [← HB.out, bfs_new _ _ _ _ _ cy]; rfl
          have hma := mu_add L cy
          have hcf : R.contains y = false := by simpa using cy
          have hrn : (Value.slice a R.length ca).ownBlock = rowR := s3
          obtain ⟨q1, q2, q3, q4, q5⟩ := hS.nes
          obtain ⟨p1, p2, p3, p4, p5⟩ := hS.lts
          have S1 : Hid (wr.heap[ba]? = some (.cells #[.slice a R.length ca] 54 (0, 0))) := s1
          have hwr := hF.size
          rw [hcf]
          clear cy hcf s1 hQ
          go_wp2_with (at_builtin; refine wpList_append_own_at _ rfl _ _ 54 rfl 0 2 i0 (.int .i64 0) 1 8 Try.underlying54 hi hz0 hz1 hz2 rfl (by decide) (.slice a R.length ca) R.length (R.map (Value.int .i64)) rfl (s2.alloc _) ⟨wr.heap.size, 0, none⟩ 1 1 [.int .i64 y] rfl rfl ?_ ?_ ?_ ?_ ?_ ?_; (intro j u hj; match j, hj with | 0, hj => (simp at hj; subst hj; simp [Addr.add])); (intro u hu; simp at hu; subst hu; rfl); (unfold maxLen; omega); omega; (simp); intro v' w1 hown' hgrow _ hloc; obtain ⟨b1, cap2, ev'⟩ := row_shape hown' (Nat.succ_pos _); subst ev'; rw [hrn] at hgrow hloc; have hc1 : w1.heap[ba]? = some (.cells #[.slice a R.length ca] 54 (0, 0)) := (hgrow.block ba (by simp; omega) q3).trans ((Below.heap_alloc _ _ _ p1).trans S1.out); have cc1 : w1.cell? ⟨ba, 0, none⟩ = some (.slice a R.length ca) := (by simp [World.cell?, hc1]); have cf1 : w1.frozen? ⟨ba, 0, none⟩ = false := (by simp [World.frozen?, hc1]); clear hc1)
          have hl1 : some b1 = rowR ∨ b1 = (wr.alloc (.cells #[.int .i64 y] 2)).heap.size := hloc.imp id (fun e => by simpa [Value.ownBlock] using e)
          obtain ⟨hS2, hF2⟩ := Sb2.more (x := y) (hS.below ((Below.refl _ _).alloc (Nat.le_refl _) (.cells #[.int .i64 y] 2))) hown' hgrow hl1
          have hgb : g < wr.heap.size := hQ1.lt g rfl
          have hQ2 := (hQ1.alloc (.cells #[.int .i64 y] 2)).fr hF2 (fun k e => by
            simp [Value.ownBlock] at e
            subst e
            intro c
            rcases c with c | c
            · omega
            · exact HG.out c)
          have hg1 : g ≠ b1 := by
            rcases hl1 with c | c
            · exact fun e => HG.out (by rw [e]; exact c)
            · simp at c; omega
          have hF3 := (hF.alloc (.cells #[.int .i64 y] 2)).trans hF2 (fun i c => by
            rcases c with c | c
            · exact Or.inl (Or.inl c)
            · rcases HR.out with r | ⟨k, r, rk⟩
              · exact Or.inl (Or.inr (by rw [c, r]))
              · rw [r] at c; simp at c; exact Or.inr (by omega))
          have HR2 : Hid (some b1 = rowA ∨ ∃ k, some b1 = some k ∧ w.heap.size ≤ k) := by
            rcases hl1 with c | c
            · rw [c]; exact HR.out
            · exact Or.inr ⟨b1, rfl, by simp at c; omega⟩
          clear hown' hgrow hloc cc1 cf1 S1 hF2 hF hQ1 hS s2 s3 z0 x0 y0 q1 q2 q3 q4 q5 p1 p2 p3 p4 p5 hl1 HB HR HG
          generalize wr.heap.size = B0 at *
          go_wp2_with fail
          go_loopw [5, 7] (fun tv i wr => ∃ (j g2 o2 cap2 : Nat) (T : List Int), j ≤ L.length ∧ Hid (T = t ++ ledBy L y j) ∧ i = .int .i64 j ∧ tv = .slice (some ⟨g2, o2, none⟩) T.length cap2 ∧ Qu wr 2 (.slice (some ⟨g2, o2, none⟩) T.length cap2) (T.map (Value.int .i64)) ∧ Sb2 wr ba bl bi (R ++ [y]) L (some b1) adL ∧
              w.heap.size ≤ g2 ∧ g2 ≠ b1 ∧ Fr (fun k => k = ba ∨ some k = rowA) w wr) (fun _ i _ => L.length - (intOf i).toNat)
          case atStart => exact ⟨0, g, (o + 1), (cap - 1), t, Nat.zero_le _, by simp [Hid, ledBy_zero], rfl, rfl, hQ2, hS2, hg, hg1, hF3⟩
          case round =>
            clear hS2 hF3 hQ2
            obtain ⟨j, g2, o2, cap2, T, hj, HT, rfl, rfl, hQ, hS, hg2, hgb2, hF⟩ := hrel
            obtain ⟨p1, p2, p3, p4, p5⟩ := hS.lts
            have pb := p4 b1 rfl
            obtain ⟨cl, s4⟩ := hS.ll
            have z1 : wr.cell? ⟨bl, 0, none⟩ = some (.slice adL L.length cl) := by simp [World.cell?, s4]
            have hwr := hF.size
            have hTl : T.length ≤ t.length + L.length := by
              have := ledBy_len L y j
              rw [HT.out, List.length_append]
              omega
            clear s4
            by_cases hlt : j < L.length
            · obtain ⟨bb, of, eL, hbl, hc⟩ := hS.led (by omega)
              obtain ⟨x1, x2⟩ := hc j hlt
              rw [eL] at z1
              clear hc
              by_cases cq : (L.getD j (0, 0)).1 = y
              · have HT' : Hid (T ++ [(L.getD j (0, 0)).2] = t ++ ledBy L y (j + 1)) := by
                  show T ++ [(L.getD j (0, 0)).2] = t ++ ledBy L y (j + 1)
                  rw [ledBy_yes L y j hlt cq, HT.out, List.append_assoc]
                rw [cq] at x1
                generalize (L.getD j (0, 0)).2 = z at x2 HT'
                clear cq
                go_wp2_with (at_builtin; refine wpList_append_q _ rfl _ _ 54 rfl 2 i0 (.int .i64 0) Try.underlying54 hi hz0 hz1 hz2 rfl (.slice (some ⟨g2, o2, none⟩) T.length cap2) (T.map (Value.int .i64)) rfl (hQ.alloc _) ⟨wr.heap.size, 0, none⟩ 1 (.int .i64 z) rfl (by simp) rfl (by rw [List.length_map]; omega) ?_; intro v' w3 hQ3 hgrow hloc; obtain ⟨g3, o3, cap3, ev3⟩ := hQ3.shape; rw [List.length_append, List.length_map, List.length_singleton] at ev3; subst ev3)
                have hf3 : Fr (fun k => k = g2) (wr.alloc (.cells #[.int .i64 z] 2)) w3 := (Fr.refl _ _).grown hgrow (fun k e => Or.inl (by simp [Value.ownBlock] at e; exact e.symm))
                have hS3 := (hS.below ((Below.refl _ _).alloc (Nat.le_refl _) (.cells #[.int .i64 z] 2))).fr hf3 (by omega) (by omega) (by omega) (fun k e => by simp at e; omega) (fun hp a e => by have := l5 hp a e; omega)
                have hF3 := (hF.alloc (.cells #[.int .i64 z] 2)).trans hf3 (fun i c => Or.inr (by omega))
                have hg3 : w.heap.size ≤ g3 ∧ g3 ≠ b1 := by
                  rcases hloc with c | c
                  · simp [Value.ownBlock] at c; omega
                  · simp [Value.ownBlock] at c; omega
                have hQ3' : Qu w3 2 (.slice (some ⟨g3, o3, none⟩) (T ++ [z]).length cap3) ((T ++ [z]).map (Value.int .i64)) := by simpa using hQ3
                clear hQ hS hF hgrow hloc hQ3 hf3 x1 x2 z1
                go_wp2_with fail
                go_roundw
                case rel => exact ⟨j + 1, g3, o3, cap3, T ++ [z], by omega, HT', by go_num, by simp, hQ3', hS3, hg3.1, hg3.2, hF3⟩
                case measure => simp [intOf]; omega
              · have HT' : Hid (T = t ++ ledBy L y (j + 1)) := by
                  show T = t ++ ledBy L y (j + 1)
                  rw [ledBy_no L y j hlt cq]
                  exact HT.out
                generalize (L.getD j (0, 0)).1 = z at x1 cq
                clear x2
                go_wp2_with fail
                go_roundw
                case rel => exact ⟨j + 1, g2, o2, cap2, T, by omega, HT', by go_num, rfl, hQ, hS, hg2, hgb2, hF⟩
                case measure => simp [intOf]; omega
            · obtain rfl : j = L.length := by omega
              have HB2 : Hid (bfs L m (R ++ [y]) T = bfs L n A [x]) := by
                show bfs L m (R ++ [y]) T = bfs L n A [x]
                rw [← HB'.out, HT.out, ledBy_all]
              have hTe : T.length = t.length + (L.filter (fun e => e.1 == y)).length := by
                rw [HT.out, ledBy_all]
                simp
              have hmu2 := muOf_eq (L := L) hS
              go_wp2_with fail
              go_roundw
              case rel => exact ⟨m, R ++ [y], T, some b1, g2, o2, cap2, rfl, hQ, hS, HB2, by omega, by rw [List.length_append, List.length_singleton]; omega, hg2, fun e => hgb2 (by simpa using e), hF, HR2⟩
              case measure => simp [slen, hmu, hmu2]; omega

end Go.Proofs.Ytjleaikdinepbaa
