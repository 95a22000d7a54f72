/- CardsDoes' walk: it returns true at whatever base, words, places and place, in whatever memory; nothing that was in memory turns. -/
import Derived.Test.YtheiboniifijnaaCd2
import Derived.Test.YtheiboniifijnaaOpenI
namespace Go.Proofs.Ytheiboniifijnaa.CDoes
open Go.RowKit W

/-- A slice's address is where these numbers lie (of none: wherever). -/
def Lies (w : World) (ad : Option Addr) (l : List Int) : Prop := 0 < l.length → ∃ b, ad = some ⟨b, 0, none⟩ ∧ ∀ i, i < l.length → w.cell? ⟨b, i, none⟩ = some (.int .i64 (l.getD i 0))

theorem lies {w : World} {base : Nat} {e : TypeId} {v : Value} {l : List Int} (h : w.ownsRow base e 1 v l.length (l.map (Value.int .i64))) : ∃ ad cap, v = .slice ad l.length cap ∧ Lies w ad l := by
  obtain ⟨_, h2⟩ := h
  rcases h2 with ⟨hv, hz⟩ | ⟨b, cap, cur, hv, hb, hh, h3, h4, h5, h6⟩
  · exact ⟨none, 0, by rw [hv, hz], fun h => by omega⟩
  · refine ⟨_, cap, hv, fun _ => ⟨b, rfl, fun i hi => ?_⟩⟩
    have e1 : cur.toList[i]? = some (.int .i64 (l.getD i 0)) := by
      have e2 : (cur.toList.take (l.length * 1))[i]? = some (.int .i64 (l.getD i 0)) := by
        rw [h6]
        simp [List.getElem?_map, List.getElem?_eq_getElem hi]
      rw [List.getElem?_take_of_lt (by omega)] at e2
      exact e2
    simp [World.cell?, hh]
    simpa using e1

theorem in_any (ad : Option Addr) (c : Nat) (l : List Int) (x : Int) (w : World) (hm : l.length ≤ 100000) (h : Lies w ad l) :
    Calls Try.prog 58 #[.slice ad l.length c, .int .i64 x] w fun e w' => e = .returned (.bool (l.contains x)) ∧ w' = w := by
  rcases Nat.eq_zero_or_pos l.length with hz | hp
  · obtain rfl : l = [] := List.eq_nil_of_length_eq_zero hz
    exact in_zero ad c x w
  · obtain ⟨b, rfl, k⟩ := h hp
    exact in_pos b c l x w hm k

/-- A row of numbers is neither of the cards' blocks. -/
theorem apart {w : World} {p q base n : Nat} {B c : Int} {M : List Int} {v : Value} {l : List Value} (h : Cd w p q B c M) (hr : w.ownsRow base 3 1 v n l) : some p ≠ v.ownBlock ∧ some q ≠ v.ownBlock := by
  obtain ⟨_, h2⟩ := hr
  rcases h2 with ⟨rfl, _⟩ | ⟨g, cap, cur, rfl, hb, hh, _⟩
  · exact ⟨by simp [Value.ownBlock], by simp [Value.ownBlock]⟩
  · constructor
    · intro e
      simp [Value.ownBlock] at e
      have h1 := h.hp
      rw [e, hh] at h1
      simp at h1
    · intro e
      simp [Value.ownBlock] at e
      obtain ⟨D, ⟨es, clock, hb', _⟩, _⟩ := h.hq
      rw [e, hh] at hb'
      simp at hb'

theorem row_sv {w w' : World} {p q base n : Nat} {v : Value} {l : List Value} (hr : w.ownsRow base 3 1 v n l) (s : Sv p q w w') (h : some p ≠ v.ownBlock ∧ some q ≠ v.ownBlock) : w'.ownsRow base 3 1 v n l := by
  refine ⟨hr.1, ?_⟩
  rcases hr.2 with hn | ⟨g, cap, cur, rfl, hb, hgg, rest⟩
  · exact .inl hn
  · exact .inr ⟨g, cap, cur, rfl, hb, (s.block g (lt_of_some hgg) (fun e => h.1 (by rw [← e]; rfl)) (fun e => h.2 (by rw [← e]; rfl))).trans hgg, rest⟩
theorem row_below {w w' : World} {base n : Nat} {v : Value} {l : List Value} (hr : w.ownsRow base 3 1 v n l) (hb : Below w.heap.size w w') : w'.ownsRow base 3 1 v n l := by
  refine ⟨hr.1, ?_⟩
  rcases hr.2 with hn | ⟨g, cap, cur, rfl, hb', hgg, rest⟩
  · exact .inl hn
  · exact .inr ⟨g, cap, cur, rfl, hb', (hb.block g (lt_of_some hgg)).trans hgg, rest⟩
theorem shape {w : World} {base n : Nat} {e : TypeId} {v : Value} {l : List Value} (h : w.ownsRow base e 1 v n l) (hn : 0 < n) : ∃ b cap, v = .slice (some ⟨b, 0, none⟩) n cap := by
  rcases h.2 with ⟨_, h0⟩ | ⟨g, cap, cur, hv, _⟩
  · omega
  · exact ⟨g, cap, hv⟩

theorem info : (Try.prog.info? 3).map (fun i => (i.zero, i.size, i.bytes)) = some (some (.int .i64 0), 1, 8) := by kernel_rfl

theorem nC_count (x : Int) (k : Nat) (h1 : (k : Int) ≤ nC x) (h2 : x ≤ k * 8) : (k : Int) = nC x := by
  unfold nC at *
  split at h1 <;> split <;> omega
theorem nC_more (x : Int) (k : Nat) (h2 : (k : Int) * 8 < x) : ((k + 1 : Nat) : Int) ≤ nC x := by
  unfold nC
  split <;> omega
theorem nC_bd (x : Int) (h : x ≤ 5000) : 0 ≤ nC x ∧ nC x ≤ 625 := by
  unfold nC
  split <;> omega

set_option maxRecDepth 100000 in
set_option maxHeartbeats 4000000 in
theorem walk (B x : Int) (ad : Option Addr) (len cap : Nat) (S : Nat → Int) (a : Int) (w : World) (hst : IsInts w ad len S) (ha : a ≤ 9223372036854775807) :
    Calls Try.prog 10 #[.int .i64 B, .int .i64 x, .slice ad len cap, .int .i64 a] w fun e w' => e = .returned (.bool true) ∧ Below w.heap.size w w' := by
  by_cases hno : 300 < len ∨ 5000 < x ∨ B < 0 ∨ 100000 < B
  · go_enter Try.func10, Try.ntmps10
    go_wp2_with fail
    refine (begunCards_any _).mono ?_
    rintro e w1 ⟨rfl, hb1⟩
    go_wp2_with fail
    all_goals
      go_ret
      exact ⟨rfl, hb1⟩
  have hlen : len ≤ 300 := by omega
  have hx : x ≤ 5000 := by omega
  have hB : 0 ≤ B := by omega
  have hB' : B ≤ 100000 := by omega
  clear hno
  obtain ⟨hc0, hc1⟩ := nC_bd x hx
  obtain ⟨i0, hi, hz0, hz1, hz2⟩ := info_parts info
  go_enter Try.func10, Try.ntmps10
  go_wp2_with fail
  refine (begunCards_any _).mono ?_
  rintro e w1 ⟨rfl, hb1⟩
  go_wp2_with fail
  refine (newC_any B x _ (by omega)).mono ?_
  rintro e w2 ⟨p, q0, rfl, h2, hp, hq, hb2⟩
  have hp' : w.heap.size ≤ p := Nat.le_trans hb1.size hp
  have hq' : w.heap.size ≤ q0 := Nat.le_trans hb1.size hq
  have hB2 : Below w.heap.size w w2 := hb1.trans (hb2.mono hb1.size)
  clear hp hq hb1 hb2
  have HN : Hid (nC x = nC x) := rfl
  generalize hcx : nC x = c at h2 hc0 hc1 HN
  have HC : Hid (nC x = c) := hcx
  clear hcx HN
  go_wp2_with fail
  go_loopw [10] (fun n wr => ∃ k : Nat, (k : Int) ≤ c ∧ n = .int .i64 k ∧ wr = w2) (fun n _ => c.toNat - (intOf n).toNat)
  case atStart => exact ⟨0, by omega, rfl, rfl⟩
  case round =>
    obtain ⟨k, hk, rfl, rfl⟩ := hrel
    by_cases hlt : (k : Int) * 8 < x
    · have hm := nC_more x k hlt
      rw [HC.out] at hm
      go_wp2_with fail
      go_roundw
      case rel => exact ⟨k + 1, hm, by go_num, trivial⟩
      case measure => simp [intOf]; omega
    · have hkc : (k : Int) = c := by
        have := nC_count x k (by rw [HC.out]; exact hk) (by omega)
        rw [HC.out] at this
        exact this
      subst hkc
      clear hk
      go_wp2_with fail
      clear hlt
      go_loopw [11, 12] (fun v i wr => ∃ (j q cp : Nat) (ad1 : Option Addr) (M : List Int), j ≤ len ∧ i = .int .i64 j ∧ v = .slice ad1 M.length cp ∧ Cd wr p q B k M ∧ w.heap.size ≤ q ∧ wr.ownsRow w.heap.size 3 1 (.slice ad1 M.length cp) M.length (M.map (Value.int .i64)) ∧ M.length ≤ j ∧ Hid (∀ y ∈ M, 0 ≤ y ∧ y < (k : Int)) ∧ Below w.heap.size w wr) (fun _ i _ => len - (intOf i).toNat)
      case atStart => exact ⟨0, q0, 0, none, [], Nat.zero_le _, rfl, rfl, h2, hq', World.ownsRow_nil _ _ _ _, Nat.le_refl _, fun y hy => by simp at hy, hB2⟩
      case round =>
        clear h2 hq' hB2
        obtain ⟨j, q, cp, ad1, M, hj, rfl, rfl, hA, hq, hrow, hM, HM, hb⟩ := hrel
        by_cases hlt : j < len
        · obtain ⟨bb, of, rfl, hbl, hcs⟩ := hst.1 (by omega)
          obtain ⟨y0, y1⟩ := hst.2 j hlt
          have X0 : Hid (w.cell? ⟨bb, of + j, none⟩ = some (.int .i64 (S j))) := hcs j hlt
          generalize S j = y at y0 y1 X0
          clear hcs hst
          have x1 := (hb.cell (p := ⟨bb, of + j, none⟩) hbl).trans X0.out
          by_cases hy : y < 0
          · go_wp2_with fail
            refine (clearC_any _ hA.hp).mono ?_
            rintro e w3 ⟨rfl, h3, s3⟩
            have hb3 := hb.trans (s3.below hb.size hp' hp')
            go_wp2_with fail
            go_roundw
            case rel => exact ⟨j + 1, _, 0, none, [], by omega, by go_num, rfl, h3, hb.size, World.ownsRow_nil _ _ _ _, Nat.zero_le _, fun y hy => by simp at hy, hb3⟩
            case measure => simp [intOf]; omega
          · have hy' : 0 ≤ y := by omega
            cases hcb : cB B k y
            · by_cases hyB : y < B
              · go_wp2_with fail
                refine (mark_any y _ hA hB hB' y1 (by omega)).mono ?_
                rintro e w3 ⟨rfl, h3, s3⟩
                rw [mkM_no hcb] at h3
                rw [hcb]
                have hrow := row_sv hrow s3 (apart hA hrow)
                have hb3 := hb.trans (s3.below hb.size hp' hq)
                have x1 := (hb3.cell (p := ⟨bb, of + j, none⟩) hbl).trans X0.out
                clear hA hb s3
                go_wp2_with fail
                refine (dirty_any y _ h3 hB hB' y1).mono ?_
                rintro e w4 ⟨rfl, hb4⟩
                rw [hcb, Bool.false_and]
                have hrow := row_below hrow hb4
                have h4 := h3.below hb4 (Nat.le_refl _)
                have hb4 := hb3.trans (hb4.mono hb3.size)
                clear h3 hb3
                go_wp2_with fail
                refine (count_any _ h4).mono ?_
                rintro e w5 ⟨rfl, hw5⟩
                have hw5 := hw5.symm
                subst hw5
                go_wp2_with fail
                go_roundw
                case rel => exact ⟨j + 1, q, cp, ad1, M, by omega, by go_num, rfl, h4, hq, hrow, by omega, HM, hb4⟩
                case measure => simp [intOf]; omega
              · have hge : (k : Int) ≤ (y - B) / 8 := by
                  have h := hcb
                  unfold cB at h
                  rw [decide_eq_true (show B ≤ y by omega)] at h
                  simpa using h
                go_wp2_with fail
                refine (mark_any y _ hA hB hB' y1 (by omega)).mono ?_
                rintro e w3 ⟨rfl, h3, s3⟩
                rw [mkM_no hcb] at h3
                rw [hcb]
                have hrow := row_sv hrow s3 (apart hA hrow)
                have hb3 := hb.trans (s3.below hb.size hp' hq)
                have x1 := (hb3.cell (p := ⟨bb, of + j, none⟩) hbl).trans X0.out
                clear hA hb s3
                go_wp2_with fail
                refine (dirty_any y _ h3 hB hB' y1).mono ?_
                rintro e w4 ⟨rfl, hb4⟩
                rw [hcb, Bool.false_and]
                have hrow := row_below hrow hb4
                have h4 := h3.below hb4 (Nat.le_refl _)
                have hb4 := hb3.trans (hb4.mono hb3.size)
                clear h3 hb3
                go_wp2_with fail
                refine (count_any _ h4).mono ?_
                rintro e w5 ⟨rfl, hw5⟩
                have hw5 := hw5.symm
                subst hw5
                go_wp2_with fail
                go_roundw
                case rel => exact ⟨j + 1, q, cp, ad1, M, by omega, by go_num, rfl, h4, hq, hrow, by omega, HM, hb4⟩
                case measure => simp [intOf]; omega
            · have hyc : B ≤ y ∧ (y - B) / 8 < (k : Int) := by
                have h := hcb
                unfold cB at h
                simpa using h
              obtain ⟨hyB, hyk⟩ := hyc
              have ecN : cN B y = (y - B) / 8 := by unfold cN; rw [if_neg (by omega)]
              go_wp2_with fail
              refine (mark_any y _ hA hB hB' y1 (by omega)).mono ?_
              rintro e w3 ⟨rfl, h3, s3⟩
              rw [mkM_yes hcb, ecN] at h3
              rw [hcb]
              have hrow := row_sv hrow s3 (apart hA hrow)
              have hb3 := hb.trans (s3.below hb.size hp' hq)
              have x1 := (hb3.cell (p := ⟨bb, of + j, none⟩) hbl).trans X0.out
              clear hA hb s3
              obtain ⟨ad', cp', hv, hl⟩ := lies hrow
              cases hv
              go_wp2_with fail
              refine (in_any ad1 cp M _ _ (by omega) hl).mono ?_
              rintro e w4 ⟨rfl, hw4⟩
              have hw4 := hw4.symm
              subst hw4
              have hs3 := hb3.size
              cases hin : M.contains ((y - B) / 8)
              · have e1 : addM M ((y - B) / 8) = M ++ [(y - B) / 8] := by unfold addM; rw [if_neg (by rw [hin]; simp)]
                rw [e1] at h3
                have hnot := apart h3 hrow
                go_wp2_with (at_builtin; refine wpList_append_own _ rfl _ _ 61 rfl w.heap.size 3 i0 (.int .i64 0) 1 8 Try.underlying61 hi hz0 hz1 hz2 rfl (by decide) _ M.length (M.map (Value.int .i64)) rfl (hrow.alloc _) ⟨w3.heap.size, 0, none⟩ 1 1 [.int .i64 ((y - B) / 8)] rfl rfl ?_ ?_ ?_ ?_ ?_ ?_; (intro j u hj; match j, hj with | 0, hj => (simp at hj; subst hj; simp [Addr.add])); (intro u hu; simp at hu; subst hu; rfl); (unfold maxLen; omega); omega; (simp; omega); intro v' w5 hown' hgrow _; obtain ⟨b1, cap1, ev'⟩ := shape hown' (Nat.succ_pos _); subst ev'; have h5 : Cd w5 p q B k (M ++ [(y - B) / 8]) := (h3.alloc _).same (hgrow.block p (h3.alloc _).ltp hnot.1) (hgrow.block q (h3.alloc _).ltq hnot.2); have hb5 : Below w.heap.size w w5 := (hb3.alloc hb3.size _).grown hgrow (by simp; omega) (fun j hj => (hrow.lt j hj).1); have x5 := (hb5.cell (p := ⟨bb, of + j, none⟩) hbl).trans X0.out)
                refine (dirty_any y _ h5 hB hB' y1).mono ?_
                rintro e w6 ⟨rfl, hb6⟩
                have e2 : (cB B k y && (M ++ [(y - B) / 8]).contains (cN B y)) = true := by rw [hcb, ecN]; simp
                rw [e2]
                have hrow6 := row_below hown' hb6
                have h6 := h5.below hb6 (Nat.le_refl _)
                have hb6 := hb5.trans (hb6.mono hb5.size)
                clear h3 hb3 h5 hb5 hown' hgrow hrow hl
                go_wp2_with fail
                refine (count_any _ h6).mono ?_
                rintro e w7 ⟨rfl, hw7⟩
                have hw7 := hw7.symm
                subst hw7
                have e3 : ((M ++ [(y - B) / 8]).length : Int) = M.length + 1 := by simp
                rw [e3]
                go_wp2_with fail
                go_roundw
                case rel =>
                  refine ⟨j + 1, q, cap1, some ⟨b1, 0, none⟩, M ++ [(y - B) / 8], by omega, by go_num, by simp, h6, hq, by simpa using hrow6, by simp; omega, fun z hz => ?_, hb6⟩
                  rcases List.mem_append.1 hz with hz | hz
                  · exact HM.out z hz
                  · simp at hz
                    subst hz
                    exact ⟨by omega, hyk⟩
                case measure => simp [intOf]; omega
              · have e1 : addM M ((y - B) / 8) = M := by unfold addM; rw [if_pos hin]
                rw [e1] at h3
                go_wp2_with fail
                refine (dirty_any y _ h3 hB hB' y1).mono ?_
                rintro e w6 ⟨rfl, hb6⟩
                have e2 : (cB B k y && M.contains (cN B y)) = true := by rw [hcb, ecN, hin]; rfl
                rw [e2]
                have hrow6 := row_below hrow hb6
                have h6 := h3.below hb6 (Nat.le_refl _)
                have hb6 := hb3.trans (hb6.mono hb3.size)
                clear h3 hb3 hrow hl
                go_wp2_with fail
                refine (count_any _ h6).mono ?_
                rintro e w7 ⟨rfl, hw7⟩
                have hw7 := hw7.symm
                subst hw7
                go_wp2_with fail
                go_roundw
                case rel => exact ⟨j + 1, q, cp, ad1, M, by omega, by go_num, rfl, h6, hq, hrow6, by omega, HM, hb6⟩
                case measure => simp [intOf]; omega
        · obtain ⟨ad', cp', hv, hl⟩ := lies hrow
          cases hv
          by_cases haB : a < B
          · go_wp2_with fail
            refine (dirty_any a _ hA hB hB' ha).mono ?_
            rintro e w4 ⟨rfl, hb4⟩
            have e1 : (cB B k a && M.contains (cN B a)) = false := by
              unfold cB
              rw [decide_eq_false (by omega)]
              rfl
            rw [e1]
            go_wp2_with fail
            go_ret
            exact ⟨rfl, hb.trans (hb4.mono hb.size)⟩
          · have haB' : B ≤ a := by omega
            by_cases ha4 : a < 1099511627776
            · go_wp2_with fail
              refine (in_any ad1 cp M _ _ (by omega) hl).mono ?_
              rintro e w4 ⟨rfl, hw4⟩
              have hw4 := hw4.symm
              subst hw4
              go_wp2_with fail
              refine (dirty_any a _ hA hB hB' ha).mono ?_
              rintro e w5 ⟨rfl, hb5⟩
              have e1 : (cB B k a && M.contains (cN B a)) = M.contains ((a - B) / 8) := by
                have ec : cN B a = (a - B) / 8 := by unfold cN; rw [if_neg (by omega)]
                rw [ec]
                cases hin : M.contains ((a - B) / 8)
                · exact Bool.and_false _
                · have := HM.out _ (List.contains_iff_mem.1 hin)
                  unfold cB
                  rw [decide_eq_true haB', decide_eq_true this.2]
                  rfl
              rw [e1]
              go_wp2_with fail
              go_ret
              exact ⟨by simp, hb.trans (hb5.mono hb.size)⟩
            · go_wp2_with fail
              refine (dirty_any a _ hA hB hB' ha).mono ?_
              rintro e w4 ⟨rfl, hb4⟩
              have e1 : (cB B k a && M.contains (cN B a)) = false := by
                unfold cB
                rw [decide_eq_false (show ¬ (a - B) / 8 < (k : Int) by omega), Bool.and_false]
                rfl
              rw [e1]
              go_wp2_with fail
              go_ret
              exact ⟨rfl, hb.trans (hb4.mono hb.size)⟩

end Go.Proofs.Ytheiboniifijnaa.CDoes
