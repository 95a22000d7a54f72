/- Joined: Ws10, Hc1, Hc2. -/
import Derived.Test.YtakofbkmhmcnfabGreatJ21
import Derived.Test.YtakofbkmhmcnfabGreatJ22
import Derived.Test.YtakofbkmhmcnfabGreatJ18
import Derived.Test.YtakofbkmhmcnfabGreatJ17
import Derived.Test.YtakofbkmhmcnfabGreatJ01
/- A wood and a world: start: a contract. -/
namespace Go.Proofs.YtakofbkmhmcnfabGreat
open Go.RowKit W Kp Stl

/-- A wood whose Side is empty, by labels. -/
theorem wf_ws {w : World} {pw p q pc pq sd nb N O y g : Nat} {ws M rs : List Int} (h : Wf w pw p q pc pq sd nb N O y g ws (nC O) M rs) (hr : rs.length = 12) (hrt : w.heap[nb]? = some (.cells (rs.map (Value.int .i64)).toArray 2 (0, 0))) (hs : w.heap[sd]? = some (.cells #[.slice none 0 0, .slice none 0 0] 162 (0, 0))) :
    ∃ F, (wsO ⟨pw, p, q, pc, sd, nb, N, O⟩).J F ⟨⟨y, g, ws, M, rs⟩, [], []⟩ w ∧ ∀ b, F b → b = pw ∨ b = p ∨ b = q ∨ b = pc ∨ b = pq ∨ b = sd ∨ b = nb := by
  obtain ⟨a1, a2, a3, a4, a5, a6, a7, a8⟩ := h.wod.apart
  obtain ⟨⟨s1, s2, s3, s4⟩, ⟨n1, n2, n3, n4⟩, n5, n6⟩ := h.apart
  have s5 : sd ≠ pw := fun e => by
    have h1 := h.wod.blk
    rw [← e, hs] at h1
    simp at h1
  have lq : pq < w.heap.size := h.wod.cd.ltq
  refine ⟨fun b => b = pw ∨ b = p ∨ b = q ∨ b = pc ∨ b = pq ∨ b = sd ∨ b = nb, ⟨fun b => b = pw ∨ b = p ∨ b = q ∨ b = pc ∨ b = pq ∨ b = sd ∨ b = nb, none, 0, ⟨fun b => b = pw ∨ b = p ∨ b = q ∨ b = pc ∨ b = pq ∨ b = nb, none, 0, ⟨fun b => if b = p ∨ b = q then 1 else if b = pc ∨ b = pq then 2 else if b = pw then 3 else if b = nb then 4 else 0, pq, ?_, fun b => ?_⟩, hs, World.ownsRow_nil _ _ _ _, fun b d => ?_, Or.inr (Or.inr (Or.inr (Or.inr (Or.inr (Or.inl rfl))))), fun d => ?_, fun b e => by simp [Value.ownBlock] at e, fun b d => ?_⟩, World.ownsRow_nil _ _ _ _, fun b e => by simp [Value.ownBlock] at e, fun b => ?_⟩, fun b d => d⟩
  · exact { ar := h.wod.ar, cd := h.wod.cd, wd := h.wod.blk, rt := hrt, rl := hr
            a1 := by simp
            a2 := by simp
            c1 := by simp [Ne.symm a5, Ne.symm a7]
            c2 := by simp [Ne.symm a6, Ne.symm a8]
            w1 := by simp [a1, a2, a3, a4]
            r1 := by simp [n1, n2, n3, n4, n5]
            le := fun b => by
              split
              · decide
              · split
                · decide
                · split
                  · decide
                  · split <;> decide
            lt := fun b d => by
              have k1 := h.wod.ar.ltp
              have k2 := h.wod.ar.ltq
              have k3 := h.wod.cd.ltp
              have k4 := lt_of_some h.wod.blk
              have k5 := lt_of_some hrt
              by_cases e1 : b = p ∨ b = q
              · rcases e1 with e | e <;> (rw [e]; assumption)
              · rw [if_neg e1] at d
                by_cases e2 : b = pc ∨ b = pq
                · rcases e2 with e | e <;> (rw [e]; assumption)
                · rw [if_neg e2] at d
                  by_cases e3 : b = pw
                  · rw [e3]; assumption
                  · rw [if_neg e3] at d
                    by_cases e4 : b = nb
                    · rw [e4]; assumption
                    · rw [if_neg e4] at d
                      exact absurd rfl d }
  · dsimp only
    by_cases e1 : b = p ∨ b = q
    · rw [if_pos e1]
      rcases e1 with e | e <;> simp [e]
    · rw [if_neg e1]
      by_cases e2 : b = pc ∨ b = pq
      · rw [if_pos e2]
        rcases e2 with e | e <;> simp [e]
      · rw [if_neg e2]
        by_cases e3 : b = pw
        · rw [if_pos e3]
          simp [e3]
        · rw [if_neg e3]
          by_cases e4 : b = nb
          · rw [if_pos e4]
            simp [e4]
          · rw [if_neg e4]
            simp only [not_or] at e1 e2
            simp [e1, e2, e3, e4]
  · rcases d with d | d | d | d | d | d
    · exact Or.inl d
    · exact Or.inr (Or.inl d)
    · exact Or.inr (Or.inr (Or.inl d))
    · exact Or.inr (Or.inr (Or.inr (Or.inl d)))
    · exact Or.inr (Or.inr (Or.inr (Or.inr (Or.inl d))))
    · exact Or.inr (Or.inr (Or.inr (Or.inr (Or.inr (Or.inr d)))))
  · rcases d with d | d | d | d | d | d
    · exact s5 d
    · exact s1 d
    · exact s2 d
    · exact s3 d
    · exact s4 d
    · exact n6 d.symm
  · rcases d with d | d | d | d | d | d | d
    · rw [d]; exact lt_of_some h.wod.blk
    · rw [d]; exact h.wod.ar.ltp
    · rw [d]; exact h.wod.ar.ltq
    · rw [d]; exact h.wod.cd.ltp
    · rw [d]; exact lq
    · rw [d]; exact lt_of_some hs
    · rw [d]; exact lt_of_some hrt
  · exact ⟨Or.inl, fun d => d.elim id (fun e => by simp [Value.ownBlock] at e)⟩

/-- How both begin. -/
def bo0 (n o : Nat) : Ww × Wrs := (⟨⟨0, 0, List.replicate (n + o) 0, [], tw 2 12⟩, [], []⟩, ⟨[], List.replicate 12 (0, 0), [], []⟩)

set_option maxRecDepth 100000 in
set_option maxHeartbeats 2000000 in
theorem start_yes (n o : Nat) (w : World) (h0 : 16 ≤ n) (h1 : n ≤ 256) (h3 : o ≤ 1024) :
    Calls Tryz.prog 13 #[.int .i64 n, .int .i64 o] w fun e w' => ∃ c F, e = .returned (.tuple #[.pointer (some ⟨c.pb, 0, none⟩), .bool true]) ∧ (boO c).J F (bo0 n o) w' ∧ (c.a.N = n ∧ c.a.O = o ∧ c.most = n ∧ c.grow = o) ∧ (∀ b, F b → w.heap.size ≤ b) ∧ Below w.heap.size w w' := by
  have P := newW_yes n o w h0 h1 h3
  go_enter Tryz.func13, Tryz.ntmps13
  go_wp2_with fail
  refine P.mono ?_
  clear P
  rintro e w1 ⟨pw, p, q, pc, pq, s, nb, rfl, hW, hs, hr, hg, hb1⟩
  obtain ⟨F1, j1, g1⟩ := wf_ws (wf_new hW hs hr hb1 (by omega)) (by decide) hr hs
  have hba := (Below.refl w1.heap.size w1).alloc (Nat.le_refl _) (.cells #[.int .i64 0, .int .i64 0] 28)
  have j2 := (wsO ⟨pw, p, q, pc, s, nb, n, o⟩).below j1 hba
  have c3 : (w1.alloc (.cells #[.int .i64 0, .int .i64 0] 28)).cell? ⟨pw, 3, none⟩ = some (.slice (some ⟨nb, 0, none⟩) 12 12) := (hba.cell (p := ⟨pw, 3, none⟩) (lt_of_some hW.blk)).trans hW.cells.2.2.2.1
  have HJ : Hid ((wsO ⟨pw, p, q, pc, s, nb, n, o⟩).J F1 (bo0 n o).1 (w1.alloc (.cells #[.int .i64 0, .int .i64 0] 28)) ∧ (∀ b, F1 b → w.heap.size ≤ b) ∧ Below w.heap.size w (w1.alloc (.cells #[.int .i64 0, .int .i64 0] 28))) := ⟨j2, fun b d => by
    obtain ⟨g1', g2, g3, g4, g5, g6, g7⟩ := hg
    rcases g1 b d with e | e | e | e | e | e | e <;> (rw [e]; assumption), hb1.trans (hba.mono hb1.size)⟩
  clear hW hs hr hg hb1 j1 g1 hba j2
  go_wp2_with fail
  generalize w1.alloc (.cells #[.int .i64 0, .int .i64 0] 28) = w2 at *
  refine (newWorld_any n o _).mono ?_
  rintro e w3 ⟨rp, rb, F3, rfl, j3, g3, b3⟩
  have hba := (Below.refl w3.heap.size w3).alloc (Nat.le_refl _) (.cells #[.pointer (some ⟨pw, 0, none⟩), .pointer (some ⟨rp, 0, none⟩)] 37)
  have HF : Hid ((boO ⟨⟨pw, p, q, pc, s, nb, n, o⟩, rp, rb, n, o, w3.heap.size⟩).J (fun b => F1 b ∨ F3 b ∨ b = w3.heap.size) (bo0 n o) (w3.alloc (.cells #[.pointer (some ⟨pw, 0, none⟩), .pointer (some ⟨rp, 0, none⟩)] 37)) ∧ (∀ b, (F1 b ∨ F3 b ∨ b = w3.heap.size) → w.heap.size ≤ b) ∧ Below w.heap.size w (w3.alloc (.cells #[.pointer (some ⟨pw, 0, none⟩), .pointer (some ⟨rp, 0, none⟩)] 37))) := by
    have hs2 := HJ.out.2.2.size
    have hs3 := b3.size
    have k1 := (wsO ⟨pw, p, q, pc, s, nb, n, o⟩).lt HJ.out.1
    have k3 := (wrO rp rb n o).lt j3
    refine ⟨⟨F1, F3, (wsO ⟨pw, p, q, pc, s, nb, n, o⟩).below ((wsO ⟨pw, p, q, pc, s, nb, n, o⟩).below HJ.out.1 b3) hba, (wrO rp rb n o).below j3 hba, heap_alloc_new _ _, fun b d e => ?_, fun d => ?_, fun d => ?_, fun b => Iff.rfl⟩, fun b d => ?_, (HJ.out.2.2.trans (b3.mono hs2)).trans (hba.mono (by omega))⟩
    · have h4 := k1 b d
      have h5 := g3 b e
      omega
    · have h4 : w3.heap.size < w2.heap.size := k1 _ d
      omega
    · have h4 : w3.heap.size < w3.heap.size := k3 _ d
      omega
    · rcases d with d | d | d
      · exact HJ.out.2.1 b d
      · have := g3 b d
        omega
      · omega
  clear j3 g3 b3 hba HJ
  go_wp2_with fail
  exact bodyPost_ret (v := .tuple #[.pointer (some ⟨w3.heap.size, 0, none⟩), .bool true]) (by simp [results, Tryz.results13, go_sem]) rfl ⟨⟨⟨pw, p, q, pc, s, nb, n, o⟩, rp, rb, n, o, w3.heap.size⟩, _, rfl, HF.out.1, ⟨rfl, rfl, rfl, rfl⟩, HF.out.2.1, HF.out.2.2⟩

set_option maxRecDepth 100000 in
set_option maxHeartbeats 2000000 in
theorem start_no (n o : Int) (w : World) (h : n < 16 ∨ 256 < n ∨ o < 0 ∨ 1024 < o) :
    Calls Tryz.prog 13 #[.int .i64 n, .int .i64 o] w fun e w' => e = .returned (.tuple #[.pointer none, .bool false]) ∧ Below w.heap.size w w' := by
  have P := newW_no n o w h
  clear h
  go_enter Tryz.func13, Tryz.ntmps13
  go_wp2_with fail
  refine P.mono ?_
  clear P
  rintro e w1 ⟨rfl, hb1⟩
  have HB : Hid (Below w.heap.size w (w1.alloc (.cells #[.int .i64 1, .int .i64 (-1)] 28))) := hb1.trans (((Below.refl w1.heap.size w1).alloc (Nat.le_refl _) _).mono hb1.size)
  clear hb1
  go_wp2_with fail
  exact bodyPost_ret (v := .tuple #[.pointer none, .bool false]) (by simp [results, Tryz.results13, go_sem]) rfl ⟨rfl, HB.out⟩

end Go.Proofs.YtakofbkmhmcnfabGreat

/- A heap: Uses, Check, and the document's UsesOf, StepFault: contracts. -/
namespace Go.Proofs.YtakofbkmhmcnfabGreat
open Go.RowKit W Kp Stl

/-- Which roots a kind of steps uses. -/
def usK (k : Int) : Int :=
  if k = 1 ∨ k = 2 ∨ k = 8 then 1 else if k = 3 ∨ k = 5 ∨ k = 10 ∨ k = 11 ∨ k = 13 then 3 else if k = 4 ∨ k = 6 ∨ k = 7 ∨ k = 14 then 7
  else if k = 9 ∨ k = 12 then 6 else if k = 15 ∨ k = 16 then 0 else -1
/-- The code of a step's number. -/
def ckN (k n : Int) : Int := if k = 1 then vc 1 n else if k = 5 then hc 2 n else 0
def rtB (r : Int) : Bool := decide (0 ≤ r) && decide (r < 12)
/-- The code of a step. -/
def ckC (k R A B n : Int) : Int :=
  if usK k = -1 then 2 else if (decide (usK k = 1 ∨ usK k = 3 ∨ usK k = 7) && !rtB R) || (decide (usK k = 3 ∨ usK k = 6 ∨ usK k = 7) && !rtB A) || (decide (usK k = 6 ∨ usK k = 7) && !rtB B) then 1 else ckN k n
theorem kind_all (k : Int) : k = 1 ∨ k = 2 ∨ k = 3 ∨ k = 4 ∨ k = 5 ∨ k = 6 ∨ k = 7 ∨ k = 8 ∨ k = 9 ∨ k = 10 ∨ k = 11 ∨ k = 12 ∨ k = 13 ∨ k = 14 ∨ k = 15 ∨ k = 16 ∨ (k < 1 ∨ 16 < k) := by omega
theorem usK_no {k : Int} (h : k < 1 ∨ 16 < k) : usK k = -1 := by
  unfold usK
  rw [if_neg (by omega), if_neg (by omega), if_neg (by omega), if_neg (by omega), if_neg (by omega)]

set_option maxRecDepth 100000 in
set_option maxHeartbeats 1000000 in
theorem usesH_any (k : Int) (w : World) : Calls Tryz.prog 48 #[.int .i64 k] w fun e w' => e = .returned (.int .i64 (usK k)) ∧ w' = w := by
  rcases kind_all k with rfl | rfl | rfl | rfl | rfl | rfl | rfl | rfl | rfl | rfl | rfl | rfl | rfl | rfl | rfl | rfl | h
  case' inr.inr.inr.inr.inr.inr.inr.inr.inr.inr.inr.inr.inr.inr.inr.inr =>
    rw [usK_no h]
    have h1 : ¬ k = 1 := by omega
    have h2 : ¬ k = 2 := by omega
    have h3 : ¬ k = 3 := by omega
    have h4 : ¬ k = 4 := by omega
    have h5 : ¬ k = 5 := by omega
    have h6 : ¬ k = 6 := by omega
    have h7 : ¬ k = 7 := by omega
    have h8 : ¬ k = 8 := by omega
    have h9 : ¬ k = 9 := by omega
    have h10 : ¬ k = 10 := by omega
    have h11 : ¬ k = 11 := by omega
    have h12 : ¬ k = 12 := by omega
    have h13 : ¬ k = 13 := by omega
    have h14 : ¬ k = 14 := by omega
    have h15 : ¬ k = 15 := by omega
    have h16 : ¬ k = 16 := by omega
    clear h
  all_goals
    go_enter Tryz.func48, Tryz.ntmps48
    go_wp2_with fail
    go_ret
    exact ⟨rfl, rfl⟩
set_option maxRecDepth 100000 in
set_option maxHeartbeats 1000000 in
theorem usesR_any (k : Int) (w : World) : Calls Tryz.prog 49 #[.int .i64 k] w fun e w' => e = .returned (.int .i64 (usK k)) ∧ w' = w := by
  rcases kind_all k with rfl | rfl | rfl | rfl | rfl | rfl | rfl | rfl | rfl | rfl | rfl | rfl | rfl | rfl | rfl | rfl | h
  case' inr.inr.inr.inr.inr.inr.inr.inr.inr.inr.inr.inr.inr.inr.inr.inr =>
    rw [usK_no h]
    have h1 : ¬ k = 1 := by omega
    have h2 : ¬ k = 2 := by omega
    have h3 : ¬ k = 3 := by omega
    have h4 : ¬ k = 4 := by omega
    have h5 : ¬ k = 5 := by omega
    have h6 : ¬ k = 6 := by omega
    have h7 : ¬ k = 7 := by omega
    have h8 : ¬ k = 8 := by omega
    have h9 : ¬ k = 9 := by omega
    have h10 : ¬ k = 10 := by omega
    have h11 : ¬ k = 11 := by omega
    have h12 : ¬ k = 12 := by omega
    have h13 : ¬ k = 13 := by omega
    have h14 : ¬ k = 14 := by omega
    have h15 : ¬ k = 15 := by omega
    have h16 : ¬ k = 16 := by omega
    clear h
  all_goals
    go_enter Tryz.func49, Tryz.ntmps49
    go_wp2_with fail
    go_ret
    exact ⟨rfl, rfl⟩
set_option maxRecDepth 100000 in
theorem isRoot_any (r : Int) (w : World) : Calls Tryz.prog 102 #[.int .i64 r] w fun e w' => e = .returned (.bool (rtB r)) ∧ w' = w := by
  by_cases h0 : 0 ≤ r
  · by_cases h1 : r < 12
    · have e : rtB r = true := by unfold rtB; rw [decide_eq_true h0, decide_eq_true h1]; rfl
      rw [e]
      go_enter Tryz.func102, Tryz.ntmps102
      go_wp2_with fail
      go_ret
      exact ⟨rfl, rfl⟩
    · have e : rtB r = false := by unfold rtB; rw [decide_eq_false h1, Bool.and_false]
      rw [e]
      go_enter Tryz.func102, Tryz.ntmps102
      go_wp2_with fail
      go_ret
      exact ⟨rfl, rfl⟩
  · have e : rtB r = false := by unfold rtB; rw [decide_eq_false h0, Bool.false_and]
    rw [e]
    go_enter Tryz.func102, Tryz.ntmps102
    go_wp2_with fail
    go_ret
    exact ⟨rfl, rfl⟩

end Go.Proofs.YtakofbkmhmcnfabGreat

/- A heap: Check: a contract. -/
namespace Go.Proofs.YtakofbkmhmcnfabGreat
open Go.RowKit W Kp Stl

set_option maxRecDepth 100000 in
set_option maxHeartbeats 1000000 in
theorem numberH_any (n : Int) (w : World) : Calls Tryz.prog 162 #[.int .i64 n] w fun e w' => e = .returned (.tuple #[.int .i64 (ew 1 n), .int .i64 (vc 1 n)]) ∧ Below w.heap.size w w' := by
  go_enter Tryz.func162, Tryz.ntmps162
  go_wp2_with fail
  refine (encode_any 1 n _).mono ?_
  rintro e w1 ⟨rfl, hb⟩
  go_wp2_with fail
  go_ret2
  exact ⟨rfl, hb⟩

set_option maxRecDepth 100000 in
set_option maxHeartbeats 1000000 in
theorem checkN_any (k R A B I n : Int) (w : World) : Calls Tryz.prog 103 #[.agg #[.int .i64 k, .int .i64 R, .int .i64 A, .int .i64 B, .int .i64 I, .int .i64 n]] w fun e w' => e = .returned (.int .i64 (ckN k n)) ∧ Below w.heap.size w w' := by
  have hb0 := (Below.refl w.heap.size w).alloc (Nat.le_refl _) (.cells #[.int .i64 k, .int .i64 R, .int .i64 A, .int .i64 B, .int .i64 I, .int .i64 n] 78)
  by_cases h1 : k = 1
  · subst h1
    have e : ckN 1 n = vc 1 n := by unfold ckN; rw [if_pos rfl]
    rw [e]
    go_enter Tryz.func103, Tryz.ntmps103
    go_wp2_with fail
    refine (numberH_any n _).mono ?_
    rintro e w1 ⟨rfl, hb⟩
    go_wp2_with fail
    go_ret
    exact ⟨rfl, hb0.trans (hb.mono hb0.size)⟩
  · by_cases h5 : k = 5
    · subst h5
      have e : ckN 5 n = hc 2 n := by unfold ckN; rw [if_neg (by omega), if_pos rfl]
      rw [e]
      go_enter Tryz.func103, Tryz.ntmps103
      go_wp2_with fail
      refine (head_any 2 n _).mono ?_
      rintro e w1 ⟨rfl, rfl⟩
      go_wp2_with fail
      go_ret
      exact ⟨rfl, hb0⟩
    · have e : ckN k n = 0 := by unfold ckN; rw [if_neg h1, if_neg h5]
      rw [e]
      have h1b : (k == 1) = false := by simpa using h1
      have h5b : (k == 5) = false := by simpa using h5
      go_enter Tryz.func103, Tryz.ntmps103
      go_wp2_with fail
      go_ret
      exact ⟨rfl, hb0⟩

end Go.Proofs.YtakofbkmhmcnfabGreat
