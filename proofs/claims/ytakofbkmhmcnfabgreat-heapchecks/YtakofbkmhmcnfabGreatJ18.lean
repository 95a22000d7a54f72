/- Joined: Wr3, Wr4, Wr6, Wr7. -/
import Derived.Test.YtakofbkmhmcnfabGreatJ17
import Derived.Test.YtakofbkmhmcnfabGreatJ12
/- The document's world: Used: a contract. -/
namespace Go.Proofs.YtakofbkmhmcnfabGreat
open Go.RowKit W Kp Stl

/-- How many words young things have, and old ones. -/
def usP (p : Int × Int) (t : Tw1) : Int × Int := if t.2.2.2 = true then p else if t.2.2.1 = true then (p.1, p.2 + (1 + t.2.1.length)) else (p.1 + (1 + t.2.1.length), p.2)
def usd (l : List Tw1) : Int × Int := l.foldl usP (0, 0)
theorem usd_snoc (l : List Tw1) (t : Tw1) : usd (l ++ [t]) = usP (usd l) t := by simp [usd, List.foldl_append]
theorem usd_bd (l : List Tw1) (h : ∀ t ∈ l, t.2.1.length ≤ 12) : 0 ≤ (usd l).1 ∧ (usd l).1 ≤ 13 * l.length ∧ 0 ≤ (usd l).2 ∧ (usd l).2 ≤ 13 * l.length := by
  have key : ∀ (l : List Tw1) (p : Int × Int), (∀ t ∈ l, t.2.1.length ≤ 12) → p.1 ≤ (l.foldl usP p).1 ∧ (l.foldl usP p).1 ≤ p.1 + 13 * l.length ∧ p.2 ≤ (l.foldl usP p).2 ∧ (l.foldl usP p).2 ≤ p.2 + 13 * l.length := by
    intro l
    induction l with
    | nil => intro p _; simp
    | cons t l ih =>
      intro p hl
      have h1 := ih (usP p t) (fun x hx => hl x (List.mem_cons_of_mem _ hx))
      have h2 := hl t (by simp)
      rw [List.foldl_cons]
      have h3 : p.1 ≤ (usP p t).1 ∧ (usP p t).1 ≤ p.1 + 13 ∧ p.2 ≤ (usP p t).2 ∧ (usP p t).2 ≤ p.2 + 13 := by
        unfold usP
        split
        · omega
        · split
          · dsimp only; omega
          · dsimp only; omega
      simp only [List.length_cons]
      omega
  have := key l (0, 0) h
  unfold usd
  dsimp only at this
  omega

section
variable {rp rb : Nat} {most grow : Int} {F : Nat → Prop} {s : Wrs} {w : World}

set_option maxRecDepth 100000 in
set_option maxHeartbeats 1000000 in
theorem usedW_any (h : (wrO rp rb most grow).J F s w) (hT : ∀ t ∈ s.T, t.2.1.length ≤ 12) (hl : s.T.length ≤ 10000) :
    Calls Tryz.prog 44 #[.pointer (some ⟨rp, 0, none⟩)] w fun e w' => e = .returned (.tuple #[.int .i64 (usd s.T).1, .int .i64 (usd s.T).2]) ∧ Below w.heap.size w w' := by
  have HJ : Hid ((wrO rp rb most grow).J F s w) := h
  have HT : Hid (∀ t ∈ s.T, t.2.1.length ≤ 12) := hT
  clear h hT
  go_enter Tryz.func44, Tryz.ntmps44
  go_wp2_with fail
  go_loopw [4, 5, 6] (fun av bv iv wr => ∃ (j : Nat) (x y : Int), j ≤ s.T.length ∧ iv = .int .i64 j ∧ av = .int .i64 x ∧ bv = .int .i64 y ∧ Hid (usd (s.T.take j) = (x, y)) ∧ Below w.heap.size w wr) (fun _ _ iv _ => s.T.length - (intOf iv).toNat)
  case atStart => exact ⟨0, 0, 0, Nat.zero_le _, rfl, rfl, rfl, rfl, Below.refl _ _⟩
  case round =>
    obtain ⟨j, x, y, hj, rfl, rfl, rfl, HE, hb⟩ := hrel
    have hJ1 := (wrO rp rb most grow).below HJ.out hb
    obtain ⟨aT, cT, c0, _, cx⟩ := wr_things hJ1
    have bd := usd_bd (s.T.take j) (fun t ht => HT.out t (List.mem_of_mem_take ht))
    rw [HE.out] at bd
    have hl2 : (s.T.take j).length = j := by rw [List.length_take]; omega
    rw [hl2] at bd
    dsimp only at bd
    obtain ⟨bd1, bd2, bd3, bd4⟩ := bd
    by_cases hlt : j < s.T.length
    · obtain ⟨t, ht⟩ : ∃ t, s.T[j]? = some t := ⟨_, List.getElem?_eq_getElem hlt⟩
      obtain ⟨b, ad, cp, rfl, x0, x1, x2, x3, _⟩ := cx j t ht
      have hf := HT.out t (List.mem_of_getElem? ht)
      have HS : Hid (usd (s.T.take (j + 1)) = usP (x, y) t) := by
        show _ = _
        rw [List.take_succ_eq_append_getElem hlt, usd_snoc, HE.out]
        congr 1
        rw [List.getElem?_eq_getElem hlt] at ht
        simpa using ht
      obtain ⟨kd, fs, od, dd⟩ := t
      dsimp only at x0 x1 x2 x3 hf
      have j0 : (0 : Int) ≤ (j : Int) := by omega
      have j1 : (j : Int) < (s.T.length : Int) := by omega
      have HB : Hid (Below w.heap.size w (wr.alloc (.cells #[.int .i64 kd, .slice ad fs.length cp, .bool od, .bool dd] 116))) := hb.alloc hb.size _
      clear hJ1 cx hb ht
      cases dd
      · cases od
        · have HS2 : Hid (usd (s.T.take (j + 1)) = (x + (1 + fs.length), y)) := HS.out
          go_wp2_with fail
          go_roundw
          case rel => exact ⟨j + 1, x + (1 + fs.length), y, by omega, by go_num, by go_num, rfl, HS2, HB.out⟩
          case measure => simp [intOf]; omega
        · have HS2 : Hid (usd (s.T.take (j + 1)) = (x, y + (1 + fs.length))) := HS.out
          go_wp2_with fail
          go_roundw
          case rel => exact ⟨j + 1, x, y + (1 + fs.length), by omega, by go_num, rfl, by go_num, HS2, HB.out⟩
          case measure => simp [intOf]; omega
      · have HS2 : Hid (usd (s.T.take (j + 1)) = (x, y)) := HS.out
        go_wp2_with fail
        go_roundw
        case rel => exact ⟨j + 1, x, y, by omega, by go_num, rfl, rfl, HS2, HB.out⟩
        case measure => simp [intOf]; omega
    · obtain rfl : j = s.T.length := by omega
      rw [List.take_length] at HE
      clear hJ1 cx
      go_wp2_with fail
      go_ret2
      rw [HE.out]
      exact ⟨rfl, hb⟩
end

end Go.Proofs.YtakofbkmhmcnfabGreat

/- The document's world: thing, guard, Fits, NewWorld: contracts. -/
namespace Go.Proofs.YtakofbkmhmcnfabGreat
open Go.RowKit W Kp Stl

section
variable {rp rb : Nat} {most grow : Int} {F : Nat → Prop} {s : Wrs} {w : World}

/-- The thing of a root, and its guardian. -/
def Wrs.th (s : Wrs) (i : Nat) : Int := if (s.rs.getD i (0, 0)).1 = 3 then (s.rs.getD i (0, 0)).2 else -1
def Wrs.gd (s : Wrs) (i : Nat) : Int := if s.th i < 0 then -1 else if (s.T.getD (s.th i).toNat (0, [], false, false)).1 = 5 then s.th i else -1

set_option maxRecDepth 100000 in
set_option maxHeartbeats 400000 in
theorem thingW_any (h : (wrO rp rb most grow).J F s w) (i : Nat) (hi : i < 12) :
    Calls Tryz.prog 99 #[.pointer (some ⟨rp, 0, none⟩), .int .i64 i] w fun e w' => e = .returned (.int .i64 (s.th i)) ∧ w' = w := by
  obtain ⟨c1, _, _, _, _, _, _, cr⟩ := wr_cells h
  obtain ⟨x0, x1, _⟩ := cr i hi
  have E : Hid (s.th i = if (s.rs.getD i (0, 0)).1 = 3 then (s.rs.getD i (0, 0)).2 else -1) := rfl
  generalize s.th i = z at E ⊢
  generalize (s.rs.getD i (0, 0)).1 = k at x0 E
  generalize (s.rs.getD i (0, 0)).2 = n at x1 E
  have i0 : (0 : Int) ≤ (i : Int) := by omega
  have i1 : (i : Int) < 12 := by omega
  clear h cr
  by_cases hk : k = 3
  · subst hk
    have E2 : Hid (z = n) := E.out
    go_enter Tryz.func99, Tryz.ntmps99
    go_wp2_with fail
    go_ret
    rw [E2.out]
    exact ⟨rfl, rfl⟩
  · have E2 : Hid (z = -1) := E.out.trans (if_neg hk)
    have hk2 : ¬ 3 = k := fun e => hk e.symm
    go_enter Tryz.func99, Tryz.ntmps99
    go_wp2_with fail
    go_ret
    rw [E2.out]
    exact ⟨rfl, rfl⟩

set_option maxRecDepth 100000 in
set_option maxHeartbeats 400000 in
theorem guardW_any (h : (wrO rp rb most grow).J F s w) (i : Nat) (hi : i < 12) (hr : 0 ≤ s.th i → s.th i < s.T.length) :
    Calls Tryz.prog 100 #[.pointer (some ⟨rp, 0, none⟩), .int .i64 i] w fun e w' => e = .returned (.int .i64 (s.gd i)) ∧ w' = w := by
  have P := thingW_any h i hi
  obtain ⟨aT, cT, c0, _, cx⟩ := wr_things h
  have E : Hid (s.gd i = if s.th i < 0 then -1 else if (s.T.getD (s.th i).toNat (0, [], false, false)).1 = 5 then s.th i else -1) := rfl
  generalize s.gd i = z at E ⊢
  generalize s.th i = a at P E hr
  clear h
  by_cases ha : a < 0
  · have E2 : Hid (z = -1) := E.out.trans (if_pos ha)
    clear cx
    go_enter Tryz.func100, Tryz.ntmps100
    go_wp2_with fail
    refine P.mono ?_
    rintro e w1 ⟨rfl, rfl⟩
    go_wp2_with fail
    go_ret
    rw [E2.out]
    exact ⟨rfl, rfl⟩
  · obtain ⟨j, rfl⟩ : ∃ j : Nat, a = j := ⟨a.toNat, by omega⟩
    have hj := hr (by omega)
    have hlt : j < s.T.length := by omega
    obtain ⟨t, ht⟩ : ∃ t, s.T[j]? = some t := ⟨_, List.getElem?_eq_getElem hlt⟩
    obtain ⟨b, ad, cp, rfl, x0, _⟩ := cx j t ht
    have E2 : Hid (z = if t.1 = 5 then (j : Int) else -1) := by
      show _ = _
      rw [E.out, if_neg ha, Int.toNat_natCast, List.getD_eq_getElem?_getD, ht]
      rfl
    generalize t.1 = k at x0 E2
    have j0 : (0 : Int) ≤ (j : Int) := by omega
    have jn : decide ((j : Int) < 0) = false := by simp
    clear cx ht E hr
    by_cases hk : k = 5
    · subst hk
      have E3 : Hid (z = j) := E2.out
      go_enter Tryz.func100, Tryz.ntmps100
      go_wp2_with fail
      refine P.mono ?_
      rintro e w1 ⟨rfl, hw1⟩
      have hw1 := hw1.symm
      subst hw1
      go_wp2_with fail
      go_ret
      rw [E3.out]
      exact ⟨rfl, rfl⟩
    · have E3 : Hid (z = -1) := E2.out.trans (if_neg hk)
      have hk2 : (k != 5) = true := by simpa using hk
      go_enter Tryz.func100, Tryz.ntmps100
      go_wp2_with fail
      refine P.mono ?_
      rintro e w1 ⟨rfl, hw1⟩
      have hw1 := hw1.symm
      subst hw1
      go_wp2_with fail
      go_ret
      rw [E3.out]
      exact ⟨rfl, rfl⟩
end

set_option maxRecDepth 100000 in
set_option maxHeartbeats 400000 in
theorem fits_any (k f : Int) (w : World) : Calls Tryz.prog 108 #[.int .i64 k, .int .i64 f] w fun e w' => e = .returned (.int .i64 (hc k f)) ∧ w' = w := by
  by_cases h1 : k = 1
  · subst h1
    by_cases h2 : f = 2
    · subst h2
      go_enter Tryz.func108, Tryz.ntmps108
      go_wp2_with fail
      go_ret
      exact ⟨rfl, rfl⟩
    · have e : hc 1 f = 1 := by simp [hc, h2]
      rw [e]
      go_enter Tryz.func108, Tryz.ntmps108
      go_wp2_with fail
      go_ret
      exact ⟨rfl, rfl⟩
  by_cases h3 : k = 3
  · subst h3
    by_cases h2 : f = 2
    · subst h2
      go_enter Tryz.func108, Tryz.ntmps108
      go_wp2_with fail
      go_ret
      exact ⟨rfl, rfl⟩
    · have e : hc 3 f = 1 := by simp [hc, h2]
      rw [e]
      go_enter Tryz.func108, Tryz.ntmps108
      go_wp2_with fail
      go_ret
      exact ⟨rfl, rfl⟩
  by_cases h4 : k = 4
  · subst h4
    by_cases h2 : f = 2
    · subst h2
      go_enter Tryz.func108, Tryz.ntmps108
      go_wp2_with fail
      go_ret
      exact ⟨rfl, rfl⟩
    · have e : hc 4 f = 1 := by simp [hc, h2]
      rw [e]
      go_enter Tryz.func108, Tryz.ntmps108
      go_wp2_with fail
      go_ret
      exact ⟨rfl, rfl⟩
  by_cases h5 : k = 5
  · subst h5
    by_cases h2 : f = 0
    · subst h2
      go_enter Tryz.func108, Tryz.ntmps108
      go_wp2_with fail
      go_ret
      exact ⟨rfl, rfl⟩
    · have e : hc 5 f = 1 := by simp [hc, h2]
      rw [e]
      go_enter Tryz.func108, Tryz.ntmps108
      go_wp2_with fail
      go_ret
      exact ⟨rfl, rfl⟩
  by_cases h2 : k = 2
  · subst h2
    by_cases a : f < 0
    · have e : hc 2 f = 1 := by simp [hc, a]
      rw [e]
      go_enter Tryz.func108, Tryz.ntmps108
      go_wp2_with fail
      go_ret
      exact ⟨rfl, rfl⟩
    · by_cases b : 12 < f
      · have e : hc 2 f = 1 := by simp [hc, b]
        rw [e]
        go_enter Tryz.func108, Tryz.ntmps108
        go_wp2_with fail
        go_ret
        exact ⟨rfl, rfl⟩
      · have e : hc 2 f = 0 := by simp [hc, a, b]
        rw [e]
        go_enter Tryz.func108, Tryz.ntmps108
        go_wp2_with fail
        go_ret
        exact ⟨rfl, rfl⟩
  have e : hc k f = 2 := by simp [hc, h1, h2, h3, h4, h5]
  rw [e]
  have g1 : (k == 1) = false := by simpa using h1
  have g2 : (k == 2) = false := by simpa using h2
  have g3 : (k == 3) = false := by simpa using h3
  have g4 : (k == 4) = false := by simpa using h4
  have g5 : (k == 5) = false := by simpa using h5
  go_enter Tryz.func108, Tryz.ntmps108
  go_wp2_with fail
  go_ret
  exact ⟨rfl, rfl⟩

theorem row_whole {w : World} {b k n size : Nat} {T : TypeId} {xs : List Value} (h : w.ownsRow b T size (.slice (some ⟨k, 0, none⟩) n n) n xs) : w.heap[k]? = some (.cells xs.toArray T (0, 0)) := by
  obtain ⟨h1, h2⟩ := h
  rcases h2 with ⟨e, _⟩ | ⟨k', cap, cur, hv, hb, hh, h3, h4, h5, h6⟩
  · cases e
  · cases hv
    rw [hh]
    have : cur.toList = xs := by
      rw [← List.take_of_length_le (l := cur.toList) (i := n * size) (by simp; omega), h6]
    rw [← this]

set_option maxRecDepth 100000 in
set_option maxHeartbeats 1000000 in
theorem newWorld_any (n o : Int) (w : World) : Calls Tryz.prog 41 #[.int .i64 n, .int .i64 o] w fun e w' => ∃ rp rb F, e = .returned (.pointer (some ⟨rp, 0, none⟩)) ∧ (wrO rp rb n o).J F ⟨[], List.replicate 12 (0, 0), [], []⟩ w' ∧ (∀ b, F b → w.heap.size ≤ b) ∧ Below w.heap.size w w' := by
  obtain ⟨i0, hi, hz0, hz1, hz2⟩ := info_parts infoVal
  go_enter Tryz.func41, Tryz.ntmps41
  go_wp2_with (at_make; refine wpList_make_full _ rfl _ _ 47 rfl w.heap.size 91 i0 (.agg #[.int .i64 0, .int .i64 0]) 2 Tryz.underlying47 hi hz0 hz1 .i64 .i64 _ _ 12 rfl rfl (by omega) (by omega) (by rw [hz2]; omega) (by unfold maxLen; omega) (by simp) ?_; intro w1 hown hgrow)
  go_ret
  have hr := row_whole hown
  have em : (madeCells (Value.agg #[.int .i64 0, .int .i64 0]).cells (12 * 2)).toList = ev (List.replicate 12 (0, 0)) := by kernel_rfl
  rw [em] at hr
  have hlt := lt_of_some hr
  have hb1 : Below w.heap.size w w1 := (Below.refl _ _).grown hgrow (Nat.le_refl _) (fun _ h => by cases h)
  have hnew := heap_alloc_new w1 (.cells #[.slice none 0 0, .slice (some ⟨w.heap.size, 0, none⟩) 12 12, .slice none 0 0, .slice none 0 0, .int .i64 n, .int .i64 o] 110)
  refine ⟨w1.heap.size, w.heap.size, fun b => b = w1.heap.size ∨ b = w.heap.size, rfl, ⟨fun b => if b = w1.heap.size then 1 else if b = w.heap.size then 4 else 0, [], .slice none 0 0, .slice none 0 0, .slice none 0 0, ?_, fun b => ?_⟩, fun b hb => by omega, hb1.alloc (by omega) _⟩
  · exact { blk := hnew, b1 := by rw [if_pos rfl], row := World.ownsRow_nil _ _ _ _, ro := fun b e => by simp [Value.ownBlock] at e, nd := rfl, fl := fun x hx => by simp at hx
            rt := (Below.heap_alloc _ _ _ hlt).trans hr
            rl := rfl
            r1 := by rw [if_neg (by omega), if_pos rfl]
            g2 := World.ownsRow_nil _ _ _ _, g2o := fun b e => by simp [Value.ownBlock] at e
            g3 := World.ownsRow_nil _ _ _ _, g3o := fun b e => by simp [Value.ownBlock] at e
            lt := fun b hb => by
              simp only [World.size_alloc]
              by_cases c1 : b = w1.heap.size
              · omega
              · by_cases c2 : b = w.heap.size
                · omega
                · rw [if_neg c1, if_neg c2] at hb
                  exact absurd rfl hb }
  · by_cases c1 : b = w1.heap.size
    · simp [c1]
    · by_cases c2 : b = w.heap.size
      · simp [c2, show ¬ w.heap.size = w1.heap.size by omega]
      · simp [c1, c2]

end Go.Proofs.YtakofbkmhmcnfabGreat

/- The document's world: UsesOf, StepFault: contracts. -/
namespace Go.Proofs.YtakofbkmhmcnfabGreat
open Go.RowKit W Kp Stl

/-- Which roots a kind of step uses. -/
def usO (k : Int) : Int := if k = 1 then 1 else if k = 2 then 1 else if k = 9 then 6 else if k = 11 then 3 else 6

set_option maxRecDepth 100000 in
set_option maxHeartbeats 400000 in
theorem usesOf_any (k : Int) (hk : k = 1 ∨ k = 2 ∨ k = 9 ∨ k = 11 ∨ k = 12) (w : World) : Calls Tryz.prog 49 #[.int .i64 k] w fun e w' => e = .returned (.int .i64 (usO k)) ∧ w' = w := by
  rcases hk with rfl | rfl | rfl | rfl | rfl
  all_goals
    go_enter Tryz.func49, Tryz.ntmps49
    go_wp2_with fail
    go_ret
    exact ⟨rfl, rfl⟩

/-- The code of a step whose roots are such. -/
def sfC (k n : Int) : Int := if k = 1 then rc n (-1152921504606846976) else 0
theorem sfC_lo (k n : Int) (h : n < -1152921504606846976) : sfC k n = if k = 1 then 1 else 0 := by unfold sfC rc; rw [if_pos h]
theorem sfC_hi (k n : Int) (h : 1152921504606846976 ≤ n) : sfC k n = if k = 1 then 1 else 0 := by
  unfold sfC rc
  by_cases hk : k = 1
  · rw [if_pos hk, if_pos hk, if_neg (by omega), if_pos h]
  · rw [if_neg hk, if_neg hk]
theorem sfC_ok (k n : Int) (h1 : -1152921504606846976 ≤ n) (h2 : n < 1152921504606846976) : sfC k n = 0 := by
  unfold sfC rc
  by_cases hk : k = 1
  · rw [if_pos hk, if_neg (by omega), if_neg (by omega)]
  · rw [if_neg hk]

set_option maxRecDepth 100000 in
set_option maxHeartbeats 1000000 in
theorem stepFault_any (k R A B I n : Int) (hk : k = 1 ∨ k = 2 ∨ k = 9 ∨ k = 11 ∨ k = 12) (hR : 0 ≤ R ∧ R < 12) (hA : 0 ≤ A ∧ A < 12) (hB : 0 ≤ B ∧ B < 12) (w : World) :
    Calls Tryz.prog 47 #[.agg #[.int .i64 k, .int .i64 R, .int .i64 A, .int .i64 B, .int .i64 I, .int .i64 n]] w fun e w' => e = .returned (.int .i64 (sfC k n)) ∧ Below w.heap.size w w' := by
  obtain ⟨r0, r1⟩ := hR
  obtain ⟨a0, a1⟩ := hA
  obtain ⟨b0, b1⟩ := hB
  have U := usesOf_any k hk
  have hb0 := (Below.refl w.heap.size w).alloc (Nat.le_refl _) (.cells #[.int .i64 k, .int .i64 R, .int .i64 A, .int .i64 B, .int .i64 I, .int .i64 n] 78)
  rcases hk with rfl | rfl | rfl | rfl | rfl
  all_goals
    go_enter Tryz.func47, Tryz.ntmps47
    go_wp2_with fail
    refine (U _).mono ?_
    rintro e w1 ⟨rfl, rfl⟩
    simp only [usO]
    go_wp2_with fail
    go_loopw [5] (fun iv wr => ∃ (j : Nat), j ≤ 3 ∧ iv = .int .i64 j ∧ wr = (w.alloc (.cells #[.int .i64 _, .int .i64 R, .int .i64 A, .int .i64 B, .int .i64 I, .int .i64 n] 78)).alloc (.cells #[.int .i64 R, .int .i64 A, .int .i64 B] 3)) (fun iv _ => 3 - (intOf iv).toNat)
    case atStart => exact ⟨0, by omega, rfl, rfl⟩
    case round =>
      obtain ⟨j, hj, rfl, rfl⟩ := hrel
      by_cases hlt : j < 3
      · rcases (show j = 0 ∨ j = 1 ∨ j = 2 by omega) with rfl | rfl | rfl
        all_goals
          go_wp2_with fail
          go_roundw
          case rel => first | exact ⟨1, by decide, rfl, trivial⟩ | exact ⟨2, by decide, rfl, trivial⟩ | exact ⟨3, by decide, rfl, trivial⟩
          case measure => simp [intOf]
      · obtain rfl : j = 3 := by omega
        by_cases h1 : n < -1152921504606846976
        · have H1 : Hid (n < -1152921504606846976) := h1
          have h2 : ¬ 1152921504606846976 ≤ n := by omega
          go_wp2_with fail
          go_ret
          exact ⟨by rw [sfC_lo _ _ H1.out]; rfl, hb0.alloc (by simp) _⟩
        · have H1 : Hid (-1152921504606846976 ≤ n) := by show _ ≤ _; omega
          by_cases h2 : 1152921504606846976 ≤ n
          · have H2 : Hid (1152921504606846976 ≤ n) := h2
            clear H1
            go_wp2_with fail
            go_ret
            exact ⟨by rw [sfC_hi _ _ H2.out]; rfl, hb0.alloc (by simp) _⟩
          · have H2 : Hid (n < 1152921504606846976) := by show _ < _; omega
            go_wp2_with fail
            go_ret
            exact ⟨by first | (rw [sfC_ok _ _ H1.out H2.out]; rfl) | rw [sfC_ok _ _ H1.out H2.out], hb0.alloc (by simp) _⟩

end Go.Proofs.YtakofbkmhmcnfabGreat

/- The document's world: Do: SInt, SNil: contracts. -/
namespace Go.Proofs.YtakofbkmhmcnfabGreat
open Go.RowKit W Kp Stl

/-- A step as it is handed over. -/
abbrev stpV (k R A B I n : Int) : Value := .agg #[.int .i64 k, .int .i64 R, .int .i64 A, .int .i64 B, .int .i64 I, .int .i64 n]
abbrev stpC (k R A B I n : Int) : Obj := .cells #[.int .i64 k, .int .i64 R, .int .i64 A, .int .i64 B, .int .i64 I, .int .i64 n] 78

/-- The code of a step at the field I of the root A. -/
def Wrs.gc (s : Wrs) (A : Nat) (I : Int) : Int := if s.th A < 0 ∨ (s.T.getD (s.th A).toNat (0, [], false, false)).1 = 5 then 2 else if I < 0 ∨ ((s.T.getD (s.th A).toNat (0, [], false, false)).2.1.length : Int) ≤ I then 1 else 0
/-- The field. -/
def Wrs.gf (s : Wrs) (A : Nat) (I : Int) : Int × Int := (s.T.getD (s.th A).toNat (0, [], false, false)).2.1.getD I.toNat (0, 0)

section
variable {rp rb : Nat} {most grow : Int} {F : Nat → Prop} {s : Wrs} {w : World}

theorem wr_ne (h : (wrO rp rb most grow).J F s w) : rb ≠ rp ∧ F rb ∧ F rp := by
  obtain ⟨own, m2, vT2, v22, v32, hM, hF⟩ := h
  refine ⟨fun e => ?_, (hF rb).2 (by rw [hM.r1]; decide), (hF rp).2 (by rw [hM.b1]; decide)⟩
  have h1 := hM.r1
  rw [e, hM.b1] at h1
  omega

set_option maxRecDepth 100000 in
set_option maxHeartbeats 1000000 in
theorem doInt_any (h : (wrO rp rb most grow).J F s w) (R : Nat) (hR : R < 12) (n : Int) :
    Calls Tryz.prog 43 #[.pointer (some ⟨rp, 0, none⟩), stpV 1 R 0 0 0 n] w fun e w' => e = .returned (.int .i64 (rc n (-1152921504606846976))) ∧ (wrO rp rb most grow).J F (if rc n (-1152921504606846976) = 0 then { s with rs := s.rs.set R (1, n) } else s) w' ∧ Tn F w F w' := by
  have hb0 := (Below.refl w.heap.size w).alloc (Nat.le_refl _) (stpC 1 R 0 0 0 n)
  have P := stepFault_any 1 R 0 0 0 n (Or.inl rfl) ⟨by omega, by omega⟩ ⟨by omega, by omega⟩ ⟨by omega, by omega⟩ (w.alloc (stpC 1 R 0 0 0 n))
  have e1 : sfC 1 n = rc n (-1152921504606846976) := rfl
  rw [e1] at P
  have HJ : Hid ((wrO rp rb most grow).J F s w ∧ Below w.heap.size w (w.alloc (stpC 1 R 0 0 0 n))) := ⟨h, hb0⟩
  have hrc : rc n (-1152921504606846976) = 0 ∨ rc n (-1152921504606846976) = 1 := by
    unfold rc
    split
    · exact Or.inr rfl
    · split
      · exact Or.inr rfl
      · exact Or.inl rfl
  clear h hb0 e1
  rcases hrc with hz | hz
  · rw [hz] at P ⊢
    rw [if_pos rfl]
    clear hz
    go_enter Tryz.func43, Tryz.ntmps43
    go_wp2_with fail
    refine P.mono ?_
    clear P
    rintro e w1 ⟨rfl, hb1⟩
    have hb := HJ.out.2.trans (hb1.mono (by simp))
    have hJ1 := (wrO rp rb most grow).below HJ.out.1 hb
    have hx : w1.heap[w.heap.size]? = some (stpC 1 R 0 0 0 n) := (hb1.block _ (by simp)).trans (heap_alloc_new _ _)
    have q0 : w1.cell? ⟨w.heap.size, 0, none⟩ = some (.int .i64 1) := by simp [World.cell?, hx]
    have q1 : w1.cell? ⟨w.heap.size, 1, none⟩ = some (.int .i64 R) := by simp [World.cell?, hx]
    have q5 : w1.cell? ⟨w.heap.size, 5, none⟩ = some (.int .i64 n) := by simp [World.cell?, hx]
    obtain ⟨c1, _, _, lrp, lrb, cz, hrl, cr⟩ := wr_cells hJ1
    obtain ⟨x0, x1, y0, y1⟩ := cr R hR
    obtain ⟨nrb, hFb, hFp⟩ := wr_ne hJ1
    have lb := (wrO rp rb most grow).lt HJ.out.1 rb hFb
    have lp := (wrO rp rb most grow).lt HJ.out.1 rp hFp
    have nx1 : rb ≠ w.heap.size := by omega
    have nx2 : rp ≠ w.heap.size := by omega
    have HJ1 : Hid ((wrO rp rb most grow).J F s w1 ∧ Tn F w F w1) := ⟨hJ1, Tn.of hb⟩
    have r0 : (0 : Int) ≤ (R : Int) := by omega
    have r1 : (R : Int) < 12 := by omega
    clear hJ1 hb hb1 hx cr cz HJ
    go_wp2_with fail
    go_region_held3 (fun w' => w'.cell? ⟨rp, 1, none⟩ = some (.slice (some ⟨rb, 0, none⟩) 12 12) ∧ w'.cell? ⟨w.heap.size, 1, none⟩ = some (.int .i64 R) ∧ w'.cell? ⟨w.heap.size, 5, none⟩ = some (.int .i64 n)) (go_keep) (fail)
    obtain ⟨hJ2, hT2⟩ := wr_root HJ1.out.1 R (1, n)
    have HJ2 : Hid (_ ∧ _) := ⟨(wrO rp rb most grow).below hJ2 (Below.refl _ _).drew, (HJ1.out.2.trans hT2).below (Below.refl _ _).drew⟩
    clear hJ2 hT2
    go_wp2_with fail
    go_ret
    exact ⟨rfl, HJ2.out.1, HJ2.out.2⟩
  · rw [hz] at P ⊢
    rw [if_neg (by decide)]
    clear hz
    go_enter Tryz.func43, Tryz.ntmps43
    go_wp2_with fail
    refine P.mono ?_
    clear P
    rintro e w1 ⟨rfl, hb1⟩
    have hb := HJ.out.2.trans (hb1.mono (by simp))
    go_wp2_with fail
    go_ret
    exact ⟨rfl, (wrO rp rb most grow).below HJ.out.1 hb, Tn.of hb⟩

set_option maxRecDepth 100000 in
set_option maxHeartbeats 1000000 in
theorem doNil_any (h : (wrO rp rb most grow).J F s w) (R : Nat) (hR : R < 12) :
    Calls Tryz.prog 43 #[.pointer (some ⟨rp, 0, none⟩), stpV 2 R 0 0 0 0] w fun e w' => e = .returned (.int .i64 0) ∧ (wrO rp rb most grow).J F { s with rs := s.rs.set R (0, 0) } w' ∧ Tn F w F w' := by
  have hb0 := (Below.refl w.heap.size w).alloc (Nat.le_refl _) (stpC 2 R 0 0 0 0)
  have P := stepFault_any 2 R 0 0 0 0 (Or.inr (Or.inl rfl)) ⟨by omega, by omega⟩ ⟨by omega, by omega⟩ ⟨by omega, by omega⟩ (w.alloc (stpC 2 R 0 0 0 0))
  have e1 : sfC 2 0 = 0 := rfl
  rw [e1] at P
  have HJ : Hid ((wrO rp rb most grow).J F s w ∧ Below w.heap.size w (w.alloc (stpC 2 R 0 0 0 0))) := ⟨h, hb0⟩
  clear h hb0 e1
  go_enter Tryz.func43, Tryz.ntmps43
  go_wp2_with fail
  refine P.mono ?_
  clear P
  rintro e w1 ⟨rfl, hb1⟩
  have hb := HJ.out.2.trans (hb1.mono (by simp))
  have hJ1 := (wrO rp rb most grow).below HJ.out.1 hb
  have hx : w1.heap[w.heap.size]? = some (stpC 2 R 0 0 0 0) := (hb1.block _ (by simp)).trans (heap_alloc_new _ _)
  have q0 : w1.cell? ⟨w.heap.size, 0, none⟩ = some (.int .i64 2) := by simp [World.cell?, hx]
  have q1 : w1.cell? ⟨w.heap.size, 1, none⟩ = some (.int .i64 R) := by simp [World.cell?, hx]
  obtain ⟨c1, _, _, lrp, lrb, cz, hrl, cr⟩ := wr_cells hJ1
  obtain ⟨x0, x1, y0, y1⟩ := cr R hR
  obtain ⟨nrb, hFb, hFp⟩ := wr_ne hJ1
  have lb := (wrO rp rb most grow).lt HJ.out.1 rb hFb
  have lp := (wrO rp rb most grow).lt HJ.out.1 rp hFp
  have nx1 : rb ≠ w.heap.size := by omega
  have nx2 : rp ≠ w.heap.size := by omega
  have HJ1 : Hid ((wrO rp rb most grow).J F s w1 ∧ Tn F w F w1) := ⟨hJ1, Tn.of hb⟩
  have r0 : (0 : Int) ≤ (R : Int) := by omega
  have r1 : (R : Int) < 12 := by omega
  clear hJ1 hb hb1 hx cr cz HJ
  go_wp2_with fail
  go_region_held3 (fun w' => w'.cell? ⟨rp, 1, none⟩ = some (.slice (some ⟨rb, 0, none⟩) 12 12) ∧ w'.cell? ⟨w.heap.size, 1, none⟩ = some (.int .i64 R)) (go_keep) (fail)
  obtain ⟨hJ2, hT2⟩ := wr_root HJ1.out.1 R (0, 0)
  have HJ2 : Hid (_ ∧ _) := ⟨(wrO rp rb most grow).below hJ2 (Below.refl _ _).drew, (HJ1.out.2.trans hT2).below (Below.refl _ _).drew⟩
  clear hJ2 hT2
  go_wp2_with fail
  go_ret
  exact ⟨rfl, HJ2.out.1, HJ2.out.2⟩
end

end Go.Proofs.YtakofbkmhmcnfabGreat
