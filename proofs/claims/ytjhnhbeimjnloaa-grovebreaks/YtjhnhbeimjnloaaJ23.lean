/- Joined: Gx19, Gx20, Wr, Wr2. -/
import Derived.Test.YtjhnhbeimjnloaaJ22
import Derived.Test.YtjhnhbeimjnloaaJ02
import Derived.Test.YtjhnhbeimjnloaaJ04
import Derived.Deep.DeepCutAuto
/- A grove in memory: a thing comes; slices.Clone of values: a contract. -/
namespace Go.Proofs.Ytjhnhbeimjnloaa
open Go.RowKit W Kp Stl

theorem owns_emptyV (w : World) : (w.alloc (.cells #[] 41)).ownsRow w.heap.size 41 2 (.slice (some ⟨w.heap.size, 0, none⟩) 0 0) 0 [] :=
  ⟨rfl, Or.inr ⟨w.heap.size, 0, #[], rfl, Nat.le_refl _, heap_alloc_new _ _, Nat.le_refl _, Nat.zero_le _, rfl, rfl⟩⟩
theorem infoVn : (Try.prog.info? 41).map (fun i => (i.zero, i.size, i.bytes)) = some (some (.agg #[.int .i64 0, .int .i64 0]), 2, 16) := by kernel_rfl

set_option maxRecDepth 100000 in
set_option maxHeartbeats 400000 in
theorem cloneV_any (w : World) (ad : Option Addr) (l : List (Int × Int)) (cap : Nat) (h : Li w ad l cap) (hm : l.length ≤ 100000) :
    Calls Try.prog 67 #[.slice ad l.length cap] w fun e w' => ∃ a1 c1, e = .returned (.slice a1 l.length c1) ∧ w'.ownsRow w.heap.size 41 2 (.slice a1 l.length c1) l.length (ev l) ∧ Below w.heap.size w w' := by
  obtain ⟨i0, hi, hz0, hz1, hz2⟩ := info_parts infoVn
  have qn : ∀ (w : World) (a : Option Addr) (n c : Nat), (binOp .eql 32 (.slice a n c) (.slice none 0 0)).run Try.prog w = .ok (.bool a.isNone) w := fun w a n c => Lib.run_eql_slice_nil w _ _ a n c 0 0 Try.underlying32
  have HL : Hid (Lp w ad l) := h.lp
  cases ad with
  | none =>
    have hl : l = [] := List.eq_nil_of_length_eq_zero (h.nil rfl).1
    subst hl
    clear h HL
    go_enter Try.func67, Try.ntmps67
    go_wp2_with fail
    go_ret
    exact ⟨none, 0, rfl, World.ownsRow_nil _ _ _ _, Below.refl _ _⟩
  | some a =>
    clear h
    go_enter Try.func67, Try.ntmps67
    go_wp2_with (at_builtin; refine wpList_append_own _ rfl _ _ 32 rfl w.heap.size 41 i0 (.agg #[.int .i64 0, .int .i64 0]) 2 16 Try.underlying32 hi hz0 hz1 hz2 rfl (by decide) _ 0 [] rfl (owns_emptyV w) a l.length cap (ev l) rfl (ev_length l) ((HL.out.below ((Below.refl _ _).alloc (Nat.le_refl _) _)).cells a rfl) (ev_one l) ?_ ?_ ?_ ?_; (unfold maxLen; omega); omega; (simp); intro v w1 hown hgrow _)
    rw [List.nil_append, Nat.zero_add] at hown
    obtain ⟨a1, c1, rfl⟩ := row_slice hown
    go_wp2_with fail
    go_ret
    exact ⟨a1, c1, rfl, hown, ((Below.refl _ _).alloc (Nat.le_refl _) _).grown hgrow (by simp) (fun k e => by cases e; exact Nat.le_refl _)⟩

section
variable {gp : Nat} {most grow : Int} {l : Gl} {F : Nat → Prop} {s : Wrs} {w w' : World}

theorem put_get (T : List Tw1) (t : Tw1) (i : Nat) : (T ++ [t]).getD i t0 = if i = T.length then t else T.getD i t0 := by
  rw [List.getD_eq_getElem?_getD, List.getD_eq_getElem?_getD, List.getElem?_append]
  by_cases h : i < T.length
  · rw [if_pos h, if_neg (by omega)]
  · rw [if_neg h]
    by_cases e : i = T.length
    · subst e
      simp
    · rw [if_neg e, List.getElem?_eq_none (by simp; omega), List.getElem?_eq_none (by omega)]
theorem put_alv (T : List Tw1) (k : Int) (fl : List (Int × Int)) (i : Nat) : Alv (T ++ [(k, fl, false, false)]) i ↔ Alv T i ∨ i = T.length := by
  unfold Alv
  rw [put_get, List.length_append, List.length_singleton]
  by_cases e : i = T.length
  · rw [if_pos e]
    exact ⟨fun _ => Or.inr e, fun _ => ⟨by omega, rfl⟩⟩
  · rw [if_neg e]
    exact ⟨fun h => Or.inl ⟨by omega, h.2⟩, fun h => h.elim (fun h => ⟨by omega, h.2⟩) (fun h => absurd h e)⟩

theorem Gvy.new (h : Gvy gp most grow l s w) {kd : Int} {fl : List (Int × Int)} {a : Option Addr} {cp : Nat} (hs : w.heap.size ≤ w'.heap.size) (hk : ∀ b, l.own b ≠ 0 → l.own b ≠ 1 → l.own b ≠ 2 → w'.heap[b]? = w.heap[b]?)
    (hb : w'.heap[gp]? = some (.cells #[.int .i64 most, .int .i64 grow, .map (some l.mb), .int .i64 (s.T.length + 1 : Nat), .int .i64 l.ag, .pointer (some ⟨l.bp, 0, none⟩), .slice (some ⟨l.rb, 0, none⟩) 12 12] 66 (0, 0)))
    (hM : Mh w' l.mb (l.n + 1) (upm (gvF s.T l.fm) s.T.length (.agg #[.int .i64 kd, .slice a fl.length cp]))) (hR : w'.ownsRow 0 41 2 (.slice a fl.length cp) fl.length (ev fl))
    (hn : ∀ k, some k = (Value.slice a fl.length cp).ownBlock → l.own k = 0) :
    ∃ l', Gvy gp most grow l' (s.put kd fl) w' ∧ (∀ b, l'.own b ≠ 0 → l.own b ≠ 0 ∨ some b = (Value.slice a fl.length cp).ownBlock) ∧ l'.rb = l.rb := by
  have ho : ∀ b, l.own b ≠ 0 → (if some b = (Value.slice a fl.length cp).ownBlock then 10 + s.T.length else l.own b) = l.own b := fun b hb => if_neg (fun e => hb (hn b e))
  have ne : ∀ i, Alv s.T i → i ≠ s.T.length := fun i hi e => by have := hi.1; omega
  have gq : ∀ i, i ≠ s.T.length → (s.T ++ [(kd, fl, false, false)]).getD i t0 = s.T.getD i t0 := fun i e => by rw [put_get, if_neg e]
  have gn : (s.T ++ [(kd, fl, false, false)]).getD s.T.length t0 = (kd, fl, false, false) := by rw [put_get, if_pos rfl]
  have ef : upm (gvF s.T l.fm) s.T.length (.agg #[.int .i64 kd, .slice a fl.length cp]) = gvF (s.T ++ [(kd, fl, false, false)]) (fun i => if i = s.T.length then (a, cp) else l.fm i) := by
    funext x
    unfold upm
    by_cases e : x = s.T.length
    · rw [if_pos e, gvF_yes ⟨by omega, (put_alv _ _ _ _).2 (Or.inr (by omega))⟩]
      have e2 : x.toNat = s.T.length := by omega
      dsimp only [thV, fsV]
      rw [e2, gn, if_pos rfl]
    · rw [if_neg e]
      by_cases hx : 0 ≤ x ∧ Alv s.T x.toNat
      · have e2 : x.toNat ≠ s.T.length := ne _ hx.2
        rw [gvF_yes hx, gvF_yes ⟨hx.1, (put_alv _ _ _ _).2 (Or.inl hx.2)⟩]
        dsimp only [thV, fsV]
        rw [gq _ e2, if_neg e2]
      · rw [gvF_no hx, gvF_no (fun c => by
          rcases (put_alv _ _ _ _).1 c.2 with d | d
          · exact hx ⟨c.1, d⟩
          · exact e (by have := c.1; omega))]
  refine ⟨{ l with own := fun b => if some b = (Value.slice a fl.length cp).ownBlock then 10 + s.T.length else l.own b, fm := fun i => if i = s.T.length then (a, cp) else l.fm i, n := l.n + 1 }, ?_, fun b hb => ?_, rfl⟩
  · refine { blk := ?_, bo := (ho _ (by rw [h.bo]; decide)).trans h.bo, g2 := ?_, g3 := ?_, g4 := ?_, lt := fun b hb' => ?_ }
    · show _ = some (Obj.cells #[_, _, _, .int .i64 ((s.T ++ [(kd, fl, false, false)]).length : Nat), _, _, _] _ _)
      rw [List.length_append, List.length_singleton]
      exact hb
    · refine { mp := ?_, mn := ?_, mo := (ho _ (by rw [h.g2.mo]; decide)).trans h.g2.mo, fl := fun i hi => ?_, fo := fun i hi k e => ?_, ag := fun i hi => ?_, al := ?_ }
      · show Mh w' l.mb (l.n + 1) (gvF (s.T ++ [(kd, fl, false, false)]) _)
        rw [← ef]
        exact hM
      · have := h.g2.mn
        show l.n + 1 ≤ (s.T ++ [(kd, fl, false, false)]).length
        rw [List.length_append, List.length_singleton]
        omega
      · rcases (put_alv _ _ _ _).1 hi with d | d
        · dsimp only [fsV, Wrs.put]
          rw [gq i (ne i d), if_neg (ne i d)]
          exact row_keep (h.g2.fl i d) (fun k e => hk k (by rw [h.g2.fo i d k e]; omega) (by rw [h.g2.fo i d k e]; omega) (by rw [h.g2.fo i d k e]; omega))
        · dsimp only [fsV, Wrs.put]
          rw [d, gn, if_pos rfl]
          exact hR
      · rcases (put_alv _ _ _ _).1 hi with d | d
        · dsimp only [fsV, Wrs.put] at e
          rw [gq i (ne i d), if_neg (ne i d)] at e
          have := h.g2.fo i d k e
          exact (ho k (by rw [this]; omega)).trans this
        · dsimp only [fsV, Wrs.put] at e
          rw [d, gn, if_pos rfl] at e
          show (if _ then _ else _) = _
          rw [if_pos e, d]
      · rcases (put_alv _ _ _ _).1 hi with d | d
        · dsimp only [Wrs.put]
          rw [gq i (ne i d)]
          exact h.g2.ag i d
        · have := h.g2.al
          dsimp only [Wrs.put]
          rw [d, gn]
          simp
          exact this
      · have := h.g2.al
        show l.ag ≤ (s.T ++ [(kd, fl, false, false)]).length
        rw [List.length_append, List.length_singleton]
        omega
    · have z := h.g3.keep (w' := w') (fun b hb => hk b (by omega) (by omega) (by omega))
      exact { sd := z.sd, so := (ho _ (by rw [z.so]; decide)).trans z.so, ro := fun k e => (ho k (by rw [z.ro k e]; decide)).trans (z.ro k e), qo := fun k e => (ho k (by rw [z.qo k e]; decide)).trans (z.qo k e) }
    · have z := h.g4.keep (w' := w') (fun b hb => hk b (by omega) (by omega) (by omega))
      exact { rt := z.rt, rl := z.rl, ro := (ho _ (by rw [z.ro]; decide)).trans z.ro }
    · dsimp only at hb'
      split at hb'
      · rename_i e
        exact (row_lt hR b e).2
      · exact Nat.lt_of_lt_of_le (h.lt b hb') hs
  · dsimp only at hb
    split at hb
    · exact Or.inr (by assumption)
    · exact Or.inl hb
end

end Go.Proofs.Ytjhnhbeimjnloaa

/- A grove in memory: grow: a contract. -/
namespace Go.Proofs.Ytjhnhbeimjnloaa
open Go.RowKit W Kp Stl

section
variable {gp rb : Nat} {most grow : Int} {F : Nat → Prop} {s : Wrs} {w : World} {g : Gfn}

theorem room_len (g : Gfn) (most grow : Int) (s : Wrs) (m : Int) : (s.room g most grow m).2.T.length = s.T.length := by
  unfold Wrs.room
  split
  · rfl
  · dsimp only
    unfold Wrs.cut
    split
    · rfl
    · exact cuL_len _ _ _

set_option maxRecDepth 100000 in
set_option maxHeartbeats 8000000 in
theorem growG_any {kd : Int} {fl : List (Int × Int)} {ad : Option Addr} {cap : Nat} (h : (grO gp most grow rb).J F s w) (hv : Wcv s) (hG : Gok s.T s.wt (g s.T s.wt)) (g0 : -1000000 ≤ grow) (g1 : grow ≤ 1000000) (m0 : -1000000 ≤ most) (m1 : most ≤ 1000000) (hl : fl.length ≤ 12) (hL : Li w ad fl cap) :
    Calls Try.prog 46 #[.pointer (some ⟨gp, 0, none⟩), .int .i64 kd, .slice ad fl.length cap] w fun e w' => ∃ F', e = .returned (.tuple #[.agg #[.int .i64 (s.grow g most grow kd fl).1.1, .int .i64 (s.grow g most grow kd fl).1.2], .int .i64 (s.grow g most grow kd fl).2.1]) ∧ (grO gp most grow rb).J F' (s.grow g most grow kd fl).2.2 w' ∧ Tn F w F' w' := by
  have HL : Hid (∀ b, F b → b < w.heap.size) := fun b hb => (grO gp most grow rb).lt h b hb
  have lF : ∀ b, F b → b < w.heap.size := HL.out
  have hrl := room_len g most grow s (1 + (fl.length : Int))
  have htl := hv.tl
  -- makeRoom, behind what was made
  have HR : Hid (∀ w2 : World, Below w.heap.size w w2 → ∀ tb a1 c1, w2.heap[w.heap.size]? = some (.cells #[.int .i64 0, .int .i64 0] 41 (0, 0)) → w2.heap[tb]? = some (.cells #[.int .i64 kd, .slice a1 fl.length c1] 80 (0, 0)) → w.heap.size ≤ tb → w2.ownsRow (w.heap.size + 1) 41 2 (.slice a1 fl.length c1) fl.length (ev fl) →
      Calls Try.prog 68 #[.pointer (some ⟨gp, 0, none⟩), .int .i64 (1 + (fl.length : Int))] w2 fun e w3 => e = .returned (.int .i64 (s.room g most grow (1 + (fl.length : Int))).1) ∧ w3.heap[w.heap.size]? = some (.cells #[.int .i64 0, .int .i64 0] 41 (0, 0)) ∧ w3.heap[tb]? = some (.cells #[.int .i64 kd, .slice a1 fl.length c1] 80 (0, 0)) ∧ w3.ownsRow (w.heap.size + 1) 41 2 (.slice a1 fl.length c1) fl.length (ev fl) ∧
        Hid (∃ F', (grO gp most grow rb).J F' (s.room g most grow (1 + (fl.length : Int))).2 w3 ∧ Tn F w F' w3 ∧ ¬ F' w.heap.size ∧ ¬ F' tb ∧ ∀ k, some k = (Value.slice a1 fl.length c1).ownBlock → ¬ F' k)) := fun w2 hb tb a1 c1 e1 e2 ht hr => by
    refine (roomG_any ((grO gp most grow rb).below h hb) hv hG g0 g1 m0 m1).mono ?_
    rintro e w3 ⟨F', rfl, hj, tn⟩
    have nF : ∀ b, w.heap.size ≤ b → b < w2.heap.size → ¬ F' b := fun b h1 h2 c => by
      rcases tn.sub b c with d | d
      · have := lF b d
        omega
      · omega
    have kp : ∀ b, w.heap.size ≤ b → b < w2.heap.size → w3.heap[b]? = w2.heap[b]? := fun b h1 h2 => tn.fr.block b h2 (fun d => by have := lF b d; omega)
    exact ⟨rfl, (kp _ (Nat.le_refl _) (lt_of_some e1)).trans e1, (kp _ ht (lt_of_some e2)).trans e2, row_keep hr (fun k e => kp k (by have := (row_lt hr k e).1; omega) (row_lt hr k e).2), F', hj, (Tn.of hb).trans tn, nF _ (Nat.le_refl _) (lt_of_some e1), nF _ ht (lt_of_some e2), fun k e => nF k (by have := (row_lt hr k e).1; omega) (row_lt hr k e).2⟩
  have HR2 : Hid (∀ (w1 : World) (a1 : Option Addr) (c1 : Nat), w1.ownsRow (w.alloc (.cells #[.int .i64 0, .int .i64 0] 41)).heap.size 41 2 (.slice a1 fl.length c1) fl.length (ev fl) → Below (w.alloc (.cells #[.int .i64 0, .int .i64 0] 41)).heap.size (w.alloc (.cells #[.int .i64 0, .int .i64 0] 41)) w1 →
      ∀ w2, Below (w1.alloc (.cells #[.int .i64 kd, .slice a1 fl.length c1] 80)).heap.size (w1.alloc (.cells #[.int .i64 kd, .slice a1 fl.length c1] 80)) w2 → Calls Try.prog 68 #[.pointer (some ⟨gp, 0, none⟩), .int .i64 (1 + (fl.length : Int))] w2 fun e w3 => e = .returned (.int .i64 (s.room g most grow (1 + (fl.length : Int))).1) ∧ w3.heap[w.heap.size]? = some (.cells #[.int .i64 0, .int .i64 0] 41 (0, 0)) ∧ w3.heap[w1.heap.size]? = some (.cells #[.int .i64 kd, .slice a1 fl.length c1] 80 (0, 0)) ∧ w.heap.size < w1.heap.size ∧ Hid (w3.ownsRow (w.heap.size + 1) 41 2 (.slice a1 fl.length c1) fl.length (ev fl)) ∧
        Hid (∃ F', (grO gp most grow rb).J F' (s.room g most grow (1 + (fl.length : Int))).2 w3 ∧ Tn F w F' w3 ∧ ¬ F' w.heap.size ∧ ¬ F' w1.heap.size ∧ ∀ k, some k = (Value.slice a1 fl.length c1).ownBlock → ¬ F' k)) := fun w1 a1 c1 hr hb w2 hb2 => by
    have z1 := hb.size
    have z2 := hb2.size
    simp at z1 z2 hr
    have bw : Below w.heap.size w w2 := ((((Below.refl _ w).alloc (Nat.le_refl _) _).trans (hb.mono (by simp))).alloc (by omega) _).trans (hb2.mono (by simp; omega))
    refine (HR.out w2 bw w1.heap.size a1 c1 ((hb2.block _ (by simp; omega)).trans ((Below.heap_alloc _ _ _ (by omega)).trans ((hb.block _ (by simp)).trans (heap_alloc_new w _)))) ((hb2.block _ (by simp)).trans (heap_alloc_new w1 _)) (by omega) (row_keep hr (fun k e => (hb2.block k (by have := (row_lt hr k e).2; simp; omega)).trans (Below.heap_alloc _ _ _ (row_lt hr k e).2)))).mono ?_
    rintro e w3 ⟨rfl, x1, x2, x3, x4⟩
    exact ⟨rfl, x1, x2, by omega, x3, x4⟩
  clear HR
  have P := cloneV_any (w.alloc (.cells #[.int .i64 0, .int .i64 0] 41)) ad fl cap ⟨hL.lp.below ((Below.refl _ _).alloc (Nat.le_refl _) _), hL.le, hL.nil⟩ (by omega)
  have hW : ∀ (k : Int) (a : Option Addr) (n c : Nat), n ≤ 12 → ∀ w : World, Calls Try.prog 32 #[.agg #[.int .i64 k, .slice a n c]] w fun e w' => e = .returned (.int .i64 (1 + n)) ∧ Below w.heap.size w w' := fun k a n c hn w => wordsG_any k a n c (by omega) w
  have HW : Hid (∀ (k : Int) (a : Option Addr) (n c : Nat), n ≤ 12 → ∀ w : World, Calls Try.prog 32 #[.agg #[.int .i64 k, .slice a n c]] w fun e w' => e = .returned (.int .i64 (1 + n)) ∧ Below w.heap.size w w') := hW
  have HE : Hid (s.grow g most grow kd fl = if (s.room g most grow (1 + (fl.length : Int))).1 = 0 then ((3, ((s.room g most grow (1 + (fl.length : Int))).2.T.length : Int)), 0, (s.room g most grow (1 + (fl.length : Int))).2.put kd fl) else ((0, 0), (s.room g most grow (1 + (fl.length : Int))).1, (s.room g most grow (1 + (fl.length : Int))).2)) := rfl
  generalize s.grow g most grow kd fl = R at *
  generalize (s.room g most grow (1 + (fl.length : Int))).1 = rc at *
  generalize (s.room g most grow (1 + (fl.length : Int))).2 = s2 at *
  have hwrap : (1 + (fl.length : Int)) ≤ 13 := by omega
  have hs2 : s2.T.length ≤ 10000 := by omega
  clear hW h hv hG hL lF hrl htl
  by_cases hrc : rc = 0
  · subst hrc
    have HE2 : Hid (R = ((3, (s2.T.length : Int)), 0, s2.put kd fl)) := HE.out.trans (if_pos rfl)
    clear HE
    go_enter Try.func46, Try.ntmps46
    go_wp2_with fail
    refine P.mono ?_
    clear P
    rintro e w1 ⟨a1, c1, rfl, hr1, hb1⟩
    have HB : Hid (_) := HR2.out w1 a1 c1 hr1 hb1
    clear hr1 hb1 HR2
    have P := HW.out kd a1 fl.length c1 hl (w1.alloc (.cells #[.int .i64 kd, .slice a1 fl.length c1] 80))
    go_wp2_with fail
    refine P.mono ?_
    clear P
    rintro e w2 ⟨rfl, hb2⟩
    have P := HB.out w2 hb2
    clear HB hb2
    go_wp2_with fail
    refine P.mono ?_
    clear P
    rintro e w3 ⟨rfl, x1, x2, hlt, HX, HJ⟩
    have HQ : Hid (w3.cell? ⟨gp, 3, none⟩ = some (.int .i64 s2.T.length) ∧ ∀ w4, Below w3.heap.size w3 w4 → ∃ mb w5, ((w4.alloc (.cells #[.int .i64 3, .int .i64 s2.T.length] 41)).cell? ⟨gp, 2, none⟩ = some (.map (some mb)) ∧ (w4.alloc (.cells #[.int .i64 3, .int .i64 s2.T.length] 41)).cell? ⟨gp, 3, none⟩ = some (.int .i64 s2.T.length) ∧ (w4.alloc (.cells #[.int .i64 3, .int .i64 s2.T.length] 41)).cell? ⟨w1.heap.size, 0, none⟩ = some (.int .i64 kd) ∧ (w4.alloc (.cells #[.int .i64 3, .int .i64 s2.T.length] 41)).cell? ⟨w1.heap.size, 1, none⟩ = some (.slice a1 fl.length c1)) ∧
        (Instr.mapUpdate 59 (.map (some mb)) (.int .i64 s2.T.length) (.agg #[.int .i64 kd, .slice a1 fl.length c1])).run Try.prog (w4.alloc (.cells #[.int .i64 3, .int .i64 s2.T.length] 41)).drew = .ok () w5 ∧
        (w5.cell? ⟨gp, 2, none⟩ = some (.map (some mb)) ∧ w5.cell? ⟨gp, 3, none⟩ = some (.int .i64 s2.T.length) ∧ w5.cell? ⟨w1.heap.size, 0, none⟩ = some (.int .i64 kd) ∧ w5.cell? ⟨w1.heap.size, 1, none⟩ = some (.slice a1 fl.length c1) ∧ (∀ o, w5.frozen? ⟨gp, o, none⟩ = false)) ∧
        (w5.cell? ⟨w4.heap.size, 0, none⟩ = some (.int .i64 3) ∧ w5.cell? ⟨w4.heap.size, 1, none⟩ = some (.int .i64 s2.T.length)) ∧ w5.heap[w.heap.size]? = some (.cells #[.int .i64 0, .int .i64 0] 41 (0, 0)) ∧ (gp ≠ w.heap.size ∧ gp ≠ w4.heap.size ∧ w4.heap.size ≠ w.heap.size) ∧
        Hid (∃ F', (grO gp most grow rb).J F' (s2.put kd fl) (((w5.setCell ⟨gp, 3, none⟩ (.int .i64 (s2.T.length + 1))).setCell ⟨w.heap.size, 0, none⟩ (.int .i64 3)).setCell ⟨w.heap.size, 1, none⟩ (.int .i64 s2.T.length)) ∧ Tn F w F' (((w5.setCell ⟨gp, 3, none⟩ (.int .i64 (s2.T.length + 1))).setCell ⟨w.heap.size, 0, none⟩ (.int .i64 3)).setCell ⟨w.heap.size, 1, none⟩ (.int .i64 s2.T.length)))) := by
      obtain ⟨F', ⟨l, gv, hrb, hF'⟩, tn, n1, n2, n3⟩ := HJ.out
      have c := gv.cells
      refine ⟨c.2.2.2.1, fun w4 hb4 => ?_⟩
      have lg := c.2.2.2.2.2.2.2.2
      have z3 := tn.fr.size
      have z4 := hb4.size
      have ba : Below w3.heap.size w3 (w4.alloc (.cells #[.int .i64 3, .int .i64 s2.T.length] 41)) := hb4.alloc z4 _
      have gva := gv.below ba
      have ca := gva.cells
      have hx2 := (ba.block w1.heap.size (lt_of_some x2)).trans x2
      obtain ⟨t0_, t1_, _, _⟩ := two_cells hx2
      obtain ⟨w5, hrun, hM, gr⟩ := (gv.below ba.drew).g2.mp.put (t := 59) (e := 80) Try.underlying59 (by have := gv.g2.mn; omega) (x := s2.T.length) (by omega) (by omega) (.agg #[.int .i64 kd, .slice a1 fl.length c1])
      have own0 : ∀ b, ¬ F' b → l.own b = 0 := fun b hb => by
        cases e : l.own b
        · rfl
        · exact absurd ((hF' b).2 (by rw [e]; omega)) hb
      have o0 := own0 _ n1
      have o1 := own0 _ n2
      have ngm : gp ≠ l.mb := fun e => by have h1 := gv.bo; rw [e, gv.g2.mo] at h1; omega
      have n0m : w.heap.size ≠ l.mb := fun e => by rw [e, gv.g2.mo] at o0; omega
      have ntm : w1.heap.size ≠ l.mb := fun e => by rw [e, gv.g2.mo] at o1; omega
      have n0g : gp ≠ w.heap.size := fun e => by have h1 := gv.bo; rw [e, o0] at h1; omega
      have lm : l.mb < w3.heap.size := gv.lt _ (by rw [gv.g2.mo]; decide)
      have l0 := lt_of_some x1
      have l1 := lt_of_some x2
      have k5 : ∀ b, b < w4.heap.size + 1 → b ≠ l.mb → w5.heap[b]? = (w4.alloc (.cells #[.int .i64 3, .int .i64 s2.T.length] 41)).heap[b]? := fun b hb hn => gr.block b (by simp; omega) (fun e => hn (Option.some.inj e))
      have k53 : ∀ b, b < w3.heap.size → b ≠ l.mb → w5.heap[b]? = w3.heap[b]? := fun b hb hn => (k5 b (by omega) hn).trans (ba.block b hb)
      have hgp5 := (k53 gp lg ngm).trans gv.blk
      have hn5 := (k5 w4.heap.size (by omega) (by omega)).trans (heap_alloc_new w4 _)
      obtain ⟨y0, y1, _, _⟩ := two_cells hn5
      obtain ⟨t2, t3, _, _⟩ := two_cells ((k53 _ l1 ntm).trans x2)
      have zs : w5.heap.size = (((w5.setCell ⟨gp, 3, none⟩ (.int .i64 (s2.T.length + 1))).setCell ⟨w.heap.size, 0, none⟩ (.int .i64 3)).setCell ⟨w.heap.size, 1, none⟩ (.int .i64 s2.T.length)).heap.size := by simp
      have z5 : w3.heap.size ≤ w5.heap.size := Nat.le_trans (Nat.le_trans z4 (by simp)) gr.size
      have kX : ∀ b, b ≠ gp → b ≠ w.heap.size → (((w5.setCell ⟨gp, 3, none⟩ (.int .i64 (s2.T.length + 1))).setCell ⟨w.heap.size, 0, none⟩ (.int .i64 3)).setCell ⟨w.heap.size, 1, none⟩ (.int .i64 s2.T.length)).heap[b]? = w5.heap[b]? := fun b h1 h2 => (Below.heap_setCell _ _ _ _ h2).trans ((Below.heap_setCell _ _ _ _ h2).trans (Below.heap_setCell _ _ _ _ h1))
      refine ⟨l.mb, w5, ⟨ca.2.2.1, ca.2.2.2.1, t0_, t1_⟩, hrun, ⟨by simp [World.cell?, hgp5], by simp [World.cell?, hgp5], t2, t3, fun o => by simp [World.frozen?, hgp5]⟩, ⟨y0, y1⟩, (k53 _ l0 n0m).trans x1, ⟨n0g, by omega, by omega⟩, ?_⟩
      obtain ⟨l', g1', g2', g3'⟩ := gv.new (kd := kd) (fl := fl) (a := a1) (cp := c1) (Nat.le_trans z5 (Nat.le_of_eq zs)) (fun b h0 h1 h2 => (kX b (fun e => h1 (by rw [e]; exact gv.bo)) (fun e => h0 (by rw [e]; exact o0))).trans (k53 b (gv.lt b h0) (fun e => h2 (by rw [e]; exact gv.g2.mo)))) (by
        rw [Below.heap_setCell _ _ _ _ n0g, Below.heap_setCell _ _ _ _ n0g]
        simp only [World.setCell, Array.getElem?_modify, if_true, hgp5, Option.map_some]
        rfl) (hM.same (kX _ ngm.symm n0m.symm)) (row_keep (row_base HX.out (fun k e => Nat.zero_le _)) (fun k e => by
          have ok := own0 k (n3 k e)
          have hk := row_lt HX.out k e
          exact (kX k (fun d => by have h1 := gv.bo; rw [← d, ok] at h1; omega) (by omega)).trans (k53 k hk.2 (fun d => by have h1 := gv.g2.mo; rw [← d, ok] at h1; omega)))) (fun k e => own0 k (n3 k e))
      refine ⟨fun b => l'.own b ≠ 0, ⟨l', g1', g3'.trans hrb, fun _ => Iff.rfl⟩, ⟨⟨?_, ?_, ?_, by rw [← zs]; omega, fun k hk hn => ?_⟩, fun b hb => ?_⟩⟩
      · exact (show _ = w5.os from rfl).trans (gr.os.trans (ba.os.trans tn.fr.os))
      · exact (show _ = w5.tape from rfl).trans (gr.tape.trans (ba.tape.trans tn.fr.tape))
      · exact (show _ = w5.output from rfl).trans (gr.output.trans (ba.output.trans tn.fr.output))
      · have hgF : ∀ b, F' b → b < w.heap.size → F b := fun b h1 h2 => (tn.sub b h1).resolve_right (by omega)
        exact (kX k (fun e => hn (hgF k ((hF' k).2 (by rw [e, gv.bo]; decide)) hk)) (by omega)).trans ((k53 k (by omega) (fun e => hn (hgF k ((hF' k).2 (by rw [e, gv.g2.mo]; decide)) hk))).trans (tn.fr.block k hk hn))
      · rcases g2' b hb with d | d
        · exact tn.sub b ((hF' b).2 d)
        · exact Or.inr (by have := (row_lt HX.out b d).1; omega)
    clear HX HJ x1 x2
    obtain ⟨d3, HQ2⟩ := HQ.out
    have HQ2 : Hid (_) := HQ2
    clear HQ
    have P := refValue_any s2.T.length w3
    go_wp2_with fail
    refine P.mono ?_
    clear P
    rintro e w4 ⟨rfl, hb4⟩
    obtain ⟨mb, w5, ⟨p2, p3, q0, q1⟩, hrun, ⟨u2, u3, v0, v1, uf⟩, ⟨y0, y1⟩, hn0, ⟨nd1, nd2, nd3⟩, HZ⟩ := HQ2.out w4 hb4
    have uf3 := uf 3
    obtain ⟨e0, e1, f0, lw⟩ := two_cells hn0
    have HN : Hid (_ = _) := hn0
    clear hb4 HQ2 hn0 d3 uf
    go_wp2_with fail
    go_region_held3 (fun w' => w'.cell? ⟨gp, 2, none⟩ = some (.map (some mb)) ∧ w'.cell? ⟨gp, 3, none⟩ = some (.int .i64 s2.T.length) ∧ w'.cell? ⟨w1.heap.size, 0, none⟩ = some (.int .i64 kd) ∧ w'.cell? ⟨w1.heap.size, 1, none⟩ = some (.slice a1 fl.length c1)) (go_keep) (fail)
    all_goals
      clear p2 p3 q0 q1 hrun u2 v0 v1
      go_wp2_with fail
      obtain ⟨r0, r1, _, _⟩ := two_cells (set_two (v1 := .int .i64 3) (v2 := .int .i64 s2.T.length) ((Below.heap_setCell w5 ⟨gp, 3, none⟩ (.int .i64 (s2.T.length + 1)) w.heap.size nd1.symm).trans HN.out))
      obtain ⟨F', hj, tn⟩ := HZ.out
      exact bodyPost_ret (v := .tuple #[.agg #[.int .i64 3, .int .i64 s2.T.length], .int .i64 0]) (by simp [results, Try.results46, go_sem, r0, r1]) rfl ⟨F', by rw [HE2.out], by rw [HE2.out]; exact hj, tn⟩
  · have HE2 : Hid (R = ((0, 0), rc, s2)) := HE.out.trans (if_neg hrc)
    clear HE
    go_enter Try.func46, Try.ntmps46
    go_wp2_with fail
    refine P.mono ?_
    clear P
    rintro e w1 ⟨a1, c1, rfl, hr1, hb1⟩
    have HB : Hid (_) := HR2.out w1 a1 c1 hr1 hb1
    clear hr1 hb1 HR2
    have P := HW.out kd a1 fl.length c1 hl (w1.alloc (.cells #[.int .i64 kd, .slice a1 fl.length c1] 80))
    go_wp2_with fail
    refine P.mono ?_
    clear P
    rintro e w2 ⟨rfl, hb2⟩
    have P := HB.out w2 hb2
    clear HB hb2
    go_wp2_with fail
    refine P.mono ?_
    clear P
    rintro e w3 ⟨rfl, x1, x2, hlt, HX, HJ⟩
    obtain ⟨e0, e1, f0, lw⟩ := two_cells x1
    have HN : Hid (_ = _) := x1
    clear x1 x2 HX
    go_wp2_with fail
    obtain ⟨r0, r1, _, _⟩ := two_cells (set_two (v1 := .int .i64 0) (v2 := .int .i64 0) HN.out)
    obtain ⟨F', hj, tn, n1, _⟩ := HJ.out
    exact bodyPost_ret (v := .tuple #[.agg #[.int .i64 0, .int .i64 0], .int .i64 rc]) (by simp [results, Try.results46, go_sem, r0, r1]) rfl ⟨F', by rw [HE2.out], by rw [HE2.out]; exact (grO gp most grow rb).set2 hj n1 _ _, tn.set2 (Nat.le_refl _) _ _⟩
end

end Go.Proofs.Ytjhnhbeimjnloaa

/- slices.Repeat of one word, twelve times: a contract. -/
namespace Go.Proofs.Ytjhnhbeimjnloaa
open Go.RowKit W

theorem wp_copy_mv {P : Program} {o : Oper} {a : Act} {w : World} {K : Act → World → Prop} {Q : Exit → Act → World → Prop} (hgd : o.guard = none) (d s : Operand) (dT sT elem : TypeId)
    (ho : o.op = .call { callee := .builtin .copy, args := #[d, s], argTypes := #[dT, sT] }) (hu : P.underlying dT = some (.slice elem)) (hsz : (P.info? elem).map (·.size) = some 1)
    (dp sp : Option Addr) (dLen dCap sLen sCap : Nat) (hd : a.eval d = .slice dp dLen dCap) (hs : a.eval s = .slice sp sLen sCap)
    (g off : Nat) (cur : List Value) (t : TypeId) (hg : w.heap[g]? = some (.cells cur.toArray t (0, 0))) (cs : List Value) (hn : cs.length = Nat.min sLen dLen)
    (hpos : 0 < cs.length → dp = some ⟨g, off, none⟩ ∧ ∃ ad, sp = some ad ∧ ∀ j v, cs[j]? = some v → w.cell? (ad.add j) = some v)
    (hfit : off + cs.length ≤ cur.length) (h1 : ∀ v ∈ cs, v.oneCell' = true)
    (h : ∀ w', Mv w w' g cur off cs → K (a.put o.dst (goInt cs.length)) w') : Oper.wp P o a w K Q := by
  have := step_copy_mv (P := P) (ops := #[]) (o := o) (a := a) (w := w) (K := K) (Q := Q) (E := False) hgd d s dT sT elem ho hu hsz dp sp dLen dCap sLen sCap hd hs g off cur t hg cs hn hpos hfit h1 h
  rwa [if_pos (show Region.wanted o (yielded #[] a.tmps) = true by simp [Region.wanted, hgd])] at this
theorem wpList_copy_mv {P : Program} {ops : Array Oper} {rest : List Oper} {o : Oper} {a : Act} {w : World} {Q : Exit → Act → World → Prop} (hgd : o.guard = none) (d s : Operand) (dT sT elem : TypeId)
    (ho : o.op = .call { callee := .builtin .copy, args := #[d, s], argTypes := #[dT, sT] }) (hu : P.underlying dT = some (.slice elem)) (hsz : (P.info? elem).map (·.size) = some 1)
    (dp sp : Option Addr) (dLen dCap sLen sCap : Nat) (hd : a.eval d = .slice dp dLen dCap) (hs : a.eval s = .slice sp sLen sCap)
    (g off : Nat) (cur : List Value) (t : TypeId) (hg : w.heap[g]? = some (.cells cur.toArray t (0, 0))) (cs : List Value) (hn : cs.length = Nat.min sLen dLen)
    (hpos : 0 < cs.length → dp = some ⟨g, off, none⟩ ∧ ∃ ad, sp = some ad ∧ ∀ j v, cs[j]? = some v → w.cell? (ad.add j) = some v)
    (hfit : off + cs.length ≤ cur.length) (h1 : ∀ v ∈ cs, v.oneCell' = true)
    (h : ∀ w', Mv w w' g cur off cs → wpList P ops Q rest (a.put o.dst (goInt cs.length)) w') : wpList P ops Q (o :: rest) a w :=
  wpList_plain hgd fun _ hK => wp_copy_mv hgd d s dT sT elem ho hu hsz dp sp dLen dCap sLen sCap hd hs g off cur t hg cs hn hpos hfit h1 (fun w' hw => hK _ _ (h w' hw))

set_option maxRecDepth 100000 in
set_option maxHeartbeats 400000 in
theorem mul64_c (w : World) : Calls Try.prog 57 #[.int .u64 1, .int .u64 12] w fun e w' => e = .returned (.tuple #[.int .u64 0, .int .u64 12]) ∧ w' = w := by
  go_enter Try.func57, Try.ntmps57
  go_wp2_with fail
  go_ret2
  exact ⟨rfl, rfl⟩

set_option maxRecDepth 100000 in
set_option maxHeartbeats 400000 in
theorem mul_c (w : World) : Calls Try.prog 35 #[.int .u64 1, .int .u64 12] w fun e w' => e = .returned (.tuple #[.int .u64 0, .int .u64 12]) ∧ w' = w := by
  go_enter Try.func35, Try.ntmps35
  go_wp2_with fail
  refine (mul64_c w).mono ?_
  rintro e w1 ⟨rfl, hw⟩
  have hw := hw.symm
  subst hw
  go_wp2_with fail
  go_ret2
  exact ⟨rfl, rfl⟩

end Go.Proofs.Ytjhnhbeimjnloaa

/- slices.Repeat of one word, twelve times: a contract. -/
namespace Go.Proofs.Ytjhnhbeimjnloaa
open Go.RowKit W

def tw (v : Int) (n : Nat) : List Int := List.replicate n v ++ List.replicate (12 - n) 0
theorem tw_len (v : Int) (n : Nat) (h : n ≤ 12) : (tw v n).length = 12 := by simp [tw]; omega
theorem tw_step (v : Int) (n m : Nat) (h : n + m ≤ 12) : splice (tw v n) n (List.replicate m v) = tw v (n + m) := by
  unfold splice tw
  rw [List.take_left' (by simp), List.length_replicate, List.drop_append, List.length_replicate]
  simp only [List.drop_replicate]
  rw [show n - (n + m) = 0 by omega, show 12 - n - (n + m - n) = 12 - (n + m) by omega]
  simp
  rw [← List.append_assoc, List.replicate_append_replicate]
theorem tw_get (v : Int) (n i : Nat) (h : i < n) : (tw v n).getD i 0 = v := by
  unfold tw
  rw [List.getD_eq_getElem?_getD, List.getElem?_append_left (by simpa using h)]
  simp [h]
theorem one_cell {w : World} {b : Nat} {v : Int} (hc : w.cell? ⟨b, 0, none⟩ = some (.int .i64 v)) : ∀ j u, ((List.replicate 1 v).map (Value.int .i64))[j]? = some u → w.cell? ((⟨b, 0, none⟩ : Addr).add j) = some u := by
  intro j u hj
  have hj0 : j = 0 := by
    have := (List.getElem?_eq_some_iff.1 hj).1
    simpa using this
  subst hj0
  simp at hj
  rw [← hj]
  simpa [Addr.add] using hc
theorem tw_cell {w : World} {nb n : Nat} {v : Int} (hr : w.heap[nb]? = some (.cells ((tw v n).map (Value.int .i64)).toArray 2 (0, 0))) (hn : n ≤ 12) (m : Nat) (hm : m ≤ n) : ∀ j u, ((List.replicate m v).map (Value.int .i64))[j]? = some u → w.cell? ((⟨nb, 0, none⟩ : Addr).add j) = some u := by
  intro j u hj
  have hjm : j < m := by
    have := (List.getElem?_eq_some_iff.1 hj).1
    simpa using this
  have hu : u = .int .i64 v := by
    simp [hjm] at hj
    exact hj.symm
  have hl := tw_len v n hn
  have hg := tw_get v n j (by omega)
  rw [List.getD_eq_getElem?_getD, List.getElem?_eq_getElem (by omega : j < (tw v n).length)] at hg
  simp at hg
  have ea : (⟨nb, 0, none⟩ : Addr).add j = ⟨nb, j, none⟩ := by simp [Addr.add]; intro h; exact h.symm
  rw [ea, hu]
  have hlt : j < (tw v n).length := by omega
  simp [World.cell?, hr, List.getElem?_eq_getElem hlt]
  exact hg

theorem mv_tw {w w' : World} {nb n m B : Nat} {v : Int} (hmv : Mv w w' nb ((tw v n).map (Value.int .i64)) n ((List.replicate m v).map (Value.int .i64))) (hr : w.heap[nb]? = some (.cells ((tw v n).map (Value.int .i64)).toArray 2 (0, 0))) (hm : 0 < m) (h : n + m ≤ 12) (hB : B ≤ nb) : w'.heap[nb]? = some (.cells ((tw v (n + m)).map (Value.int .i64)).toArray 2 (0, 0)) ∧ Below B w w' := by
  rcases hmv with ⟨h0, _⟩ | rfl
  · have := congrArg List.length h0
    simp at this
    omega
  · rw [splice_map, tw_step v n m h]
    exact ⟨setRow_heap w nb _ _ _ _ hr, ⟨rfl, rfl, rfl, by simp [World.setRow], fun k hk => setRow_other w nb k _ (by omega)⟩⟩

set_option maxRecDepth 100000 in
set_option maxHeartbeats 400000 in
theorem repeat12_any (w : World) (b : Nat) (v : Int) (hc : w.cell? ⟨b, 0, none⟩ = some (.int .i64 v)) :
    Calls Try.prog 54 #[.slice (some ⟨b, 0, none⟩) 1 1, .int .i64 12] w fun e w' => ∃ nb, e = .returned (.slice (some ⟨nb, 0, none⟩) 12 12) ∧ w.heap.size ≤ nb ∧ w'.heap[nb]? = some (.cells ((tw v 12).map (Value.int .i64)).toArray 2 (0, 0)) ∧ Below w.heap.size w w' := by
  obtain ⟨i0, hi, hz0, hz1, hz2⟩ := info_parts info64A
  have lb := World.block_lt_of_cell? w _ hc
  dsimp only at lb
  go_enter Try.func54, Try.ntmps54
  go_wp2_with fail
  refine (mul_c w).mono ?_
  rintro e w0 ⟨rfl, hw⟩
  have hw := hw.symm
  subst hw
  go_upto_region 7 with (at_make; refine wpList_make_full _ rfl _ _ 109 rfl w.heap.size 2 i0 (.int .i64 0) 1 Try.underlying109 hi hz0 hz1 .i64 .i64 _ _ 12 rfl rfl (by omega) (by omega) (by rw [hz2]; omega) (by unfold maxLen; omega) (Nat.le_refl _) ?_; intro w1 hown hgrow)
  have hr : w1.heap[w.heap.size]? = some (.cells ((tw v 0).map (Value.int .i64)).toArray 2 (0, 0)) := by
    have h9 := made_row hown
    simpa [tw] using h9
  have hb1 : Below w.heap.size w w1 := (Below.refl _ w).grown hgrow (Nat.le_refl _) (fun _ h => by cases h)
  have x1 := (hb1.cell (p := ⟨b, 0, none⟩) lb).trans hc
  clear hown hgrow
  have H1 : Hid (∀ j u, ((List.replicate 1 v).map (Value.int .i64))[j]? = some u → w1.cell? ((⟨b, 0, none⟩ : Addr).add j) = some u) := one_cell x1
  have H2 : Hid (w1.heap[w.heap.size]? = some (.cells ((tw v 0).map (Value.int .i64)).toArray 2 (0, 0))) := hr
  have H3 : Hid (((List.replicate 1 v).map (Value.int .i64)).length = Nat.min 1 12) := rfl
  have H4 : Hid (0 + ((List.replicate 1 v).map (Value.int .i64)).length ≤ ((tw v 0).map (Value.int .i64)).length) := by show _ ≤ _; rw [List.length_map, List.length_map, tw_len v 0 (by omega)]; simp
  clear x1 hr
  go_wp2_with (refine wpList_copy_mv rfl _ _ 109 109 2 rfl Try.underlying109 size64 (some ⟨w.heap.size, 0, none⟩) (some ⟨b, 0, none⟩) 12 12 1 1 rfl rfl w.heap.size 0 ((tw v 0).map (Value.int .i64)) 2 H2.out ((List.replicate 1 v).map (Value.int .i64)) H3.out (fun _ => ⟨rfl, _, rfl, H1.out⟩) H4.out (ints_one _) ?_; intro w2 hmv)
  obtain ⟨hr2, hb2⟩ := mv_tw (B := w.heap.size) hmv H2.out (by omega) (by omega) (Nat.le_refl _)
  have hb12 := hb1.trans hb2
  clear hmv H1 H2 H3 H4 hb1 hb2
  go_loopw [8] (fun nv wr => ∃ n : Nat, 1 ≤ n ∧ n ≤ 12 ∧ nv = .int .i64 n ∧ Hid (wr.heap[w.heap.size]? = some (.cells ((tw v n).map (Value.int .i64)).toArray 2 (0, 0))) ∧ Below w.heap.size w wr) (fun nv _ => 12 - (intOf nv).toNat)
  case atStart => exact ⟨1, Nat.le_refl _, by omega, rfl, hr2, hb12⟩
  case round =>
    clear hr2 hb12
    obtain ⟨n, n1, n2, rfl, HR, hb⟩ := hrel
    by_cases hlt : n < 12
    · obtain ⟨m, hm, hm1, hm2, hm3⟩ : ∃ m, m = Nat.min n (12 - n) ∧ 0 < m ∧ n + m ≤ 12 ∧ m ≤ n := ⟨_, rfl, by simp only [Nat.min_def]; split <;> omega, by simp only [Nat.min_def]; split <;> omega, by simp only [Nat.min_def]; split <;> omega⟩
      have HRd : Hid (wr.drew.heap[w.heap.size]? = some (.cells ((tw v n).map (Value.int .i64)).toArray 2 (0, 0))) := HR.out
      have H1 : Hid (∀ j u, ((List.replicate m v).map (Value.int .i64))[j]? = some u → wr.drew.cell? ((⟨w.heap.size, 0, none⟩ : Addr).add j) = some u) := tw_cell HRd.out n2 m hm3
      have H3 : Hid (((List.replicate m v).map (Value.int .i64)).length = Nat.min n (12 - n)) := by show _ = _; rw [← hm]; simp
      have H4 : Hid (n + ((List.replicate m v).map (Value.int .i64)).length ≤ ((tw v n).map (Value.int .i64)).length) := by show _ ≤ _; rw [List.length_map, List.length_map, tw_len v n n2]; simpa using hm2
      have hne : ¬ 12 = n := by omega
      have i0 : (0 : Int) ≤ (n : Int) := by omega
      have i1 : (n : Int) ≤ 12 := by omega
      have i2 : (n : Int) < 12 := by omega
      clear HR
      go_wp2_with fail
      go_region_law (refine step_copy_mv rfl (.tmp 41) (.tmp 44) 109 109 2 rfl Try.underlying109 size64 (some ⟨w.heap.size, n, none⟩) (some ⟨w.heap.size, 0, none⟩) (12 - n) (12 - n) n 12 ?_ ?_ w.heap.size n ((tw v n).map (Value.int .i64)) 2 HRd.out ((List.replicate m v).map (Value.int .i64)) H3.out (fun _ => ⟨rfl, _, rfl, H1.out⟩) H4.out (ints_one _) ?_; (simp [Act.eval, Act.put]); (simp [Act.eval, Act.put]); intro w3 hmv3)
      obtain ⟨hr3, hb3⟩ := mv_tw (B := w.heap.size) hmv3 HRd.out hm1 hm2 (Nat.le_refl _)
      have HR3 : Hid (w3.heap[w.heap.size]? = some (.cells ((tw v (n + m)).map (Value.int .i64)).toArray 2 (0, 0))) := hr3
      have hb13 := hb.drew.trans hb3
      have hw : IntKind.i64.wrap ((n : Int) + (m : Int)) = ((n + m : Nat) : Int) := by rw [IntKind.wrap_i64]; omega
      clear hr3 hb3 hmv3 HRd H1 H3 H4 hb
      simp [Act.put, go_sem, Exit.inBlock]
      rw [← hm, hw]
      refine ⟨⟨_, _, _, _, _, _, _, _, _, _, _, _, _, _, ?rel, rfl⟩, ?measure⟩
      case rel => exact ⟨n + m, by omega, hm2, rfl, HR3, hb13⟩
      case measure => simp [intOf]; omega
    · obtain rfl : n = 12 := by omega
      have HR2 := HR.out
      go_wp2_with fail
      go_ret
      exact ⟨w.heap.size, rfl, Nat.le_refl _, HR2, hb⟩

end Go.Proofs.Ytjhnhbeimjnloaa
