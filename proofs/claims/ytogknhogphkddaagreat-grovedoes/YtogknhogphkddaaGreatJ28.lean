/- Joined: Wq9, Wq5, Gi1. -/
import Derived.Test.YtogknhogphkddaaGreatJ27
import Derived.Test.YtogknhogphkddaaGreatJ22
import Derived.Test.YtogknhogphkddaaGreatJ14
import Derived.Test.YtogknhogphkddaaGreatJ24
import Derived.Test.YtogknhogphkddaaGreatJ16
/- The document's world: Do, whatever the step: a guardian gives what waits: a contract. -/
namespace Go.Proofs.YtogknhogphkddaaGreat
open Go.RowKit W Kp Stl

section
variable {rp rb : Nat} {most grow : Int} {F : Nat → Prop} {s : Wrs} {w : World}

theorem wr_wait (h : (wrO rp rb most grow).J F s w) : ∃ v3, w.cell? ⟨rp, 3, none⟩ = some v3 ∧ w.ownsRow 0 71 2 v3 s.wt.length (ev s.wt) ∧ (∀ b, some b = v3.ownBlock → b ≠ rp ∧ b ≠ rb) ∧
    ∀ (l : List En) (v1 : Value) (w1 : World), Below w.heap.size w w1 → w1.ownsRow w.heap.size 71 2 v1 l.length (ev l) →
      (wrO rp rb most grow).J (fun b => F b ∨ some b = v1.ownBlock) { s with wt := l } (w1.setCell ⟨rp, 3, none⟩ v1) ∧ Tn F w (fun b => F b ∨ some b = v1.ownBlock) (w1.setCell ⟨rp, 3, none⟩ v1) := by
  obtain ⟨own, m, vT, v2, v3, h, hF⟩ := h
  have h1 := h.blk
  refine ⟨v3, by simp [World.cell?, h1], h.g3, fun b e => ⟨fun c => ?_, fun c => ?_⟩, fun l v1 w1 f1 ho => ?_⟩
  · have := h.g3o b e
    rw [c, h.b1] at this
    omega
  · have := h.g3o b e
    rw [c, h.r1] at this
    omega
  have hnw : ∀ b, some b = v1.ownBlock → own b = 0 := fun b e => Classical.byContradiction (fun c => by
    have q1 := h.lt b c
    have q2 := (row_lt ho b e).1
    omega)
  have e1 : ∀ b j, own b = j → j ≠ 0 → (if some b = v1.ownBlock then 6 else own b) = j := fun b j e h0 => by
    rw [if_neg (fun c => by have := hnw b c; omega)]
    exact e
  have sz : (w1.setCell ⟨rp, 3, none⟩ v1).heap.size = w1.heap.size := by simp [World.setCell]
  have hk : ∀ b, b < w.heap.size → own b ≠ 1 → (w1.setCell ⟨rp, 3, none⟩ v1).heap[b]? = w.heap[b]? := fun b hb h1' => (Below.heap_setCell _ _ _ _ (fun e => h1' (by have e : b = rp := e; rw [e]; exact h.b1))).trans (f1.block b hb)
  have hrp : ¬ some rp = v1.ownBlock := fun e => by have := hnw rp e; rw [h.b1] at this; omega
  refine ⟨⟨fun b => if some b = v1.ownBlock then 6 else own b, m, vT, v2, v1, ?_, fun b => ?_⟩, ⟨?_, fun b e => e.imp_right (fun e => (row_lt ho b e).1)⟩⟩
  · exact { blk := by
              have hq := (f1.block rp (lt_of_some h1)).trans h1
              simp only [World.setCell, Array.getElem?_modify, if_true, hq, Option.map_some]
              simp
            b1 := e1 _ _ h.b1 (by decide)
            row := row_keep h.row (fun b e => hk b (row_lt h.row b e).2 (by rw [h.ro b e]; decide))
            ro := fun b e => e1 _ _ (h.ro b e) (by decide)
            nd := h.nd
            fl := fun y hy => by
              refine ⟨(h.fl y hy).1.at (by rw [sz]; exact f1.size) (fun b o hp e => ?_), fun hp => ?_⟩
              · obtain ⟨b', o', e', ho'⟩ := (h.fl y hy).2 hp
                rw [e] at e'
                cases e'
                exact hk _ (h.lt _ (by rw [ho']; decide)) (by rw [ho']; decide)
              · obtain ⟨b', o', e', ho'⟩ := (h.fl y hy).2 hp
                exact ⟨b', o', e', e1 _ _ ho' (by decide)⟩
            rt := (hk _ (lt_of_some h.rt) (by rw [h.r1]; decide)).trans h.rt
            rl := h.rl
            r1 := e1 _ _ h.r1 (by decide)
            g2 := row_keep h.g2 (fun b e => hk b (row_lt h.g2 b e).2 (by rw [h.g2o b e]; decide)), g2o := fun b e => e1 _ _ (h.g2o b e) (by decide)
            g3 := row_base (row_keep ho (fun b e => Below.heap_setCell _ _ _ _ (fun e' => hrp (by have e' : b = rp := e'; rw [← e']; exact e)))) (fun _ _ => Nat.zero_le _)
            g3o := fun b e => by rw [if_pos e]
            lt := fun b hb => by
              rw [sz]
              by_cases c1 : some b = v1.ownBlock
              · exact (row_lt ho b c1).2
              · rw [if_neg c1] at hb
                exact Nat.lt_of_lt_of_le (h.lt b hb) f1.size }
  · by_cases c1 : some b = v1.ownBlock
    · simp [c1]
    · simp [c1, hF b]
  · exact (Fr.of f1).set rp 3 _ ((hF rp).2 (by rw [h.b1]; decide))

set_option maxRecDepth 100000 in
set_option maxHeartbeats 8000000 in
theorem doQ_pop (h : (wrO rp rb most grow).J F s w) (R A : Nat) (hR : R < 12) (hA : A < 12) (B I n : Int) (hP : SFk 10 R A B I n) (hth : 0 ≤ s.th A → s.th A < s.T.length) (hwt : s.wt.length ≤ 10000) :
    Calls Tryz.prog 9 #[.pointer (some ⟨rp, 0, none⟩), stpV 10 R A B I n] w fun e w' => ∃ F', e = .returned (.int .i64 (if s.gd A < 0 then 2 else if (pqI (s.gd A) s.wt) < s.wt.length then 0 else 4)) ∧ (wrO rp rb most grow).J F' (if s.gd A < 0 then s else if (pqI (s.gd A) s.wt) < s.wt.length then { s with rs := s.rs.set R (3, (s.wt.getD (pqI (s.gd A) s.wt) (0, 0)).2), wt := s.wt.take (pqI (s.gd A) s.wt) ++ s.wt.drop ((pqI (s.gd A) s.wt) + 1) } else s) w' ∧ Tn F w F' w' := by
  have PG : Hid (∀ w', (wrO rp rb most grow).J F s w' → Calls Tryz.prog 28 #[.pointer (some ⟨rp, 0, none⟩), .int .i64 A] w' fun e w'' => e = .returned (.int .i64 (s.gd A)) ∧ w'' = w') := fun w' hh => guardW_any hh A hA hth
  obtain ⟨z, HZ⟩ : ∃ z : Int, Hid ((if s.gd A < 0 then 2 else if (pqI (s.gd A) s.wt) < s.wt.length then 0 else 4) = z) := ⟨_, rfl⟩
  obtain ⟨sz, HSZ⟩ : ∃ sz : Wrs, Hid ((if s.gd A < 0 then s else if (pqI (s.gd A) s.wt) < s.wt.length then { s with rs := s.rs.set R (3, (s.wt.getD (pqI (s.gd A) s.wt) (0, 0)).2), wt := s.wt.take (pqI (s.gd A) s.wt) ++ s.wt.drop ((pqI (s.gd A) s.wt) + 1) } else s) = sz) := ⟨_, rfl⟩
  rw [HZ.out, HSZ.out]
  clear hth
  generalize s.gd A = g at *
  obtain ⟨i0, hi0, hz0, hz1, hz2⟩ := info_parts infoREq
  have hb0 := (Below.refl w.heap.size w).alloc (Nat.le_refl _) (stpC 10 R A B I n)
  have P := hP (w.alloc (stpC 10 R A B I n))
  have HJ : Hid ((wrO rp rb most grow).J F s w ∧ Below w.heap.size w (w.alloc (stpC 10 R A B I n))) := ⟨h, hb0⟩
  clear h hb0 hP
  go_enter Tryz.func9, Tryz.ntmps9
  go_wp2_with fail
  refine P.mono ?_
  clear P
  rintro e w1 ⟨rfl, hb1⟩
  have hb := HJ.out.2.trans (hb1.mono (by simp))
  have hJ1 := (wrO rp rb most grow).below HJ.out.1 hb
  have hx : w1.heap[w.heap.size]? = some (stpC 10 R A B I n) := (hb1.block _ (by simp)).trans (heap_alloc_new _ _)
  obtain ⟨q0, q1, q2, q3, q4, q5⟩ := hs_cells hx
  obtain ⟨c1, _, _, lrp, lrb, cz, hrl, cr⟩ := wr_cells hJ1
  obtain ⟨x0, x1, y0, y1⟩ := cr R hR
  obtain ⟨nrb, hFb, hFp⟩ := wr_ne hJ1
  have lb := (wrO rp rb most grow).lt HJ.out.1 rb hFb
  have lp := (wrO rp rb most grow).lt HJ.out.1 rp hFp
  have nx1 : rb ≠ w.heap.size := by omega
  have nx2 : rp ≠ w.heap.size := by omega
  have HJ1 : Hid ((wrO rp rb most grow).J F s w1 ∧ Tn F w F w1) := ⟨hJ1, Tn.of hb⟩
  have r0 : (0 : Int) ≤ (R : Int) := by omega
  have r1 : (R : Int) < 12 := by omega
  have lxx : w.heap.size < w1.heap.size := lt_of_some hx
  obtain ⟨v3, d3, hr3, nb3, _⟩ := wr_wait hJ1
  obtain ⟨a3, k3, e3⟩ := row_slice hr3
  subst e3
  have PG1 := PG.out w1 hJ1
  have HLI : Hid (Li w1 a3 s.wt k3 ∧ ∀ b, some b = (Value.slice a3 s.wt.length k3).ownBlock → b ≠ rp ∧ b ≠ rb) := ⟨row_li hr3, nb3⟩
  clear hJ1 hb hb1 hx cr cz HJ PG hr3 nb3
  go_wp2_with fail
  refine PG1.mono ?_
  clear PG1
  rintro e w2 ⟨rfl, hw2⟩
  have hw2 := hw2.symm
  subst hw2
  by_cases ha : g < 0
  · have E1 : Hid (2 = z) := by have := HZ.out; rwa [if_pos ha] at this
    have E2 : Hid (s = sz) := by have := HSZ.out; rwa [if_pos ha] at this
    go_wp2_with fail
    go_ret
    rw [← E1.out, ← E2.out]
    exact ⟨F, rfl, HJ1.out.1, HJ1.out.2⟩
  rw [if_neg ha] at HZ HSZ
  have hnl : s.wt.length ≤ k3 := HLI.out.1.le
  go_wp2_with fail
  go_loopw [10] (fun iv wr => ∃ j : Nat, j ≤ s.wt.length ∧ iv = .int .i64 j ∧ w1 = wr ∧ Hid (∀ e ∈ s.wt.take j, ¬ e.1 = g)) (fun iv _ => s.wt.length - (intOf iv).toNat)
  case atStart => exact ⟨0, Nat.zero_le _, rfl, rfl, fun e he => by simp at he⟩
  case round =>
    obtain ⟨j, hj, rfl, hw, HN⟩ := hrel
    subst hw
    by_cases hlt : j < s.wt.length
    · obtain ⟨b3, o3, e3, lb3, hc3⟩ := HLI.out.1.lp (by omega)
      obtain rfl : o3 = 0 := by
        obtain ⟨v9, d9, hr9, _⟩ := wr_wait HJ1.out.1
        rw [d3] at d9
        cases d9
        obtain ⟨b9, c9, e9⟩ := row_shape hr9 (by omega)
        rw [e3] at e9
        simp at e9
        exact e9.1.2
      subst e3
      have hnb : rb ≠ b3 := (HLI.out.2 b3 rfl).2.symm
      obtain ⟨y0, y1⟩ := hc3 j hlt
      rw [Nat.zero_add] at y0 y1
      have k0 : (0 : Int) ≤ (j : Int) := by omega
      have k1 : (j : Int) < (s.wt.length : Int) := by omega
      have HG : Hid (s.wt.getD j (0, 0) = s.wt.getD j (0, 0)) := rfl
      obtain ⟨p0, p1, hp⟩ : ∃ p0 p1, s.wt.getD j (0, 0) = (p0, p1) := ⟨_, _, rfl⟩
      have HPJ : Hid (s.wt.getD j (0, 0) = (p0, p1)) := hp
      rw [hp] at y0 y1
      dsimp only at y0 y1
      clear hc3 hp HG
      by_cases he : p0 = g
      · subst he
        have E1 : Hid (0 = z) := by
          have hq := pqI_of hlt (by rw [HPJ.out]) HN.out
          have := HZ.out
          rwa [hq, if_pos hlt] at this
        have E2 : Hid ({ s with rs := s.rs.set R (3, p1), wt := s.wt.take j ++ s.wt.drop (j + 1) } = sz) := by
          have hq := pqI_of hlt (by rw [HPJ.out]) HN.out
          have := HSZ.out
          rwa [hq, if_pos hlt, HPJ.out] at this
        clear HN HPJ HLI HZ HSZ
        go_wp2_with fail
        go_region_held3 (fun w' => w'.cell? ⟨rp, 1, none⟩ = some (.slice (some ⟨rb, 0, none⟩) 12 12) ∧ w'.cell? ⟨w.heap.size, 1, none⟩ = some (.int .i64 R) ∧ w'.cell? ⟨rp, 3, none⟩ = some (.slice (some ⟨b3, 0, none⟩) s.wt.length k3) ∧ w'.cell? ⟨b3, j * 2 + 1, none⟩ = some (.int .i64 p1)) (go_keep) (fail)
        obtain ⟨hJ2, hT2⟩ := wr_root HJ1.out.1 R (3, p1)
        dsimp only at hJ2 hT2
        have hJ3 := (wrO rp rb most grow).below hJ2 (Below.refl _ _).drew
        have HT3 : Hid (Tn F w F _) := (HJ1.out.2.trans hT2).below (Below.refl _ _).drew
        clear hJ2 hT2 HJ1 d3
        generalize ((w1.setCell ⟨rb, R * 2, none⟩ (.int .i64 3)).setCell ⟨rb, R * 2 + 1, none⟩ (.int .i64 p1)).drew = w3 at *
        have lp3 := (wr_cells hJ3).2.2.2.1
        have f3 := (wr_cells hJ3).2.2.2.2.2.1 3
        have hH : w3.cell? ⟨rp, 1, none⟩ = some (.slice (some ⟨rb, 0, none⟩) 12 12) ∧ w3.cell? ⟨w.heap.size, 1, none⟩ = some (.int .i64 R) ∧ w3.cell? ⟨rp, 3, none⟩ = some (.slice (some ⟨b3, 0, none⟩) s.wt.length k3) ∧ w3.cell? ⟨b3, j * 2 + 1, none⟩ = some (.int .i64 p1) := by assumption
        have hd := hH.2.2.1
        clear hH
        obtain ⟨v3, d3, hr3, _, hup⟩ := wr_wait hJ3
        rw [hd] at d3
        cases d3
        have hLi := row_li hr3
        have hle : s.wt.length ≤ k3 := hLi.le
        have hmx : k3 ≤ maxLen := by
          rcases hr3.2 with ⟨_, h0⟩ | ⟨g, cap', cur, hv, _, _, _, hc, _⟩
          · have h0 : s.wt.length = 0 := h0
            omega
          · simp at hv
            omega
        unfold maxLen at hmx
        have HUP : Hid (∀ (l : List En) (v1 : Value) (w9 : World), Below w3.heap.size w3 w9 → w9.ownsRow w3.heap.size 71 2 v1 l.length (ev l) → (wrO rp rb most grow).J (fun b => F b ∨ some b = v1.ownBlock) { s with rs := s.rs.set R (3, p1), wt := l } (w9.setCell ⟨rp, 3, none⟩ v1) ∧ Tn F w3 (fun b => F b ∨ some b = v1.ownBlock) (w9.setCell ⟨rp, 3, none⟩ v1)) := hup
        have HP : Hid (Lp w3 (some ⟨b3, 0, none⟩) s.wt) := hLi.lp
        have HT1 : Hid ((ev (s.wt.take j)).length = j * 2) := by
          show _ = _
          rw [ev_length, List.length_take, Nat.min_eq_left (by omega)]
        have HT2 : Hid ((ev (s.wt.drop (j + 1))).length = (s.wt.length - (j + 1)) * 2) := by
          show _ = _
          rw [ev_length, List.length_drop]
        have d3 := hd
        clear hd hnb y0 y1 c1 q0 q1 q2 q3 q4 q5 x0 x1
        have i8 : j ≤ k3 := by omega
        have i9 : j + 1 ≤ s.wt.length := by omega
        have i2 : (j : Int) ≤ (k3 : Int) := by omega
        have i3 : IntKind.i64.wrap ((j : Int) + 1) = (j : Int) + 1 := by rw [IntKind.wrap_i64]; omega
        have i4 : (0 : Int) ≤ (j : Int) + 1 := by omega
        have i5 : (j : Int) + 1 ≤ (s.wt.length : Int) := by omega
        have i6 : ((j : Int) + 1).toNat = j + 1 := by omega
        have i7 : (j : Int).toNat = j := by omega
        clear hup hr3 hJ3 hLi
        by_cases hk : j + 1 = k3
        · subst hk
          have hz : s.wt.length - (j + 1) = 0 := by omega
          have i2b : (j : Int) ≤ (j : Int) + 1 := by omega
          rw [hz] at HT2
          have hL2 : ∀ w9, Lp w9 (some ⟨b3, 0, none⟩) (s.wt.drop (j + 1)) := fun _ h => by rw [List.length_drop] at h; omega
          go_wp2_with fail
          go_region_law (first
            | (have hx := hgrow4; refine step_append_src _ rfl (.tmp 214) (.tmp 221) 58 rfl w3.heap.size 71 i0 (.agg #[.int .i64 0, .int .i64 0]) 2 16 Tryz.underlying58 hi0 hz0 hz1 hz2 rfl (by decide) (.slice a4 j c4) j (ev (s.wt.take j)) (by first | (simp [Act.eval]; done) | (simp [Act.eval, Act.put]; done) | (simp [Act.eval, go_sem]; done)) hown4 (some ⟨b3, 0, none⟩) 0 0 (ev (s.wt.drop (j + 1))) (by first | (simp [Act.eval]; done) | (simp [Act.eval, Act.put]; done) | (simp [Act.eval, go_sem]; done)) HT2.out (fun e => by cases e) (hL2 w4).cells (ev_one _) (by unfold maxLen; omega) (by omega) b4.size ?_; intro a5 c5 w5 hown5 hgrow5 _; have b5 : Below w3.heap.size w3 w5 := b4.grown hgrow5 b4.size (fun k e => (row_lt hown4 k e.symm).1); have z5 := (b5.cell (p := ⟨rp, 3, none⟩) lp3).trans d3; have f5 := (b5.frozen (p := ⟨rp, 3, none⟩) lp3).trans f3)
            | (refine step_append_src _ rfl (.tmp 207) (.tmp 213) 58 rfl w3.heap.size 71 i0 (.agg #[.int .i64 0, .int .i64 0]) 2 16 Tryz.underlying58 hi0 hz0 hz1 hz2 rfl (by decide) (.slice none 0 0) 0 [] (by first | (simp [Act.eval]; done) | (simp [Act.eval, Act.put]; done) | (simp [Act.eval, go_sem]; done)) (World.ownsRow_nil _ _ _ _) (some ⟨b3, 0, none⟩) j (j + 1) (ev (s.wt.take j)) (by first | (simp [Act.eval]; done) | (simp [Act.eval, Act.put]; done) | (simp [Act.eval, go_sem]; done)) HT1.out (fun e => by cases e) ((HP.out.take j).below (Below.refl w3.heap.size w3).drew).cells (ev_one _) (by unfold maxLen; omega) (by omega) (Nat.le_refl _) ?_; intro a4 c4 w4 hown4 hgrow4 _; rw [Nat.zero_add, List.nil_append] at hown4; have b4 : Below w3.heap.size w3 w4 := ((Below.refl w3.heap.size w3).drew).grown hgrow4 (Nat.le_refl _) (fun k e => by simp [Value.ownBlock] at e); have z3 := (b4.cell (p := ⟨rp, 3, none⟩) lp3).trans d3))
          all_goals
            have hl : (s.wt.take j ++ s.wt.drop (j + 1)).length = j + 0 := by rw [List.length_append, List.length_take, List.length_drop]; omega
            have HE : Hid (_ ∧ _) := HUP.out (s.wt.take j ++ s.wt.drop (j + 1)) (.slice a5 (j + 0) c5) w5 b5 (by rw [hl, ev_append]; exact hown5)
            clear hown4 hown5 hgrow4 hgrow5 b4 b5 hl
            go_wp2_with fail
            go_ret
            rw [← E1.out, ← E2.out]
            exact ⟨_, rfl, HE.out.1, HT3.out.trans HE.out.2⟩
        · have hk2 : ¬ k3 = j + 1 := fun e => hk e.symm
          have HL2 : Hid (Lp w3 (some ⟨b3, (j + 1) * 2, none⟩) (s.wt.drop (j + 1))) := by
            have := HP.out.drop (j + 1)
            rwa [Nat.zero_add] at this
          go_wp2_with fail
          go_region_law (first
            | (have hx := hgrow4; refine step_append_src _ rfl (.tmp 214) (.tmp 221) 58 rfl w3.heap.size 71 i0 (.agg #[.int .i64 0, .int .i64 0]) 2 16 Tryz.underlying58 hi0 hz0 hz1 hz2 rfl (by decide) (.slice a4 j c4) j (ev (s.wt.take j)) (by first | (simp [Act.eval]; done) | (simp [Act.eval, Act.put]; done) | (simp [Act.eval, go_sem]; done)) hown4 (some ⟨b3, (j + 1) * 2, none⟩) (s.wt.length - (j + 1)) (k3 - (j + 1)) (ev (s.wt.drop (j + 1))) (by first | (simp [Act.eval]; done) | (simp [Act.eval, Act.put]; done) | (simp [Act.eval, go_sem]; done)) HT2.out (fun e => by cases e) (HL2.out.below b4).cells (ev_one _) (by unfold maxLen; omega) (by omega) b4.size ?_; intro a5 c5 w5 hown5 hgrow5 _; have b5 : Below w3.heap.size w3 w5 := b4.grown hgrow5 b4.size (fun k e => (row_lt hown4 k e.symm).1); have z5 := (b5.cell (p := ⟨rp, 3, none⟩) lp3).trans d3; have f5 := (b5.frozen (p := ⟨rp, 3, none⟩) lp3).trans f3)
            | (refine step_append_src _ rfl (.tmp 207) (.tmp 213) 58 rfl w3.heap.size 71 i0 (.agg #[.int .i64 0, .int .i64 0]) 2 16 Tryz.underlying58 hi0 hz0 hz1 hz2 rfl (by decide) (.slice none 0 0) 0 [] (by first | (simp [Act.eval]; done) | (simp [Act.eval, Act.put]; done) | (simp [Act.eval, go_sem]; done)) (World.ownsRow_nil _ _ _ _) (some ⟨b3, 0, none⟩) j k3 (ev (s.wt.take j)) (by first | (simp [Act.eval]; done) | (simp [Act.eval, Act.put]; done) | (simp [Act.eval, go_sem]; done)) HT1.out (fun e => by cases e) ((HP.out.take j).below (Below.refl w3.heap.size w3).drew).cells (ev_one _) (by unfold maxLen; omega) (by omega) (Nat.le_refl _) ?_; intro a4 c4 w4 hown4 hgrow4 _; rw [Nat.zero_add, List.nil_append] at hown4; have b4 : Below w3.heap.size w3 w4 := ((Below.refl w3.heap.size w3).drew).grown hgrow4 (Nat.le_refl _) (fun k e => by simp [Value.ownBlock] at e); have z3 := (b4.cell (p := ⟨rp, 3, none⟩) lp3).trans d3))
          all_goals
            have hl : (s.wt.take j ++ s.wt.drop (j + 1)).length = j + (s.wt.length - (j + 1)) := by rw [List.length_append, List.length_take, List.length_drop]; omega
            have HE : Hid (_ ∧ _) := HUP.out (s.wt.take j ++ s.wt.drop (j + 1)) (.slice a5 (j + (s.wt.length - (j + 1))) c5) w5 b5 (by rw [hl, ev_append]; exact hown5)
            clear hown4 hown5 hgrow4 hgrow5 b4 b5 hl
            go_wp2_with fail
            go_ret
            rw [← E1.out, ← E2.out]
            exact ⟨_, rfl, HE.out.1, HT3.out.trans HE.out.2⟩
      · have hne : (p0 == g) = false := by simpa using he
        have HN2 : Hid (∀ e ∈ s.wt.take (j + 1), ¬ e.1 = g) := fun e he2 => by
          rw [take_snoc s.wt j hlt (0, 0), List.mem_append, List.mem_singleton] at he2
          rcases he2 with he2 | he2
          · exact HN.out e he2
          · rw [he2, HPJ.out]
            exact he
        clear he
        go_wp2_with fail
        go_roundw
        case rel => exact ⟨j + 1, by omega, by go_num, trivial, HN2⟩
        case measure => simp [intOf]; omega
    · obtain rfl : j = s.wt.length := by omega
      have hp : ¬ pqI g s.wt < s.wt.length := by
        unfold pqI
        rw [List.findIdx_lt_length]
        rintro ⟨x, hx, hx2⟩
        have := HN.out
        rw [List.take_length] at this
        exact this x hx (by simpa using hx2)
      have E1 : Hid (4 = z) := by have := HZ.out; rwa [if_neg hp] at this
      have E2 : Hid (s = sz) := by have := HSZ.out; rwa [if_neg hp] at this
      clear hp
      go_wp2_with fail
      go_ret
      rw [← E1.out, ← E2.out]
      exact ⟨F, rfl, HJ1.out.1, HJ1.out.2⟩
end

end Go.Proofs.YtogknhogphkddaaGreat

/- The document's world: Do, whatever the step: how many fields, whether two roots are the same: contracts. -/
namespace Go.Proofs.YtogknhogphkddaaGreat
open Go.RowKit W Kp Stl

set_option maxRecDepth 100000 in
set_option maxHeartbeats 1000000 in
theorem numQ_any (n : Int) (w : World) : Calls Tryz.prog 25 #[.int .i64 n] w fun e w' => e = .returned (.agg #[.int .i64 1, .int .i64 n]) ∧ Below w.heap.size w w' := by
  have hb := (Below.refl w.heap.size w).alloc (Nat.le_refl _) (.cells #[.int .i64 1, .int .i64 n] 54)
  have hg := heap_alloc_new w (.cells #[.int .i64 1, .int .i64 n] 54)
  go_enter Tryz.func25, Tryz.ntmps25
  go_wp2_with fail
  have g0 : (w.alloc (.cells #[.int .i64 1, .int .i64 n] 54)).cell? ⟨w.heap.size, 0, none⟩ = some (.int .i64 1) := by
    unfold World.cell?
    rw [hg]
    rfl
  have g1 : (w.alloc (.cells #[.int .i64 1, .int .i64 n] 54)).cell? ⟨w.heap.size, 1, none⟩ = some (.int .i64 n) := by
    unfold World.cell?
    rw [hg]
    rfl
  exact bodyPost_ret (v := .agg #[.int .i64 1, .int .i64 n]) (by simp [results, Tryz.results25, go_sem, g0, g1]) rfl ⟨rfl, hb⟩

section
variable {rp rb : Nat} {most grow : Int} {F : Nat → Prop} {s : Wrs} {w : World}

set_option maxRecDepth 100000 in
set_option maxHeartbeats 2000000 in
theorem doQ_len (h : (wrO rp rb most grow).J F s w) (R A : Nat) (hR : R < 12) (hA : A < 12) (B I n : Int) (hP : SFk 13 R A B I n) (hth : 0 ≤ s.th A → s.th A < s.T.length) (hT : ∀ t ∈ s.T, t.2.1.length ≤ 12) :
    Calls Tryz.prog 9 #[.pointer (some ⟨rp, 0, none⟩), stpV 13 R A B I n] w fun e w' => e = .returned (.int .i64 (if s.th A < 0 ∨ (s.T.getD (s.th A).toNat (0, [], false, false)).1 = 5 then 2 else 0)) ∧ (wrO rp rb most grow).J F (if s.th A < 0 ∨ (s.T.getD (s.th A).toNat (0, [], false, false)).1 = 5 then s else { s with rs := s.rs.set R (1, ((s.T.getD (s.th A).toNat (0, [], false, false)).2.1.length : Int)) }) w' ∧ Tn F w F w' := by
  have PT : Hid (∀ w', (wrO rp rb most grow).J F s w' → Calls Tryz.prog 27 #[.pointer (some ⟨rp, 0, none⟩), .int .i64 A] w' fun e w'' => e = .returned (.int .i64 (s.th A)) ∧ w'' = w') := fun w' hh => thingW_any hh A hA
  obtain ⟨z, HZ⟩ : ∃ z : Int, Hid ((if s.th A < 0 ∨ (s.T.getD (s.th A).toNat (0, [], false, false)).1 = 5 then 2 else 0) = z) := ⟨_, rfl⟩
  obtain ⟨sz, HSZ⟩ : ∃ sz : Wrs, Hid ((if s.th A < 0 ∨ (s.T.getD (s.th A).toNat (0, [], false, false)).1 = 5 then s else { s with rs := s.rs.set R (1, ((s.T.getD (s.th A).toNat (0, [], false, false)).2.1.length : Int)) }) = sz) := ⟨_, rfl⟩
  rw [HZ.out, HSZ.out]
  generalize s.th A = a at *
  have hb0 := (Below.refl w.heap.size w).alloc (Nat.le_refl _) (stpC 13 R A B I n)
  have P := hP (w.alloc (stpC 13 R A B I n))
  have HJ : Hid ((wrO rp rb most grow).J F s w ∧ Below w.heap.size w (w.alloc (stpC 13 R A B I n))) := ⟨h, hb0⟩
  clear h hb0 hP
  go_enter Tryz.func9, Tryz.ntmps9
  go_wp2_with fail
  refine P.mono ?_
  clear P
  rintro e w1 ⟨rfl, hb1⟩
  have hb := HJ.out.2.trans (hb1.mono (by simp))
  have hJ1 := (wrO rp rb most grow).below HJ.out.1 hb
  have hx : w1.heap[w.heap.size]? = some (stpC 13 R A B I n) := (hb1.block _ (by simp)).trans (heap_alloc_new _ _)
  obtain ⟨q0, q1, q2, q3, q4, q5⟩ := hs_cells hx
  obtain ⟨c1, _, _, lrp, lrb, cz, hrl, cr⟩ := wr_cells hJ1
  obtain ⟨x0, x1, y0, y1⟩ := cr R hR
  obtain ⟨nrb, hFb, hFp⟩ := wr_ne hJ1
  have lb := (wrO rp rb most grow).lt HJ.out.1 rb hFb
  have lp := (wrO rp rb most grow).lt HJ.out.1 rp hFp
  have nx1 : rb ≠ w.heap.size := by omega
  have nx2 : rp ≠ w.heap.size := by omega
  have HJ1 : Hid ((wrO rp rb most grow).J F s w1 ∧ Tn F w F w1) := ⟨hJ1, Tn.of hb⟩
  have r0 : (0 : Int) ≤ (R : Int) := by omega
  have r1 : (R : Int) < 12 := by omega
  obtain ⟨aT, cT, t0, tne, tx⟩ := wr_things hJ1
  have Q := PT.out w1 hJ1
  have lxx : w.heap.size < w1.heap.size := lt_of_some hx
  clear hJ1 hb hb1 hx cr cz HJ PT
  go_wp2_with fail
  refine Q.mono ?_
  clear Q
  rintro e w2 ⟨rfl, hw2⟩
  have hw2 := hw2.symm
  subst hw2
  by_cases ha : a < 0
  · have E1 : Hid (2 = z) := by have := HZ.out; rwa [if_pos (Or.inl ha)] at this
    have E2 : Hid (s = sz) := by have := HSZ.out; rwa [if_pos (Or.inl ha)] at this
    clear tx
    go_wp2_with fail
    go_ret
    rw [← E1.out, ← E2.out]
    exact ⟨rfl, HJ1.out.1, HJ1.out.2⟩
  · obtain ⟨j, rfl⟩ : ∃ j : Nat, a = j := ⟨a.toNat, by omega⟩
    have hlt : j < s.T.length := by have := hth (by omega); omega
    obtain ⟨t, ht⟩ : ∃ t, s.T[j]? = some t := ⟨_, List.getElem?_eq_getElem hlt⟩
    obtain ⟨b, ad, cp, rfl, u0, u1, _, _, hLp, hfn⟩ := tx j t ht
    have ht12 := hT t (List.mem_of_getElem? ht)
    have eT : s.T.getD (j : Int).toNat (0, [], false, false) = t := by rw [Int.toNat_natCast, List.getD_eq_getElem?_getD, ht]; rfl
    rw [eT] at HZ HSZ
    have jn : decide ((j : Int) < 0) = false := by simp
    have jn2 : ¬ (j : Int) < 0 := by omega
    have j0 : (0 : Int) ≤ (j : Int) := by omega
    have j1 : (j : Int) < (s.T.length : Int) := by omega
    clear tx ht eT hth hT hLp hfn
    obtain ⟨kd, fs, od, dd⟩ := t
    dsimp only at u0 u1 ht12 HZ HSZ
    by_cases hk : kd = 5
    · subst hk
      have E1 : Hid (2 = z) := by have := HZ.out; rwa [if_pos (Or.inr rfl)] at this
      have E2 : Hid (s = sz) := by have := HSZ.out; rwa [if_pos (Or.inr rfl)] at this
      go_wp2_with fail
      go_ret
      rw [← E1.out, ← E2.out]
      exact ⟨rfl, HJ1.out.1, HJ1.out.2⟩
    · have hkb : (kd == 5) = false := by simpa using hk
      have E1 : Hid (0 = z) := by have := HZ.out; rwa [if_neg (by omega)] at this
      have E2 : Hid ({ s with rs := s.rs.set R (1, (fs.length : Int)) } = sz) := by have := HSZ.out; rwa [if_neg (by omega)] at this
      have PN := numQ_any (fs.length : Int) w1.drew
      clear tne
      go_wp2_with fail
      go_region_held3 (fun w' => w'.cell? ⟨rp, 1, none⟩ = some (.slice (some ⟨rb, 0, none⟩) 12 12) ∧ w'.cell? ⟨w.heap.size, 1, none⟩ = some (.int .i64 R)) (go_keep) (first | (go_at_call 25; refine PN.mono ?_; clear PN; rintro e w4 ⟨rfl, hb4⟩; have hb14 : Below w1.heap.size w1 w4 := ((Below.refl w1.heap.size w1).drew).trans hb4; have hJ4 := (wrO rp rb most grow).below HJ1.out.1 hb14; have HJ4 : Hid ((wrO rp rb most grow).J F s w4 ∧ Tn F w F w4) := ⟨hJ4, HJ1.out.2.below hb14⟩; obtain ⟨g1, _, _, _, _, _, _, gr⟩ := wr_cells hJ4; obtain ⟨g2, g3, g4, g5⟩ := gr R hR; have g6 := (hb14.cell (p := ⟨w.heap.size, 1, none⟩) lxx).trans q1; clear hb4 hb14 hJ4 gr c1 q1 x0 x1 y0 y1))
      all_goals
        obtain ⟨hJ2, hT2⟩ := wr_root HJ4.out.1 R (1, (fs.length : Int))
        have HJ2 : Hid (_ ∧ _) := ⟨hJ2, HJ4.out.2.trans hT2⟩
        clear hJ2 hT2
        go_wp2_with fail
        go_ret
        rw [← E1.out, ← E2.out]
        exact ⟨rfl, HJ2.out.1, HJ2.out.2⟩

set_option maxRecDepth 100000 in
set_option maxHeartbeats 2000000 in
theorem doQ_same (h : (wrO rp rb most grow).J F s w) (R A B : Nat) (hR : R < 12) (hA : A < 12) (hB : B < 12) (I n : Int) (hP : SFk 14 R A B I n) :
    Calls Tryz.prog 9 #[.pointer (some ⟨rp, 0, none⟩), stpV 14 R A B I n] w fun e w' => e = .returned (.int .i64 0) ∧ (wrO rp rb most grow).J F { s with rs := s.rs.set R (1, if s.rs.getD A (0, 0) = s.rs.getD B (0, 0) then 1 else 0) } w' ∧ Tn F w F w' := by
  obtain ⟨g1, g2, hg⟩ : ∃ g1 g2, s.rs.getD A (0, 0) = (g1, g2) := ⟨_, _, rfl⟩
  obtain ⟨p1, p2, hp⟩ : ∃ p1 p2, s.rs.getD B (0, 0) = (p1, p2) := ⟨_, _, rfl⟩
  obtain ⟨z, HZ⟩ : ∃ z : Int, Hid ((if s.rs.getD A (0, 0) = s.rs.getD B (0, 0) then (1 : Int) else 0) = z) := ⟨_, rfl⟩
  rw [HZ.out]
  have hb0 := (Below.refl w.heap.size w).alloc (Nat.le_refl _) (stpC 14 R A B I n)
  have P := hP (w.alloc (stpC 14 R A B I n))
  have HJ : Hid ((wrO rp rb most grow).J F s w ∧ Below w.heap.size w (w.alloc (stpC 14 R A B I n))) := ⟨h, hb0⟩
  clear h hb0 hP
  go_enter Tryz.func9, Tryz.ntmps9
  go_wp2_with fail
  refine P.mono ?_
  clear P
  rintro e w1 ⟨rfl, hb1⟩
  have hb := HJ.out.2.trans (hb1.mono (by simp))
  have hJ1 := (wrO rp rb most grow).below HJ.out.1 hb
  have hx : w1.heap[w.heap.size]? = some (stpC 14 R A B I n) := (hb1.block _ (by simp)).trans (heap_alloc_new _ _)
  obtain ⟨q0, q1, q2, q3, q4, q5⟩ := hs_cells hx
  obtain ⟨c1, _, _, lrp, lrb, cz, hrl, cr⟩ := wr_cells hJ1
  obtain ⟨x0, x1, y0, y1⟩ := cr R hR
  obtain ⟨nrb, hFb, hFp⟩ := wr_ne hJ1
  have lb := (wrO rp rb most grow).lt HJ.out.1 rb hFb
  have lp := (wrO rp rb most grow).lt HJ.out.1 rp hFp
  have nx1 : rb ≠ w.heap.size := by omega
  have nx2 : rp ≠ w.heap.size := by omega
  have HJ1 : Hid ((wrO rp rb most grow).J F s w1 ∧ Tn F w F w1) := ⟨hJ1, Tn.of hb⟩
  have r0 : (0 : Int) ≤ (R : Int) := by omega
  have r1 : (R : Int) < 12 := by omega
  obtain ⟨u0, u1, _, _⟩ := cr A hA
  obtain ⟨v0, v1, _, _⟩ := cr B hB
  rw [hg] at u0 u1
  rw [hp] at v0 v1
  rw [hg, hp] at HZ
  dsimp only at u0 u1 v0 v1
  have a0 : (0 : Int) ≤ (A : Int) := by omega
  have a1 : (A : Int) < 12 := by omega
  have b0 : (0 : Int) ≤ (B : Int) := by omega
  have b1 : (B : Int) < 12 := by omega
  have lxx : w.heap.size < w1.heap.size := lt_of_some hx
  clear hJ1 hb hb1 hx cr cz HJ hg hp x0 x1 y0 y1
  by_cases he : g1 = p1 ∧ g2 = p2
  · obtain ⟨rfl, rfl⟩ := he
    have E : Hid (1 = z) := by have := HZ.out; rwa [if_pos rfl] at this
    go_wp2_with fail
    go_quiet (fail)
    have hbq : Below w1.heap.size w1 (w1.drewN nq) := below_drewN (Below.refl w1.heap.size w1) nq
    have hJ3 := (wrO rp rb most grow).below HJ1.out.1 hbq
    have HJ3 : Hid ((wrO rp rb most grow).J F s (w1.drewN nq) ∧ Tn F w F (w1.drewN nq)) := ⟨hJ3, HJ1.out.2.below hbq⟩
    obtain ⟨k1, _⟩ := wr_cells hJ3
    have k2 := (hbq.cell (p := ⟨w.heap.size, 1, none⟩) lxx).trans q1
    have lx3 : w.heap.size < (w1.drewN nq).heap.size := Nat.lt_of_lt_of_le lxx hbq.size
    generalize w1.drewN nq = w3 at *
    have PN := numQ_any 1 w3.drew
    clear hbq hJ3 u0 u1 v0 v1 c1 q1 q2 q3 q0 q4 q5
    go_wp2_with fail
    go_region_held3 (fun w' => w'.cell? ⟨rp, 1, none⟩ = some (.slice (some ⟨rb, 0, none⟩) 12 12) ∧ w'.cell? ⟨w.heap.size, 1, none⟩ = some (.int .i64 R)) (go_keep) (first | (go_at_call 25; refine PN.mono ?_; clear PN; rintro e w4 ⟨rfl, hb4⟩; have hb14 : Below w3.heap.size w3 w4 := ((Below.refl w3.heap.size w3).drew).trans hb4; have hJ4 := (wrO rp rb most grow).below HJ3.out.1 hb14; have HJ4 : Hid ((wrO rp rb most grow).J F s w4 ∧ Tn F w F w4) := ⟨hJ4, HJ3.out.2.below hb14⟩; obtain ⟨g1_, _, _, _, _, _, _, gr⟩ := wr_cells hJ4; obtain ⟨g2_, g3, g4, g5⟩ := gr R hR; have g6 := (hb14.cell (p := ⟨w.heap.size, 1, none⟩) lx3).trans k2; clear hb4 hb14 hJ4 gr k1 k2))
    all_goals
      obtain ⟨hJ2, hT2⟩ := wr_root HJ4.out.1 R (1, 1)
      have HJ2 : Hid (_ ∧ _) := ⟨hJ2, HJ4.out.2.trans hT2⟩
      clear hJ2 hT2
      go_wp2_with fail
      go_ret
      rw [← E.out]
      exact ⟨rfl, HJ2.out.1, HJ2.out.2⟩
  · have E : Hid (0 = z) := by have := HZ.out; rwa [if_neg (by simpa using he)] at this
    by_cases h1 : g1 = p1
    · subst h1
      have h2 : ¬ g2 = p2 := fun c => he ⟨rfl, c⟩
      clear he
      go_wp2_with fail
      go_quiet (fail)
      have hbq : Below w1.heap.size w1 (w1.drewN nq) := below_drewN (Below.refl w1.heap.size w1) nq
      have hJ3 := (wrO rp rb most grow).below HJ1.out.1 hbq
      have HJ3 : Hid ((wrO rp rb most grow).J F s (w1.drewN nq) ∧ Tn F w F (w1.drewN nq)) := ⟨hJ3, HJ1.out.2.below hbq⟩
      obtain ⟨k1, _⟩ := wr_cells hJ3
      have k2 := (hbq.cell (p := ⟨w.heap.size, 1, none⟩) lxx).trans q1
      have lx3 : w.heap.size < (w1.drewN nq).heap.size := Nat.lt_of_lt_of_le lxx hbq.size
      generalize w1.drewN nq = w3 at *
      have PN := numQ_any 0 w3.drew
      clear hbq hJ3 u0 u1 v0 v1 c1 q1 q2 q3 q0 q4 q5
      go_wp2_with fail
      go_region_held3 (fun w' => w'.cell? ⟨rp, 1, none⟩ = some (.slice (some ⟨rb, 0, none⟩) 12 12) ∧ w'.cell? ⟨w.heap.size, 1, none⟩ = some (.int .i64 R)) (go_keep) (first | (go_at_call 25; refine PN.mono ?_; clear PN; rintro e w4 ⟨rfl, hb4⟩; have hb14 : Below w3.heap.size w3 w4 := ((Below.refl w3.heap.size w3).drew).trans hb4; have hJ4 := (wrO rp rb most grow).below HJ3.out.1 hb14; have HJ4 : Hid ((wrO rp rb most grow).J F s w4 ∧ Tn F w F w4) := ⟨hJ4, HJ3.out.2.below hb14⟩; obtain ⟨g1_, _, _, _, _, _, _, gr⟩ := wr_cells hJ4; obtain ⟨g2_, g3, g4, g5⟩ := gr R hR; have g6 := (hb14.cell (p := ⟨w.heap.size, 1, none⟩) lx3).trans k2; clear hb4 hb14 hJ4 gr k1 k2))
      all_goals
        obtain ⟨hJ2, hT2⟩ := wr_root HJ4.out.1 R (1, 0)
        have HJ2 : Hid (_ ∧ _) := ⟨hJ2, HJ4.out.2.trans hT2⟩
        clear hJ2 hT2
        go_wp2_with fail
        go_ret
        rw [← E.out]
        exact ⟨rfl, HJ2.out.1, HJ2.out.2⟩
    · clear he
      go_wp2_with fail
      go_quiet (fail)
      have hbq : Below w1.heap.size w1 (w1.drewN nq) := below_drewN (Below.refl w1.heap.size w1) nq
      have hJ3 := (wrO rp rb most grow).below HJ1.out.1 hbq
      have HJ3 : Hid ((wrO rp rb most grow).J F s (w1.drewN nq) ∧ Tn F w F (w1.drewN nq)) := ⟨hJ3, HJ1.out.2.below hbq⟩
      obtain ⟨k1, _⟩ := wr_cells hJ3
      have k2 := (hbq.cell (p := ⟨w.heap.size, 1, none⟩) lxx).trans q1
      have lx3 : w.heap.size < (w1.drewN nq).heap.size := Nat.lt_of_lt_of_le lxx hbq.size
      generalize w1.drewN nq = w3 at *
      have PN := numQ_any 0 w3.drew
      clear hbq hJ3 u0 u1 v0 v1 c1 q1 q2 q3 q0 q4 q5
      go_wp2_with fail
      go_region_held3 (fun w' => w'.cell? ⟨rp, 1, none⟩ = some (.slice (some ⟨rb, 0, none⟩) 12 12) ∧ w'.cell? ⟨w.heap.size, 1, none⟩ = some (.int .i64 R)) (go_keep) (first | (go_at_call 25; refine PN.mono ?_; clear PN; rintro e w4 ⟨rfl, hb4⟩; have hb14 : Below w3.heap.size w3 w4 := ((Below.refl w3.heap.size w3).drew).trans hb4; have hJ4 := (wrO rp rb most grow).below HJ3.out.1 hb14; have HJ4 : Hid ((wrO rp rb most grow).J F s w4 ∧ Tn F w F w4) := ⟨hJ4, HJ3.out.2.below hb14⟩; obtain ⟨g1_, _, _, _, _, _, _, gr⟩ := wr_cells hJ4; obtain ⟨g2_, g3, g4, g5⟩ := gr R hR; have g6 := (hb14.cell (p := ⟨w.heap.size, 1, none⟩) lx3).trans k2; clear hb4 hb14 hJ4 gr k1 k2))
      all_goals
        obtain ⟨hJ2, hT2⟩ := wr_root HJ4.out.1 R (1, 0)
        have HJ2 : Hid (_ ∧ _) := ⟨hJ2, HJ4.out.2.trans hT2⟩
        clear hJ2 hT2
        go_wp2_with fail
        go_ret
        rw [← E.out]
        exact ⟨rfl, HJ2.out.1, HJ2.out.2⟩
end

end Go.Proofs.YtogknhogphkddaaGreat

/- The document's world, cut: what is kept is closed, and the least such; lists alone. -/
namespace Go.Proofs.YtogknhogphkddaaGreat
open Go.RowKit W Kp Stl

theorem gokx {T : List Tw1} {wt : List En} (hW : Wiv T wt) : ∃ g, Gok T wt g := by
  classical
  refine ⟨fun is => (List.range is.length).map (fun i => decide (∀ X : Nat → Prop, Cls T wt X → (∀ k, Ls_ is k → X k) → X i)), fun is hl hal => ?_⟩
  have key : ∀ i, Ls_ ((List.range is.length).map (fun i => decide (∀ X : Nat → Prop, Cls T wt X → (∀ k, Ls_ is k → X k) → X i))) i ↔ i < is.length ∧ ∀ X : Nat → Prop, Cls T wt X → (∀ k, Ls_ is k → X k) → X i := by
    intro i
    unfold Ls_
    by_cases hi : i < is.length
    · rw [List.getD_eq_getElem?_getD, List.getElem?_map, List.getElem?_range hi]
      simp [hi]
    · rw [List.getD_eq_getElem?_getD, List.getElem?_eq_none (by simpa using hi)]
      simp [hi]
  refine ⟨by simp, fun i hi => (key i).2 ⟨hi.lt, fun X _ hX => hX i hi⟩, fun i hi hx v hv h3 => ?_, fun X hX hs i hi => ((key i).1 hi).2 X hX hs⟩
  have k2 : ∀ X : Nat → Prop, Cls T wt X → (∀ k, Ls_ is k → X k) → X v.2.toNat := fun X hX hs => hX i hi (((key i).1 hx).2 X hX hs) v (hv.mono (fun k hk => ((key k).1 hk).2 X hX hs)) h3
  exact (key _).2 ⟨by rw [hl]; exact (k2 (Alv T) hW.cls hal).1, k2⟩
theorem gfn_ex : ∃ g : Gfn, ∀ T wt, Wiv T wt → Gok T wt (g T wt) := by
  classical
  refine ⟨fun T wt => if h : ∃ g, Gok T wt g then h.choose else id, fun T wt hW => ?_⟩
  have h := gokx hW
  dsimp only
  rw [dif_pos h]
  exact h.choose_spec

section
variable {σ : Type} {is : σ → Int → Bool} {kp : σ → Int → σ} {I : σ → List En → Prop} {R : List En}
theorem pass_ic (hk : ∀ s C e, I s C → e ∈ R → is s e.1 = true → I (kp s e.2) (C ++ [e])) : ∀ (l : List En) (s : σ) (C D : List En), (∀ e ∈ l, e ∈ R) → I s C → I (Stl.pass is kp l s C D).1 (Stl.pass is kp l s C D).2.1
  | [], _, _, _, _, h => h
  | e :: r, s, C, D, hR, h => by
    unfold Stl.pass
    have hr : ∀ x ∈ r, x ∈ R := fun x hx => hR x (List.mem_cons_of_mem _ hx)
    split
    · rename_i c
      exact pass_ic hk r _ _ _ hr (hk s C e h (hR e (by simp)) c)
    · exact pass_ic hk r _ _ _ hr h
theorem turns_ic (hk : ∀ s C e, I s C → e ∈ R → is s e.1 = true → I (kp s e.2) (C ++ [e])) : ∀ (n : Nat) (D : List En) (s : σ) (C : List En), (∀ e ∈ D, e ∈ R) → I s C → I (Stl.turns is kp n D s C).1 (Stl.turns is kp n D s C).2.1
  | 0, _, _, _, _, h => h
  | n + 1, D, s, C, hR, h => by
    have h1 := pass_ic hk D s C [] hR h
    unfold Stl.turns
    split
    · exact h1
    · exact turns_ic hk n _ _ _ (fun e he => hR e (pass_left _ _ D s C e he)) h1
end

structure Ci (s : Wrs) (g : List Bool → List Bool) (mj : Bool) (L : List Bool) (C : List En) : Prop where
  ok : Sok_ s.T L
  up : ∀ k, Ls_ (s.c0 g mj) k → Ls_ L k
  cl : Cls s.T s.wt (Ls_ L)
  cC : ∀ e ∈ C, e ∈ s.rg ∧ Ls_ L e.1.toNat ∧ Ls_ L e.2.toNat
  lt : ∀ X, Cls s.T s.wt X → (∀ k, Ls_ (s.c0 g mj) k → X k) → (∀ e ∈ s.rg, isd (s.c0 g mj) e.2 = false → X e.2.toNat) → ∀ k, Ls_ L k → X k
theorem c0_ok {s : Wrs} (h : Wcv s) {g : List Bool → List Bool} (hg : Gok s.T s.wt g) (mj : Bool) : Grn s.T s.wt (frs s.T s.rs mj) (s.c0 g mj) ∧ Sok_ s.T (s.c0 g mj) := by
  have hf := h.first mj
  exact ⟨hg _ hf.len hf.al, (hg.ok h.iv hf).1⟩
theorem cR_ci {s : Wrs} (h : Wcv s) {g : List Bool → List Bool} (hg : Gok s.T s.wt g) (mj : Bool) : Ci s g mj (s.cR g mj).1 (s.cR g mj).2.1 := by
  obtain ⟨h1, h2⟩ := c0_ok h hg mj
  unfold Wrs.cR
  refine turns_ic (I := fun L C => Ci s g mj L C) (R := s.rg.filter (fun e => !isd (s.c0 g mj) e.2)) (fun L C e hI he his => ?_) _ _ _ _ (fun e he => he) ⟨h2, fun k hk => hk, h1.cl, fun e he => by simp at he, fun X _ hX _ k hk => hX k hk⟩
  obtain ⟨he, hn⟩ := List.mem_filter.1 he
  have hn : isd (s.c0 g mj) e.2 = false := by simpa using hn
  have ha := (h.gv e he).2
  obtain ⟨p1, p2, p3⟩ := hI.ok.put ha.2
  have hG := hg _ p1.len p1.al
  have hu : ∀ k, Ls_ L k → Ls_ (kpg g L e.2) k := fun k hk => hG.up k (p3 k hk)
  refine ⟨(hg.ok h.iv p1).1, fun k hk => hu k (hI.up k hk), hG.cl, fun x hx => ?_, fun X hX h0 hR k hk => ?_⟩
  · rcases List.mem_append.1 hx with hx | hx
    · obtain ⟨q1, q2, q3⟩ := hI.cC x hx
      exact ⟨q1, hu _ q2, hu _ q3⟩
    · rw [List.mem_singleton.1 hx]
      exact ⟨he, hu _ his, hG.up _ p2⟩
  · refine hG.lt X hX (fun i hi => ?_) k hk
    unfold Ls_ at hi
    rw [getD_setB _ _ _ (by rw [hI.ok.len]; exact ha.2.1)] at hi
    split at hi
    · rename_i e1
      rw [← e1]
      exact hR e he hn
    · exact hI.lt X hX h0 hR i hi
theorem cR_len (s : Wrs) (g : List Bool → List Bool) (mj : Bool) : (s.cR g mj).2.1.length ≤ (s.rg.filter (fun e => !isd (s.c0 g mj) e.2)).length := by
  have := turns_len (is := isd) (kp := kpg g) (s.rg.length + 1) (s.rg.filter (fun e => !isd (s.c0 g mj) e.2)) (s.c0 g mj) []
  unfold Wrs.cR
  simp only [List.length_nil] at this
  omega
theorem c0_root {s : Wrs} (h : Wcv s) {g : List Bool → List Bool} (hg : Gok s.T s.wt g) (mj : Bool) {v : Int × Int} (hv : v ∈ s.rs) (h3 : v.1 = 3) : Ls_ (s.c0 g mj) v.2.toNat :=
  (c0_ok h hg mj).1.up _ ((frs_in _ _ _ _).2 ⟨(h.rv v hv h3).2.1, Or.inr ⟨v, hv, h3, rfl⟩⟩)

theorem cuL_at (L : List Bool) (T : List Tw1) (i : Nat) : (cuL L T T.length).getD i t0 = if i < T.length then cuT L i (T.getD i t0) else t0 := by
  by_cases h : i < T.length
  · rw [cuL_get L T T.length i (Nat.le_refl _) h, if_pos h, if_pos h]
  · rw [if_neg h, List.getD_eq_getElem?_getD, List.getElem?_eq_none (by rw [cuL_len]; omega)]
    rfl
theorem cuT_n {L : List Bool} {i : Nat} {t : Tw1} (hL : L.getD i false = false) : cuT L i t = (t.1, [], t.2.2.1, true) := by
  unfold cuT
  rw [if_neg (by rw [hL]; simp)]
theorem cuT_k (L : List Bool) (i : Nat) (t : Tw1) : (cuT L i t).1 = t.1 := by
  unfold cuT
  split <;> rfl
theorem cuT_y {L : List Bool} {i : Nat} {t : Tw1} (hL : L.getD i false = true) : (cuT L i t).2.2 = (true, t.2.2.2) := by
  unfold cuT
  rw [if_pos hL]
theorem cu_alv {T : List Tw1} {L : List Bool} (h : Sok_ T L) (i : Nat) : Alv (cuL L T T.length) i ↔ Ls_ L i := by
  unfold Alv
  rw [cuL_len, cuL_at]
  constructor
  · rintro ⟨h1, h2⟩
    rw [if_pos h1] at h2
    unfold Ls_
    cases c : L.getD i false
    · rw [cuT_n c] at h2
      cases h2
    · rfl
  · intro hi
    have ha := h.al i hi
    refine ⟨ha.1, ?_⟩
    rw [if_pos ha.1, cuT_y hi]
    exact ha.2
theorem cuT_f {L : List Bool} {i : Nat} {t : Tw1} (hL : L.getD i false = true) :
    (t.1 = 4 ∧ inS L (t.2.1.getD 0 (0, 0)) = false ∧ (cuT L i t).2.1 = [(2, 0), (2, 0)]) ∨ (t.1 = 3 ∧ inS L (t.2.1.getD 0 (0, 0)) = false ∧ (cuT L i t).2.1 = [(2, 0), t.2.1.getD 1 (0, 0)]) ∨ ((t.1 = 3 ∨ t.1 = 4 → inS L (t.2.1.getD 0 (0, 0)) = true) ∧ (cuT L i t).2.1 = t.2.1) := by
  unfold cuT
  rw [if_pos hL]
  dsimp only
  by_cases c4 : t.1 = 4 ∧ inS L (t.2.1.getD 0 (0, 0)) = false
  · rw [if_pos c4]
    exact Or.inl ⟨c4.1, c4.2, rfl⟩
  · rw [if_neg c4]
    by_cases c3 : t.1 = 3 ∧ inS L (t.2.1.getD 0 (0, 0)) = false
    · rw [if_pos c3]
      exact Or.inr (Or.inl ⟨c3.1, c3.2, rfl⟩)
    · rw [if_neg c3]
      refine Or.inr (Or.inr ⟨fun h => ?_, rfl⟩)
      cases c : inS L (t.2.1.getD 0 (0, 0))
      · rcases h with h | h
        · exact absurd ⟨h, c⟩ c3
        · exact absurd ⟨h, c⟩ c4
      · rfl

end Go.Proofs.YtogknhogphkddaaGreat
