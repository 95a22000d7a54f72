/- Joined: Gv5, Gv6, Gs1, Gv7. -/
import Derived.Test.YtogknhogphkddaaGreatJ19
import Derived.Test.YtogknhogphkddaaGreatJ06
/- A grove in memory: what stands beside turns; register, pop: contracts. -/
namespace Go.Proofs.YtogknhogphkddaaGreat
open Go.RowKit W Kp Stl

section
variable {gp rb : Nat} {most grow : Int} {l : Gl} {F : Nat → Prop} {s : Wrs} {w w' : World}

theorem Gvy.side (h : Gvy gp most grow l s w) {r q : List En} {a0 a1 : Option Addr} {k0 k1 : Nat} (hS : Sds w' l.bp a0 k0 a1 k1 r q) (fr : Fr (fun k => k = l.bp) w w')
    (n0 : ∀ k, some k = (Value.slice a0 r.length k0).ownBlock → l.own k = 5 ∨ w.heap.size ≤ k) (n1 : ∀ k, some k = (Value.slice a1 q.length k1).ownBlock → l.own k = 6 ∨ w.heap.size ≤ k)
    (nn : ∀ k, w.heap.size ≤ k → some k = (Value.slice a0 r.length k0).ownBlock → some k ≠ (Value.slice a1 q.length k1).ownBlock) :
    ∃ l', Gvy gp most grow l' { s with rg := r, wt := q } w' ∧ (∀ b, l'.own b ≠ 0 → l.own b ≠ 0 ∨ w.heap.size ≤ b) ∧ l'.fm = l.fm ∧ l'.rb = l.rb := by
  refine ⟨{ l with own := fun b => if w.heap.size ≤ b then (if some b = (Value.slice a0 r.length k0).ownBlock then 5 else if some b = (Value.slice a1 q.length k1).ownBlock then 6 else 0) else l.own b, a0 := a0, k0 := k0, a1 := a1, k1 := k1 }, ?_, ?_, rfl, rfl⟩
  · have ho : ∀ b, l.own b ≠ 0 → ¬ w.heap.size ≤ b := fun b hb => by
      have := h.lt b hb
      omega
    have he : ∀ b, l.own b ≠ 0 → (if w.heap.size ≤ b then (if some b = (Value.slice a0 r.length k0).ownBlock then 5 else if some b = (Value.slice a1 q.length k1).ownBlock then 6 else 0) else l.own b) = l.own b := fun b hb => if_neg (ho b hb)
    have hk : ∀ b, l.own b ≠ 0 → l.own b ≠ 3 → w'.heap[b]? = w.heap[b]? := fun b hb h3 => fr.block b (h.lt b hb) (fun c => h3 (by rw [c]; exact h.g3.so))
    refine { blk := (hk gp (by rw [h.bo]; decide) (by rw [h.bo]; decide)).trans h.blk, bo := ?_, g2 := ?_, g3 := ?_, g4 := ?_, lt := ?_ }
    · exact (he gp (by rw [h.bo]; decide)).trans h.bo
    · exact { mp := h.g2.mp.same (hk _ (by rw [h.g2.mo]; decide) (by rw [h.g2.mo]; decide)), mn := h.g2.mn, mo := (he _ (by rw [h.g2.mo]; decide)).trans h.g2.mo
              fl := fun i hi => row_keep (h.g2.fl i hi) (fun k e => hk k (by rw [h.g2.fo i hi k e]; omega) (by rw [h.g2.fo i hi k e]; omega))
              fo := fun i hi k e => (he k (by rw [h.g2.fo i hi k e]; omega)).trans (h.g2.fo i hi k e), ag := h.g2.ag, al := h.g2.al }
    · refine { sd := hS, so := (he _ (by rw [h.g3.so]; decide)).trans h.g3.so, ro := fun k e => ?_, qo := fun k e => ?_ }
      · rcases n0 k e with c | c
        · exact (he k (by rw [c]; decide)).trans c
        · show (if _ then _ else _) = _
          rw [if_pos c, if_pos e]
      · rcases n1 k e with c | c
        · exact (he k (by rw [c]; decide)).trans c
        · show (if _ then _ else _) = _
          rw [if_pos c, if_neg (fun c' => nn k c c' e), if_pos e]
    · exact { rt := (hk _ (by rw [h.g4.ro]; decide) (by rw [h.g4.ro]; decide)).trans h.g4.rt, rl := h.g4.rl, ro := (he _ (by rw [h.g4.ro]; decide)).trans h.g4.ro }
    · intro b hb
      dsimp only at hb
      by_cases c : w.heap.size ≤ b
      · rw [if_pos c] at hb
        by_cases c1 : some b = (Value.slice a0 r.length k0).ownBlock
        · exact (row_lt hS.r0 b c1).2
        · rw [if_neg c1] at hb
          by_cases c2 : some b = (Value.slice a1 q.length k1).ownBlock
          · exact (row_lt hS.q0 b c2).2
          · rw [if_neg c2] at hb
            exact absurd rfl hb
      · rw [if_neg c] at hb
        exact Nat.lt_of_lt_of_le (h.lt b hb) fr.size
  · intro b hb
    dsimp only at hb
    by_cases c : w.heap.size ≤ b
    · exact Or.inr c
    · rw [if_neg c] at hb
      exact Or.inl hb

theorem grO_mk {l' : Gl} {s' : Wrs} (h : Gvy gp most grow l' s' w') (hrb : l'.rb = rb) (hF : ∀ b, F b ↔ l.own b ≠ 0) (fr : Fr (fun b => l.own b ≠ 0) w w') (ho : ∀ b, l'.own b ≠ 0 → l.own b ≠ 0 ∨ w.heap.size ≤ b) : ∃ F', (grO gp most grow rb).J F' s' w' ∧ Tn F w F' w' :=
  ⟨fun b => l'.own b ≠ 0, ⟨l', h, hrb, fun _ => Iff.rfl⟩, fr.mono (fun b hb => (hF b).2 hb), fun b hb => (ho b hb).imp (hF b).2 id⟩

theorem regG (h : (grO gp most grow rb).J F s w) (g z : Int) (h0 : s.rg.length ≤ 90000) (h1 : s.wt.length ≤ 90000) : ∃ bp, w.cell? ⟨gp, 5, none⟩ = some (.pointer (some ⟨bp, 0, none⟩)) ∧
    Calls Tryz.prog 42 #[.pointer (some ⟨bp, 0, none⟩), .agg #[.int .i64 g, .int .i64 z]] w fun e w' => ∃ F', e = .returned (.bool (!fulB (s.rg.length + s.wt.length))) ∧ (grO gp most grow rb).J F' (if 24 ≤ s.rg.length + s.wt.length then s else { s with rg := s.rg ++ [(g, z)] }) w' ∧ Tn F w F' w' ∧ w'.heap[gp]? = w.heap[gp]? := by
  obtain ⟨l, h, hrb, hF⟩ := h
  obtain ⟨_, _, _, _, _, c5, _, _, lg⟩ := h.cells
  refine ⟨l.bp, c5, (reg_any w l.bp l.a0 l.a1 l.k0 l.k1 s.rg s.wt g z h.g3.sd h0 h1).mono ?_⟩
  rintro e w' ⟨rfl, ⟨hf, hb⟩ | ⟨hf, b1, c1, hS, hn, fr⟩⟩
  · rw [if_pos hf]
    exact ⟨F, rfl, ⟨l, h.below hb, hrb, hF⟩, Tn.of hb, hb.block gp lg⟩
  · rw [if_neg hf]
    obtain ⟨l', g1, g2, _, g4⟩ := h.side hS fr (fun k e => Or.inr (by cases e; exact hn)) (fun k e => Or.inl (h.g3.qo k e)) (fun k hk e e' => by
      have := (row_lt h.g3.sd.q0 k e').2
      omega)
    obtain ⟨F', j, t⟩ := grO_mk g1 (g4.trans hrb) hF (fr.mono (fun b e => by rw [e, h.g3.so]; decide)) g2
    exact ⟨F', rfl, j, t, fr.block gp lg (fun c => by have := h.bo; rw [c, h.g3.so] at this; omega)⟩

theorem pqI_of {q : List En} {g : Int} {i : Nat} (hi : i < q.length) (e : (q.getD i (0, 0)).1 = g) (hn : ∀ e ∈ q.take i, ¬ e.1 = g) : pqI g q = i := by
  unfold pqI
  rw [List.findIdx_eq hi]
  refine ⟨?_, fun j hj => ?_⟩
  · rw [List.getD_eq_getElem?_getD, List.getElem?_eq_getElem hi] at e
    simpa using e
  · have := hn (q[j]'(by omega)) (by
      rw [List.mem_take_iff_getElem]
      exact ⟨j, by omega, rfl⟩)
    simpa using this

theorem popG (h : (grO gp most grow rb).J F s w) (g : Int) (h1 : s.wt.length ≤ 90000) : ∃ bp, w.cell? ⟨gp, 5, none⟩ = some (.pointer (some ⟨bp, 0, none⟩)) ∧
    Calls Tryz.prog 75 #[.pointer (some ⟨bp, 0, none⟩), .int .i64 g] w fun e w' => ∃ F', e = .returned (.tuple #[.int .i64 (if pqI g s.wt < s.wt.length then (s.wt.getD (pqI g s.wt) (0, 0)).2 else 0), .bool (decide (pqI g s.wt < s.wt.length))]) ∧
      (grO gp most grow rb).J F' (if pqI g s.wt < s.wt.length then { s with wt := s.wt.take (pqI g s.wt) ++ s.wt.drop (pqI g s.wt + 1) } else s) w' ∧ Tn F w F' w' ∧ w'.heap[gp]? = w.heap[gp]? := by
  obtain ⟨l, h, hrb, hF⟩ := h
  obtain ⟨_, _, _, _, _, c5, _, _, lg⟩ := h.cells
  refine ⟨l.bp, c5, (pop_any w l.bp l.a0 l.a1 l.k0 l.k1 s.rg s.wt g h.g3.sd h1).mono ?_⟩
  rintro e w' (⟨rfl, hn, hb⟩ | ⟨i, b1, c1, rfl, hi, eg, hn, hS, hz, fr⟩)
  · have hp : ¬ pqI g s.wt < s.wt.length := by
      unfold pqI
      rw [List.findIdx_lt_length]
      rintro ⟨x, hx, hx2⟩
      exact hn x hx (by simpa using hx2)
    rw [if_neg hp, if_neg hp, decide_eq_false hp]
    exact ⟨F, rfl, ⟨l, h.below hb, hrb, hF⟩, Tn.of hb, hb.block gp lg⟩
  · have hp := pqI_of hi eg hn
    rw [hp, if_pos hi, if_pos hi, decide_eq_true hi]
    obtain ⟨l', g1, g2, _, g4⟩ := h.side hS fr (fun k e => Or.inl (h.g3.ro k e)) (fun k e => Or.inr (by
      cases b1 with
      | none => cases e
      | some z => cases e; exact hz z rfl)) (fun k hk e e' => by
      have := (row_lt h.g3.sd.r0 k e).2
      omega)
    obtain ⟨F', j, t⟩ := grO_mk g1 (g4.trans hrb) hF (fr.mono (fun b e => by rw [e, h.g3.so]; decide)) g2
    exact ⟨F', rfl, j, t, fr.block gp lg (fun c => by have := h.bo; rw [c, h.g3.so] at this; omega)⟩
end

end Go.Proofs.YtogknhogphkddaaGreat

/- A grove in memory: register, pop, set: contracts. -/
namespace Go.Proofs.YtogknhogphkddaaGreat
open Go.RowKit W Kp Stl

section
variable {gp rb : Nat} {most grow : Int} {l : Gl} {F : Nat → Prop} {s : Wrs} {w w' : World}

theorem Ob.set2 {τ : Type} (o : Ob τ) {t : τ} {b : Nat} (h : o.J F t w) (hn : ¬ F b) (v1 v2 : Value) : o.J F t ((w.setCell ⟨b, 0, none⟩ v1).setCell ⟨b, 1, none⟩ v2) :=
  o.fr h (((Fr.refl (fun k => k = b) w).set b _ _ rfl).set b _ _ rfl) (fun k hk c => hn (by rw [← c]; exact hk))
theorem Tn.set2 {F' : Nat → Prop} {b : Nat} (t : Tn F w F' w') (hb : w.heap.size ≤ b) (v1 v2 : Value) : Tn F w F' ((w'.setCell ⟨b, 0, none⟩ v1).setCell ⟨b, 1, none⟩ v2) :=
  ⟨t.fr.trans (((Fr.refl (fun k => k = b) w').set b _ _ rfl).set b _ _ rfl) (fun k c => Or.inr (by rw [c]; exact hb)), t.sub⟩

set_option maxRecDepth 100000 in
set_option maxHeartbeats 4000000 in
theorem registerG_any (h : (grO gp most grow rb).J F s w) (t d : Int × Int) (ht : t.1 = 3 → 0 ≤ t.2 ∧ Alv s.T t.2.toNat) (hd : d.1 = 3 → 0 ≤ d.2 ∧ Alv s.T d.2.toNat) (hT : s.T.length ≤ 10000) (h0 : s.rg.length ≤ 90000) (h1 : s.wt.length ≤ 90000) :
    Calls Tryz.prog 19 #[.pointer (some ⟨gp, 0, none⟩), .agg #[.int .i64 t.1, .int .i64 t.2], .agg #[.int .i64 d.1, .int .i64 d.2]] w fun e w' => ∃ F', e = .returned (.int .i64 (s.reg t d).1) ∧ (grO gp most grow rb).J F' (s.reg t d).2 w' ∧ Tn F w F' w' := by
  obtain ⟨t0_, t1⟩ := t
  obtain ⟨d0, d1⟩ := d
  have b1 : Below w.heap.size w ((w.alloc (.cells #[.int .i64 t0_, .int .i64 t1] 54)).alloc (.cells #[.int .i64 d0, .int .i64 d1] 54)) := ((Below.refl _ _).alloc (Nat.le_refl _) _).alloc (by simp) _
  have HJ : Hid ((grO gp most grow rb).J F s w) := h
  have HG : Hid (∀ w1, Below w.heap.size w w1 → Calls Tryz.prog 41 #[.pointer (some ⟨gp, 0, none⟩), .agg #[.int .i64 d0, .int .i64 d1]] w1 fun e w' => e = .returned (.bool (gdb s.T (d0, d1))) ∧ Below w1.heap.size w1 w') := fun w1 hb => by
    obtain ⟨l, h, hrb, hF⟩ := HJ.out
    exact isGuardianG_any (h.below hb) (d0, d1) hd hT
  have HR : Hid (∀ w1, Below w.heap.size w w1 → ∃ bp, w1.cell? ⟨gp, 5, none⟩ = some (.pointer (some ⟨bp, 0, none⟩)) ∧ Calls Tryz.prog 42 #[.pointer (some ⟨bp, 0, none⟩), .agg #[.int .i64 d1, .int .i64 t1]] w1 fun e w' => ∃ F', e = .returned (.bool (!fulB (s.rg.length + s.wt.length))) ∧
      (grO gp most grow rb).J F' (if 24 ≤ s.rg.length + s.wt.length then s else { s with rg := s.rg ++ [(d1, t1)] }) w' ∧ Tn F w F' w' ∧ ∀ a : Addr, a.block = gp ∨ (w.heap.size ≤ a.block ∧ a.block < w1.heap.size) → w'.cell? a = w1.cell? a) := fun w1 hb => by
    obtain ⟨bp, c5, P⟩ := regG ((grO gp most grow rb).below HJ.out hb) d1 t1 h0 h1
    refine ⟨bp, c5, P.mono ?_⟩
    rintro e w' ⟨F', rfl, j, t, hg⟩
    refine ⟨F', rfl, j, (Tn.of hb).trans t, fun a ha => World.cell?_of_block ?_⟩
    rcases ha with e | ⟨a1, a2⟩
    · rw [e]
      exact hg
    · exact t.fr.block _ a2 (fun c => by have := (grO gp most grow rb).lt HJ.out _ c; omega)
  unfold Wrs.reg
  by_cases h3 : t0_ = 3
  · subst h3
    have P : Calls Tryz.prog 40 #[.pointer (some ⟨gp, 0, none⟩), .agg #[.int .i64 3, .int .i64 t1]] ((w.alloc (.cells #[.int .i64 3, .int .i64 t1] 54)).alloc (.cells #[.int .i64 d0, .int .i64 d1] 54)) fun e w' => ∃ k ad n c, e = .returned (.tuple #[.agg #[.int .i64 k, .slice ad n c], .bool true]) ∧ Below w.heap.size w (w'.alloc (.cells #[.int .i64 k, .slice ad n c] 76)) ∧
        (w'.alloc (.cells #[.int .i64 k, .slice ad n c] 76)).heap[w.heap.size]? = some (.cells #[.int .i64 3, .int .i64 t1] 54 (0, 0)) ∧ (w'.alloc (.cells #[.int .i64 k, .slice ad n c] 76)).heap[w.heap.size + 1]? = some (.cells #[.int .i64 d0, .int .i64 d1] 54 (0, 0)) := by
      obtain ⟨l, h, hrb, hF⟩ := h
      refine (find_yes (h.below b1) t1 (ht rfl) hT).mono ?_
      rintro e w' ⟨rfl, hb⟩
      have h2 := b1.trans (hb.mono b1.size)
      have h4 := (hb.block w.heap.size (by simp; omega)).trans ((Below.heap_alloc _ _ _ (by simp)).trans (heap_alloc_new w (.cells #[.int .i64 3, .int .i64 t1] 54)))
      have h5 := (hb.block (w.heap.size + 1) (by simp)).trans (alloc_snd w (.cells #[.int .i64 3, .int .i64 t1] 54) (.cells #[.int .i64 d0, .int .i64 d1] 54))
      exact ⟨_, _, _, _, rfl, h2.alloc h2.size _, (Below.heap_alloc _ _ _ (lt_of_some h4)).trans h4, (Below.heap_alloc _ _ _ (lt_of_some h5)).trans h5⟩
    cases hg : gdb s.T (d0, d1)
    · rw [if_neg (fun c => by cases c.2)]
      rw [hg] at HG
      clear h ht hd hT h0 h1 HR hg
      go_enter Tryz.func19, Tryz.ntmps19
      go_wp2_with fail
      refine P.mono ?_
      clear P
      rintro e w1 ⟨k, ad, n, c, rfl, hb, h4, h5⟩
      have P2 := HG.out _ hb
      obtain ⟨q0, q1, _, _⟩ := two_cells h5
      have HB : Hid (_) := hb
      clear hb HG h4 h5 b1
      go_wp2_with fail
      refine P2.mono ?_
      clear P2
      rintro e w2 ⟨rfl, hb2⟩
      have hb2 := HB.out.trans (hb2.mono HB.out.size)
      have HF : Hid ((grO gp most grow rb).J F s w2 ∧ Tn F w F w2) := ⟨(grO gp most grow rb).below HJ.out hb2, Tn.of hb2⟩
      clear hb2 q0 q1
      go_wp2_with fail
      go_ret
      exact ⟨F, rfl, HF.out.1, HF.out.2⟩
    · rw [if_pos ⟨rfl, rfl⟩]
      rw [hg] at HG
      have key : ∀ (fb : Bool) (cd : Int) (s2 : Wrs), (cd = if fb = true then 3 else 0) → Hid (∀ w1, Below w.heap.size w w1 → ∃ bp, w1.cell? ⟨gp, 5, none⟩ = some (.pointer (some ⟨bp, 0, none⟩)) ∧ Calls Tryz.prog 42 #[.pointer (some ⟨bp, 0, none⟩), .agg #[.int .i64 d1, .int .i64 t1]] w1 fun e w' => ∃ F', e = .returned (.bool (!fb)) ∧ (grO gp most grow rb).J F' s2 w' ∧ Tn F w F' w' ∧ ∀ a : Addr, a.block = gp ∨ (w.heap.size ≤ a.block ∧ a.block < w1.heap.size) → w'.cell? a = w1.cell? a) →
          Calls Tryz.prog 19 #[.pointer (some ⟨gp, 0, none⟩), .agg #[.int .i64 3, .int .i64 t1], .agg #[.int .i64 d0, .int .i64 d1]] w fun e w' => ∃ F', e = .returned (.int .i64 cd) ∧ (grO gp most grow rb).J F' s2 w' ∧ Tn F w F' w' := by
        intro fb cd s2 hcd HR
        clear h ht hd hT h0 h1 hg
        cases fb <;> subst hcd
        all_goals
          go_enter Tryz.func19, Tryz.ntmps19
          go_wp2_with fail
          refine P.mono ?_
          clear P
          rintro e w1 ⟨k, ad, n, c, rfl, hb, h4, h5⟩
          have P2 := HG.out _ hb
          obtain ⟨q0, q1, _, _⟩ := two_cells h5
          have HB : Hid (_) := hb
          have H4 : Hid (_ ∧ _) := ⟨h4, h5⟩
          clear hb HG h4 h5 b1
          go_wp2_with fail
          refine P2.mono ?_
          clear P2
          rintro e w2 ⟨rfl, hb2⟩
          have hb3 := HB.out.trans (hb2.mono HB.out.size)
          obtain ⟨bp, c5, P3⟩ := HR.out _ hb3.drew
          obtain ⟨_, y1, _, l1⟩ := two_cells ((hb2.block _ (lt_of_some H4.out.1)).trans H4.out.1)
          obtain ⟨_, y2, _, l2⟩ := two_cells ((hb2.block _ (lt_of_some H4.out.2)).trans H4.out.2)
          have c5 : w2.cell? ⟨gp, 5, none⟩ = some (.pointer (some ⟨bp, 0, none⟩)) := c5
          clear hb2 hb3 q0 q1 H4 HR
          go_wp2_with fail
          go_region_held3 (fun w' => w'.cell? ⟨gp, 5, none⟩ = some (.pointer (some ⟨bp, 0, none⟩)) ∧ w'.cell? ⟨w.heap.size, 1, none⟩ = some (.int .i64 t1) ∧ w'.cell? ⟨w.heap.size + 1, 1, none⟩ = some (.int .i64 d1)) (go_keep)
            (first | (go_at_call 42; refine P3.mono ?_; clear P3; rintro e w3 ⟨F3, rfl, j3, t3, k3⟩; have HF : Hid ((grO gp most grow rb).J F3 s2 w3 ∧ Tn F w F3 w3) := ⟨j3, t3⟩; have c5' := (k3 ⟨gp, 5, none⟩ (Or.inl rfl)).trans c5; have y1' := (k3 ⟨w.heap.size, 1, none⟩ (Or.inr ⟨Nat.le_refl _, l1⟩)).trans y1; have y2' := (k3 ⟨w.heap.size + 1, 1, none⟩ (Or.inr ⟨Nat.le_succ _, l2⟩)).trans y2; clear j3 t3 c5 y1 y2 k3))
          all_goals
            go_wp2_with fail
            go_ret
            exact ⟨rfl, F3, HF.out.1, HF.out.2⟩
      by_cases hf : 24 ≤ s.rg.length + s.wt.length
      · rw [if_pos hf]
        simp only [if_pos hf, fulB_yes hf] at HR
        exact key true 3 s rfl HR
      · rw [if_neg hf]
        simp only [if_neg hf, fulB_no hf] at HR
        exact key false 0 _ rfl HR
  · rw [if_neg (fun c => h3 c.1)]
    have P := find_no (gp := gp) (w := (w.alloc (.cells #[.int .i64 t0_, .int .i64 t1] 54)).alloc (.cells #[.int .i64 d0, .int .i64 d1] 54)) (t0_, t1) h3
    clear h ht hd hT h0 h1 HG HR
    go_enter Tryz.func19, Tryz.ntmps19
    go_wp2_with fail
    refine P.mono ?_
    clear P
    rintro e w1 ⟨rfl, hb⟩
    have HB : Hid (Below w.heap.size w w1) := b1.trans (hb.mono b1.size)
    clear hb b1
    go_wp2_with fail
    go_ret
    have hb := HB.out.alloc HB.out.size (.cells #[.int .i64 0, .slice none 0 0] 76)
    exact ⟨F, rfl, (grO gp most grow rb).below HJ.out hb, Tn.of hb⟩

set_option maxRecDepth 100000 in
set_option maxHeartbeats 4000000 in
theorem popG_any (h : (grO gp most grow rb).J F s w) (v : Int × Int) (hv : v.1 = 3 → 0 ≤ v.2 ∧ Alv s.T v.2.toNat) (hT : s.T.length ≤ 10000) (h1 : s.wt.length ≤ 90000) :
    Calls Tryz.prog 48 #[.pointer (some ⟨gp, 0, none⟩), .agg #[.int .i64 v.1, .int .i64 v.2]] w fun e w' => ∃ F', e = .returned (.tuple #[.agg #[.int .i64 (s.pop v).1.1, .int .i64 (s.pop v).1.2], .int .i64 (s.pop v).2.1]) ∧ (grO gp most grow rb).J F' (s.pop v).2.2 w' ∧ Tn F w F' w' := by
  obtain ⟨k, x⟩ := v
  have b1 : Below w.heap.size w ((w.alloc (.cells #[.int .i64 k, .int .i64 x] 54)).alloc (.cells #[.int .i64 0, .int .i64 0] 54)) := ((Below.refl _ _).alloc (Nat.le_refl _) _).alloc (by simp) _
  have HJ : Hid ((grO gp most grow rb).J F s w) := h
  have P : Calls Tryz.prog 41 #[.pointer (some ⟨gp, 0, none⟩), .agg #[.int .i64 k, .int .i64 x]] ((w.alloc (.cells #[.int .i64 k, .int .i64 x] 54)).alloc (.cells #[.int .i64 0, .int .i64 0] 54)) fun e w' => e = .returned (.bool (gdb s.T (k, x))) ∧ Below w.heap.size w w' ∧
      w'.heap[w.heap.size]? = some (.cells #[.int .i64 k, .int .i64 x] 54 (0, 0)) ∧ w'.heap[w.heap.size + 1]? = some (.cells #[.int .i64 0, .int .i64 0] 54 (0, 0)) := by
    obtain ⟨l, h, hrb, hF⟩ := h
    refine (isGuardianG_any (h.below b1) (k, x) hv hT).mono ?_
    rintro e w' ⟨rfl, hb⟩
    exact ⟨rfl, b1.trans (hb.mono b1.size), (hb.block w.heap.size (by simp; omega)).trans ((Below.heap_alloc _ _ _ (by simp)).trans (heap_alloc_new w _)), (hb.block (w.heap.size + 1) (by simp)).trans (alloc_snd w _ _)⟩
  have HR : Hid (∀ w1, Below w.heap.size w w1 → ∃ bp, w1.cell? ⟨gp, 5, none⟩ = some (.pointer (some ⟨bp, 0, none⟩)) ∧ Calls Tryz.prog 75 #[.pointer (some ⟨bp, 0, none⟩), .int .i64 x] w1 fun e w' => ∃ F', e = .returned (.tuple #[.int .i64 (if pqI x s.wt < s.wt.length then (s.wt.getD (pqI x s.wt) (0, 0)).2 else 0), .bool (decide (pqI x s.wt < s.wt.length))]) ∧
      (grO gp most grow rb).J F' (if pqI x s.wt < s.wt.length then { s with wt := s.wt.take (pqI x s.wt) ++ s.wt.drop (pqI x s.wt + 1) } else s) w' ∧ Tn F w1 F' w' ∧ ∀ b, b = gp ∨ (w.heap.size ≤ b ∧ b < w1.heap.size) → w'.heap[b]? = w1.heap[b]?) := fun w1 hb => by
    obtain ⟨bp, c5, P⟩ := popG ((grO gp most grow rb).below HJ.out hb) x h1
    refine ⟨bp, c5, P.mono ?_⟩
    rintro e w' ⟨F', rfl, j, t, hg⟩
    refine ⟨F', rfl, j, t, fun a ha => ?_⟩
    rcases ha with e | ⟨a1, a2⟩
    · rw [e]
      exact hg
    · exact t.fr.block _ a2 (fun c => by have := (grO gp most grow rb).lt HJ.out _ c; omega)
  unfold Wrs.pop
  cases hg : gdb s.T (k, x)
  · rw [if_neg (by decide)]
    rw [hg] at P
    clear h hv hT h1 HR hg b1
    go_enter Tryz.func48, Tryz.ntmps48
    go_wp2_with fail
    refine P.mono ?_
    clear P
    rintro e w1 ⟨rfl, hb, h4, h5⟩
    obtain ⟨e0, e1, f0, lw⟩ := two_cells h5
    have HN : Hid (_ = _) := h5
    have HB : Hid (_) := hb
    clear hb h4 h5
    go_wp2_with fail
    obtain ⟨r0, r1, _, _⟩ := two_cells (set_two (v1 := .int .i64 0) (v2 := .int .i64 0) HN.out)
    have hb : Below w.heap.size w ((w1.setCell ⟨w.heap.size + 1, 0, none⟩ (.int .i64 0)).setCell ⟨w.heap.size + 1, 1, none⟩ (.int .i64 0)) := (HB.out.setCell (by simp) _).setCell (by simp) _
    exact bodyPost_ret (v := .tuple #[.agg #[.int .i64 0, .int .i64 0], .int .i64 2]) (by simp [results, Tryz.results48, go_sem, r0, r1]) rfl ⟨F, rfl, (grO gp most grow rb).below HJ.out hb, Tn.of hb⟩
  · rw [if_pos rfl]
    rw [hg] at P
    have key : ∀ (fb : Bool) (z : Int) (s2 : Wrs), (∀ w1, Below w.heap.size w w1 → ∃ bp, w1.cell? ⟨gp, 5, none⟩ = some (.pointer (some ⟨bp, 0, none⟩)) ∧ Calls Tryz.prog 75 #[.pointer (some ⟨bp, 0, none⟩), .int .i64 x] w1 fun e w' => ∃ F', e = .returned (.tuple #[.int .i64 z, .bool fb]) ∧
        (grO gp most grow rb).J F' s2 w' ∧ Tn F w1 F' w' ∧ ∀ b, b = gp ∨ (w.heap.size ≤ b ∧ b < w1.heap.size) → w'.heap[b]? = w1.heap[b]?) →
        Calls Tryz.prog 48 #[.pointer (some ⟨gp, 0, none⟩), .agg #[.int .i64 k, .int .i64 x]] w fun e w' => ∃ F', e = .returned (.tuple #[.agg #[.int .i64 (if fb = true then 3 else 0), .int .i64 (if fb = true then z else 0)], .int .i64 (if fb = true then 0 else 4)]) ∧ (grO gp most grow rb).J F' s2 w' ∧ Tn F w F' w' := by
      intro fb z s2 HR
      have HR : Hid (∀ w1, Below w.heap.size w w1 → ∃ bp, w1.cell? ⟨gp, 5, none⟩ = some (.pointer (some ⟨bp, 0, none⟩)) ∧ Calls Tryz.prog 75 #[.pointer (some ⟨bp, 0, none⟩), .int .i64 x] w1 fun e w' => ∃ F', e = .returned (.tuple #[.int .i64 z, .bool fb]) ∧
        (grO gp most grow rb).J F' s2 w' ∧ Tn F w1 F' w' ∧ ∀ b, b = gp ∨ (w.heap.size ≤ b ∧ b < w1.heap.size) → w'.heap[b]? = w1.heap[b]?) := HR
      have HL : Hid (∀ b, F b → b < w.heap.size) := fun b hb => (grO gp most grow rb).lt h b hb
      clear h hv hT h1 hg b1
      rename_i HR1 HR2
      clear HR1 HR2
      cases fb
      all_goals
        go_enter Tryz.func48, Tryz.ntmps48
        go_wp2_with fail
        refine P.mono ?_
        clear P
        rintro e w1 ⟨rfl, hb, h4, h5⟩
        obtain ⟨_, y1, _, l1⟩ := two_cells h4
        obtain ⟨bp, c5, P3⟩ := HR.out _ hb.drew
        have c5 : w1.cell? ⟨gp, 5, none⟩ = some (.pointer (some ⟨bp, 0, none⟩)) := c5
        have HB : Hid (_) := hb
        have H5 : Hid (_ = _) := h5
        clear hb h4 h5 HR
        go_wp2_with fail
        go_region_held3 (fun w' => w'.cell? ⟨gp, 5, none⟩ = some (.pointer (some ⟨bp, 0, none⟩)) ∧ w'.cell? ⟨w.heap.size, 1, none⟩ = some (.int .i64 x)) (go_keep)
          (first | (go_at_call 75; refine P3.mono ?_; clear P3; rintro e w3 ⟨F3, rfl, j3, t3, k3⟩; have nF : ¬ F3 (w.heap.size + 1) := (fun c => (t3.sub _ c).elim (fun c => by have := HL.out _ c; omega) (fun c => by have := lt_of_some H5.out; have c : w1.heap.size ≤ _ := c; omega)); have HF : Hid ((grO gp most grow rb).J F3 s2 w3 ∧ Tn F w F3 w3 ∧ ¬ F3 (w.heap.size + 1)) := ⟨j3, (Tn.of HB.out.drew).trans t3, nF⟩; have c5' := (World.cell?_of_block (a := ⟨gp, 5, none⟩) (k3 gp (Or.inl rfl))).trans c5; have y1' := (World.cell?_of_block (a := ⟨w.heap.size, 1, none⟩) (k3 w.heap.size (Or.inr ⟨Nat.le_refl _, l1⟩))).trans y1; have H6 := (k3 (w.heap.size + 1) (Or.inr ⟨Nat.le_succ _, lt_of_some H5.out⟩)).trans H5.out; obtain ⟨e0, e1, f0, lw⟩ := two_cells H6; have HN : Hid (_ = _) := H6; clear j3 t3 c5 y1 k3 H6 nF))
        all_goals
          clear c5' y1' H5
          go_wp2_with fail
          first
            | (obtain ⟨r0, r1, _, _⟩ := two_cells (set_two (v1 := .int .i64 0) (v2 := .int .i64 0) HN.out)
               exact bodyPost_ret (v := .tuple #[.agg #[.int .i64 0, .int .i64 0], .int .i64 4]) (by simp [results, Tryz.results48, go_sem, r0, r1]) rfl ⟨rfl, F3, Ob.set2 _ HF.out.1 HF.out.2.2 _ _, HF.out.2.1.set2 (Nat.le_succ _) _ _⟩)
            | (refine (refValue_any _ _).mono ?_
               rintro e w4 ⟨rfl, hb4⟩
               have HN : Hid (_ = _) := (hb4.block _ lw).trans HN.out
               have HF : Hid ((grO gp most grow rb).J F3 s2 w4 ∧ Tn F w F3 w4 ∧ ¬ F3 (w.heap.size + 1)) := ⟨(grO gp most grow rb).below HF.out.1 hb4, HF.out.2.1.below hb4, HF.out.2.2⟩
               clear hb4 e0 e1 f0 lw
               obtain ⟨e0, e1, f0, lw⟩ := two_cells HN.out
               go_wp2_with fail
               obtain ⟨r0, r1, _, _⟩ := two_cells (set_two (v1 := .int .i64 3) (v2 := .int .i64 z) HN.out)
               exact bodyPost_ret (v := .tuple #[.agg #[.int .i64 3, .int .i64 z], .int .i64 0]) (by simp [results, Tryz.results48, go_sem, r0, r1]) rfl ⟨rfl, F3, Ob.set2 _ HF.out.1 HF.out.2.2 _ _, HF.out.2.1.set2 (Nat.le_succ _) _ _⟩)
    have HR := HR.out
    by_cases hi : pqI x s.wt < s.wt.length
    · rw [if_pos hi]
      simp only [if_pos hi, decide_eq_true hi] at HR
      exact key true _ _ HR
    · rw [if_neg hi]
      simp only [if_neg hi, decide_eq_false hi] at HR
      exact key false _ _ HR

theorem setG_any (h : (grO gp most grow rb).J F s w) (v y : Int × Int) (i : Int) (hv : v.1 = 3 → 0 ≤ v.2 ∧ Alv s.T v.2.toNat) (hT : s.T.length ≤ 10000) (h12 : ∀ i, (s.T.getD i t0).2.1.length ≤ 12) :
    Calls Tryz.prog 20 #[.pointer (some ⟨gp, 0, none⟩), .agg #[.int .i64 v.1, .int .i64 v.2], .int .i64 i, .agg #[.int .i64 y.1, .int .i64 y.2]] w fun e w' => ∃ F', e = .returned (.int .i64 (s.set v i y).1) ∧ (grO gp most grow rb).J F' (s.set v i y).2 w' ∧ Tn F w F' w' := by
  obtain ⟨l, h, hrb, hF⟩ := h
  have no : ∀ c : Int, c ≠ 0 → s.fc v i = c → (∀ w', Below w.heap.size w w' → Calls Tryz.prog 43 #[.pointer (some ⟨gp, 0, none⟩), .agg #[.int .i64 v.1, .int .i64 v.2], .int .i64 i] w' fun e w'' => e = .returned (.tuple #[.agg #[.int .i64 0, .int .i64 0], .int .i64 c]) ∧ Below w'.heap.size w' w'') →
      Calls Tryz.prog 20 #[.pointer (some ⟨gp, 0, none⟩), .agg #[.int .i64 v.1, .int .i64 v.2], .int .i64 i, .agg #[.int .i64 y.1, .int .i64 y.2]] w fun e w' => ∃ F', e = .returned (.int .i64 (s.set v i y).1) ∧ (grO gp most grow rb).J F' (s.set v i y).2 w' ∧ Tn F w F' w' := fun c hc ec P => by
    refine (setG_no v y i c hc P).mono ?_
    rintro e w' ⟨rfl, hb⟩
    unfold Wrs.set
    rw [ec, if_neg hc]
    exact ⟨F, rfl, ⟨l, h.below hb, hrb, hF⟩, Tn.of hb⟩
  by_cases hf : v.1 = 3 ∧ (s.T.getD v.2.toNat t0).1 ≠ 5
  · obtain ⟨h3, h5⟩ := hf
    have hd : fdb s.T v = true := fdb_iff.2 ⟨h3, h5⟩
    have hx := hv h3
    clear hv
    obtain ⟨k, x⟩ := v
    dsimp only at h3 h5 hx no ⊢
    subst h3
    by_cases hi : i < 0 ∨ ((s.T.getD x.toNat t0).2.1.length : Int) ≤ i
    · exact no 1 (by decide) (by unfold Wrs.fc; rw [if_pos hd, if_pos hi]) (fun w' hb => getG_no1 (h.below hb) x i hx hT h5 hi)
    · have ec : s.fc (3, x) i = 0 := by unfold Wrs.fc; rw [if_pos hd, if_neg hi]
      obtain ⟨n, rfl⟩ := Int.eq_ofNat_of_zero_le (a := i) (by omega)
      have hn : n < (s.T.getD x.toNat t0).2.1.length := by omega
      refine (setG_yes h x n y hx hT h5 hn (Nat.lt_of_lt_of_le hn (h12 _))).mono ?_
      rintro e w' ⟨rfl, g, fr⟩
      unfold Wrs.set
      rw [ec, if_pos rfl]
      exact ⟨F, rfl, ⟨l, g, hrb, hF⟩, fr.mono (fun b hb => (hF b).2 hb), fun b hb => Or.inl hb⟩
  · exact no 2 (by decide) (by
      unfold Wrs.fc
      rw [if_neg (fun c => hf (fdb_iff.1 c))]) (fun w' hb => getG_no2 (h.below hb) v i hv hT (fun h3 => Classical.byContradiction (fun c => hf ⟨h3, c⟩)))
end

end Go.Proofs.YtogknhogphkddaaGreat

/- Sums over things, in whatever order. -/
namespace Go.Proofs.YtogknhogphkddaaGreat
open Go.RowKit W Kp Stl

def sm_ (f : Nat → Int) : Nat → Int
  | 0 => 0
  | n + 1 => sm_ f n + f n
theorem sm_congr {f g : Nat → Int} : ∀ n, (∀ i, i < n → f i = g i) → sm_ f n = sm_ g n
  | 0, _ => rfl
  | n + 1, h => by rw [sm_, sm_, sm_congr n (fun i hi => h i (by omega)), h n (by omega)]
theorem sm_zero : ∀ n, sm_ (fun _ => 0) n = 0
  | 0 => rfl
  | n + 1 => by rw [sm_, sm_zero n]; rfl
theorem sm_step {f g : Nat → Int} {k : Nat} (hne : ∀ i, i ≠ k → f i = g i) : ∀ n, k < n → sm_ g n = sm_ f n + (g k - f k)
  | 0, h => by omega
  | n + 1, h => by
    rw [sm_, sm_]
    by_cases e : k = n
    · subst e
      rw [sm_congr k (fun i hi => hne i (by omega))]
      omega
    · rw [sm_step hne n (by omega), hne n (by omega)]
      omega
theorem sm_bd {f : Nat → Int} (h : ∀ i, 0 ≤ f i ∧ f i ≤ 13) : ∀ n, 0 ≤ sm_ f n ∧ sm_ f n ≤ 13 * n
  | 0 => ⟨Int.le_refl _, Int.le_refl _⟩
  | n + 1 => by
    have h1 := sm_bd h n
    have h2 := h n
    rw [sm_]
    omega
def ywd (T : List Tw1) (i : Nat) : Int := if (T.getD i t0).2.2.2 = true then 0 else if (T.getD i t0).2.2.1 = true then 0 else 1 + (T.getD i t0).2.1.length
def owd (T : List Tw1) (i : Nat) : Int := if (T.getD i t0).2.2.2 = true then 0 else if (T.getD i t0).2.2.1 = true then 1 + (T.getD i t0).2.1.length else 0
theorem usd_sm (T : List Tw1) : usd T = (sm_ (ywd T) T.length, sm_ (owd T) T.length) := by
  have key : ∀ n, n ≤ T.length → usd (T.take n) = (sm_ (ywd T) n, sm_ (owd T) n) := fun n => by
    induction n with
    | zero => intro _; rfl
    | succ n ih =>
      intro hn
      have e : T.take (n + 1) = T.take n ++ [T.getD n t0] := by
        rw [List.take_add_one, List.getD_eq_getElem?_getD, List.getElem?_eq_getElem (by omega)]
        rfl
      rw [e, usd_snoc, ih (by omega), sm_, sm_]
      unfold usP ywd owd
      split
      · simp
      · split
        · simp
        · simp
  have := key T.length (Nat.le_refl _)
  rwa [List.take_of_length_le (Nat.le_refl _)] at this
theorem cwn_sm (T : List Tw1) (L : List Bool) : ∀ n, cwn T L n = sm_ (fun i => if L.getD i false = true then 1 + (T.getD i t0).2.1.length else 0) n
  | 0 => rfl
  | n + 1 => by
    rw [sm_, ← cwn_sm T L n, cwn]
    split <;> simp
def upl (left : Int → Bool) (f : Nat → Int) (i : Nat) : Int := if left i = true then 0 else f i
theorem upl_step (left : Int → Bool) (f : Nat → Int) (k n : Nat) (hk : k < n) (hl : left k = true) : sm_ (upl (fun y => left y && !(y == (k : Int))) f) n = sm_ (upl left f) n + f k := by
  have h := sm_step (f := upl left f) (g := upl (fun y => left y && !(y == (k : Int))) f) (k := k) (fun i hi => by
    unfold upl
    have : ((i : Int) == (k : Int)) = false := by simp; omega
    simp [this]) n hk
  rw [h]
  unfold upl
  rw [if_pos hl, if_neg (by simp)]
  omega
theorem upl_bd {f : Nat → Int} (left : Int → Bool) (h : ∀ i, 0 ≤ f i ∧ f i ≤ 13) (n : Nat) : 0 ≤ sm_ (upl left f) n ∧ sm_ (upl left f) n ≤ 13 * n := sm_bd (fun i => by
  unfold upl
  split
  · omega
  · exact h i) n

end Go.Proofs.YtogknhogphkddaaGreat

/- A grove in memory: Used: a contract. -/
namespace Go.Proofs.YtogknhogphkddaaGreat
open Go.RowKit W Kp Stl

set_option maxRecDepth 100000 in
set_option maxHeartbeats 2000000 in
theorem wordsG_any (k : Int) (ad : Option Addr) (n cp : Nat) (hn : n ≤ 100000) (w : World) : Calls Tryz.prog 31 #[.agg #[.int .i64 k, .slice ad n cp]] w fun e w' => e = .returned (.int .i64 (1 + n)) ∧ Below w.heap.size w w' := by
  go_enter Tryz.func31, Tryz.ntmps31
  go_wp2_with fail
  go_ret
  exact ⟨rfl, (Below.refl _ _).alloc (Nat.le_refl _) _⟩

set_option maxRecDepth 100000 in
set_option maxHeartbeats 2000000 in
theorem isOldG_any {w : World} {gp ag : Nat} (c4 : w.cell? ⟨gp, 4, none⟩ = some (.int .i64 ag)) (x : Int) : Calls Tryz.prog 30 #[.pointer (some ⟨gp, 0, none⟩), .int .i64 x] w fun e w' => e = .returned (.bool (decide (x < ag))) ∧ w' = w := by
  go_enter Tryz.func30, Tryz.ntmps30
  go_wp2_with fail
  go_ret
  exact ⟨rfl, rfl⟩

section
variable {gp : Nat} {most grow : Int} {l : Gl} {s : Wrs} {w : World}

set_option maxRecDepth 100000 in
set_option maxHeartbeats 4000000 in
theorem usedG_any (h : Gvy gp most grow l s w) (h12 : ∀ i, (s.T.getD i t0).2.1.length ≤ 12) (hT : s.T.length ≤ 10000) :
    Calls Tryz.prog 10 #[.pointer (some ⟨gp, 0, none⟩)] w fun e w' => e = .returned (.tuple #[.int .i64 (usd s.T).1, .int .i64 (usd s.T).2]) ∧ Below w.heap.size w w' := by
  rw [usd_sm]
  dsimp only
  obtain ⟨_, _, c2, _, c4, _, _, _, lg⟩ := h.cells
  obtain ⟨w1, cnt, hrun, hR, gr, sz⟩ := h.g2.mp.range (t := 47) (e := 76) Tryz.underlying47
  have yb : ∀ i, 0 ≤ ywd s.T i ∧ ywd s.T i ≤ 13 := fun i => by
    have := h12 i
    unfold ywd
    split
    · omega
    · split
      · omega
      · omega
  have ob : ∀ i, 0 ≤ owd s.T i ∧ owd s.T i ≤ 13 := fun i => by
    have := h12 i
    unfold owd
    split
    · omega
    · split
      · omega
      · omega
  have HB : Hid ((∀ i, 0 ≤ ywd s.T i ∧ ywd s.T i ≤ 13) ∧ (∀ i, 0 ≤ owd s.T i ∧ owd s.T i ≤ 13) ∧ ∀ i, (s.T.getD i t0).2.1.length ≤ 12) := ⟨yb, ob, h12⟩
  have z : ∀ f : Nat → Int, (∀ i, (s.T.getD i t0).2.2.2 = true → f i = 0) → sm_ (upl (fun x => (gvF s.T l.fm x).isSome) f) s.T.length = 0 := fun f hf => by
    rw [← sm_zero s.T.length]
    refine sm_congr _ (fun i hi => ?_)
    unfold upl
    by_cases ha : Alv s.T i
    · exact if_pos (by dsimp only; rw [gvF_yes ⟨by omega, by simpa using ha⟩]; rfl)
    · refine (if_neg (by dsimp only; rw [gvF_no (fun c => ha (by simpa using c.2))]; simp)).trans (hf i ?_)
      cases e : (s.T.getD i t0).2.2.2
      · exact absurd ⟨hi, e⟩ ha
      · rfl
  have z1 := z (ywd s.T) (fun i e => by unfold ywd; rw [if_pos e])
  have z2 := z (owd s.T) (fun i e => by unfold owd; rw [if_pos e])
  have HS : Hid (Below w.heap.size w w1 ∧ Rgm w1 l.mb w.heap.size l.n (gvF s.T l.fm) (fun x => (gvF s.T l.fm x).isSome) cnt ∧ sm_ (upl (fun x => (gvF s.T l.fm x).isSome) (ywd s.T)) s.T.length = 0 ∧ sm_ (upl (fun x => (gvF s.T l.fm x).isSome) (owd s.T)) s.T.length = 0) := ⟨(Below.refl _ _).grown gr (Nat.le_refl _) (fun j hj => by cases hj), hR, z1, z2⟩
  have HG : Hid (Gvy gp most grow l s w) := h
  clear h yb ob h12 hR gr z z1 z2
  go_enter Tryz.func10, Tryz.ntmps10
  go_wp2_with fail
  go_loopw [4, 5] (fun y o wr => ∃ (left : Int → Bool) (c : Nat), y = .int .i64 (sm_ (upl left (ywd s.T)) s.T.length) ∧ o = .int .i64 (sm_ (upl left (owd s.T)) s.T.length) ∧ Rgm wr l.mb w.heap.size l.n (gvF s.T l.fm) left c ∧ Below w.heap.size w wr) (fun _ _ wr => wr.rangeLeft l.mb w.heap.size)
  case atStart =>
    obtain ⟨b, r, z1, z2⟩ := HS.out
    exact ⟨_, cnt, by rw [z1], by rw [z2], r, b⟩
  case round =>
    clear HS hrun
    obtain ⟨left, c, rfl, rfl, hR, hb⟩ := hrel
    have mb := upl_bd left HB.out.1 s.T.length
    have nb := upl_bd left HB.out.2.1 s.T.length
    rcases hR.next 0 with ⟨h0, hl, hrun⟩ | ⟨x, v, w2, c2_, hlx, hfx, hrun, hR2, hlt, gr2, sz2, hen⟩
    · have e1 : sm_ (upl left (ywd s.T)) s.T.length = sm_ (ywd s.T) s.T.length := sm_congr _ (fun i _ => by unfold upl; rw [hl, if_neg (by decide)])
      have e2 : sm_ (upl left (owd s.T)) s.T.length = sm_ (owd s.T) s.T.length := sm_congr _ (fun i _ => by unfold upl; rw [hl, if_neg (by decide)])
      rw [e1, e2]
      have HF : Hid (Below w.heap.size w wr) := hb
      clear hb hR hl
      go_wp2_with fail
      go_ret2
      exact ⟨rfl, HF.out⟩
    · have hxa : 0 ≤ x ∧ Alv s.T x.toNat := by
        by_cases c : 0 ≤ x ∧ Alv s.T x.toNat
        · exact c
        · rw [gvF_no c] at hfx
          cases hfx
      obtain ⟨i, rfl⟩ := Int.eq_ofNat_of_zero_le hxa.1
      have hia : Alv s.T i := by simpa using hxa.2
      rw [gvF_yes hxa] at hfx
      have hv := (Option.some.inj hfx).symm
      dsimp only [thV, fsV] at hv
      rw [Int.toNat_natCast] at hv
      subst hv
      have s1 := upl_step left (ywd s.T) i s.T.length hia.1 hlx
      have s2 := upl_step left (owd s.T) i s.T.length hia.1 hlx
      have mb2 := upl_bd (fun y => left y && !(y == (i : Int))) HB.out.1 s.T.length
      have nb2 := upl_bd (fun y => left y && !(y == (i : Int))) HB.out.2.1 s.T.length
      have l12 := HB.out.2.2 i
      have hag := HG.out.g2.ag i hia
      have b2 : Below w.heap.size w w2 := hb.grown gr2 hb.size (fun j hj => by cases hj; exact Nat.le_refl _)
      have b3 := b2.alloc b2.size (.cells #[.int .i64 (s.T.getD i t0).1, .slice (l.fm i).1 (s.T.getD i t0).2.1.length (l.fm i).2] 76)
      have d4 := (b3.cell (p := ⟨gp, 4, none⟩) lg).trans c4
      have P := isOldG_any d4 i
      have HE : Hid (∀ w3, Below (w2.alloc (.cells #[.int .i64 (s.T.getD i t0).1, .slice (l.fm i).1 (s.T.getD i t0).2.1.length (l.fm i).2] 76)).heap.size (w2.alloc (.cells #[.int .i64 (s.T.getD i t0).1, .slice (l.fm i).1 (s.T.getD i t0).2.1.length (l.fm i).2] 76)) w3 → Rgm w3 l.mb w.heap.size l.n (gvF s.T l.fm) (fun y => left y && !(y == (i : Int))) c2_ ∧ Below w.heap.size w w3 ∧ c2_ < c) := fun w3 hb3 => by
        have l1 := hR2.mh.lt
        have l2 := hR2.lt
        exact ⟨hR2.same ((hb3.block _ (by simp; omega)).trans (Below.heap_alloc _ _ _ l1)) ((hb3.block _ (by simp; omega)).trans (Below.heap_alloc _ _ _ l2)), b3.trans (hb3.mono b3.size), hlt⟩
      have HL : Hid (wr.rangeLeft l.mb w.heap.size = c) := hR.left_eq
      have W : Hid (∀ w, Calls Tryz.prog 31 #[.agg #[.int .i64 (s.T.getD i t0).1, .slice (l.fm i).1 (s.T.getD i t0).2.1.length (l.fm i).2]] w fun e w' => e = .returned (.int .i64 (1 + (s.T.getD i t0).2.1.length)) ∧ Below w.heap.size w w') := fun w => wordsG_any _ _ _ _ (by omega) w
      have y1 : ywd s.T i = if i < l.ag then 0 else 1 + ((s.T.getD i t0).2.1.length : Int) := by
        unfold ywd
        rw [hia.2, hag]
        simp
      have o1 : owd s.T i = if i < l.ag then 1 + ((s.T.getD i t0).2.1.length : Int) else 0 := by
        unfold owd
        rw [hia.2, hag]
        simp
      rw [y1] at s1
      rw [o1] at s2
      have S12 : Hid (_ ∧ _) := ⟨s1, s2⟩
      clear hR hb hlx hfx hR2 gr2 hxa b2 b3 hag y1 o1 hia s1 s2
      generalize sm_ (upl left (ywd s.T)) s.T.length = Y at *
      generalize sm_ (upl left (owd s.T)) s.T.length = O at *
      generalize (s.T.getD i t0).2.1.length = n at *
      generalize (s.T.getD i t0).1 = kd at *
      generalize (l.fm i).1 = ad at *
      generalize (l.fm i).2 = cp at *
      by_cases ho : i < l.ag
      · have e1 : decide ((i : Int) < (l.ag : Int)) = true := by simp; exact ho
        rw [e1] at P
        rw [if_pos ho, if_pos ho] at S12
        go_wp2_with fail
        refine P.mono ?_
        clear P
        rintro e w3 ⟨rfl, rfl⟩
        have P2 := W.out (w2.alloc (.cells #[.int .i64 kd, .slice ad n cp] 76))
        go_wp2_with fail
        refine P2.mono ?_
        clear P2
        rintro e w4 ⟨rfl, hb4⟩
        have HF : Hid (_ ∧ _) := HE.out w4 hb4
        clear hb4 HE d4
        go_wp2_with fail
        go_roundw
        case rel => exact ⟨_, c2_, by rw [S12.out.1]; simp, by rw [S12.out.2], HF.out.1, HF.out.2.1⟩
        case measure => rw [HF.out.1.left_eq, HL.out]; exact HF.out.2.2
      · have e1 : decide ((i : Int) < (l.ag : Int)) = false := by simp; omega
        rw [e1] at P
        rw [if_neg ho, if_neg ho] at S12
        go_wp2_with fail
        refine P.mono ?_
        clear P
        rintro e w3 ⟨rfl, rfl⟩
        have P2 := W.out (w2.alloc (.cells #[.int .i64 kd, .slice ad n cp] 76))
        go_wp2_with fail
        refine P2.mono ?_
        clear P2
        rintro e w4 ⟨rfl, hb4⟩
        have HF : Hid (_ ∧ _) := HE.out w4 hb4
        clear hb4 HE d4
        go_wp2_with fail
        go_roundw
        case rel => exact ⟨_, c2_, by rw [S12.out.1], by rw [S12.out.2]; simp, HF.out.1, HF.out.2.1⟩
        case measure => rw [HF.out.1.left_eq, HL.out]; exact HF.out.2.2
end

end Go.Proofs.YtogknhogphkddaaGreat
