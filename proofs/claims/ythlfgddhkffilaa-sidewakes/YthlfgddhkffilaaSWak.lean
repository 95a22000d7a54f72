/- SideWakes: its walk. -/
import Derived.Test.YthlfgddhkffilaaSWR2
import Derived.Test.YthlfgddhkffilaaSdd
namespace Go.Proofs.Ythlfgddhkffilaa.SWak
open Go.RowKit W Kp Stl

set_option maxRecDepth 100000 in
set_option maxHeartbeats 4000000 in
theorem walk (a0 a1 a2 : Option Addr) (c0 c1 c2 : Nat) (q : List En) (A : List Int) (L : List En) (w : World) (h0 : Li w a0 q c0) (h1 : Lw w a1 A c1) (h2 : Li w a2 L c2) :
    Calls Try.prog 14 #[.slice a0 q.length c0, .slice a1 A.length c1, .slice a2 L.length c2] w fun e w' => e = .returned (.bool true) ∧ Below w.heap.size w w' := by
  obtain ⟨i0, hi, hz0, hz1, hz2⟩ := info_parts infoEn
  have H0 : Hid (Li w a0 q c0) := h0
  have H1 : Hid (Lw w a1 A c1) := h1
  have H2 : Hid (Li w a2 L c2) := h2
  clear h0 h1 h2
  go_enter Try.func14, Try.ntmps14
  go_wp2_with fail
  refine (sideBegun_any w).mono ?_
  rintro e w1 ⟨rfl, hb1⟩
  go_wp2_with fail
  by_cases hg : q.length ≤ 60 ∧ A.length ≤ 100 ∧ L.length ≤ 100
  · obtain ⟨g1, g2, g3⟩ := hg
    have P := great_any none a0 a1 a2 0 q.length A.length L.length 0 c0 c1 c2 w1
    rw [show (decide ((60 : Int) < (0 : Nat)) || decide ((60 : Int) < q.length) || decide ((100 : Int) < A.length) || decide ((100 : Int) < L.length)) = false by rw [decide_eq_false (by omega), decide_eq_false (by omega), decide_eq_false (by omega), decide_eq_false (by omega)]; rfl] at P
    refine P.mono ?_
    clear P
    rintro e w1' ⟨rfl, hw⟩
    have hw := hw.symm
    subst hw
    go_wp2_with fail
    refine (small_any none a0 a1 a2 [] q A.length L.length 0 c0 c1 c2 w1 (by simp) g1 (fun h => by simp at h) (H0.out.lp.below hb1)).mono ?_
    rintro e w1' ⟨rfl, hw⟩
    have hw := hw.symm
    subst hw
    cases hs : smB [] q
    · go_wp2_with fail
      go_ret
      exact ⟨rfl, hb1⟩
    · obtain ⟨_, s1⟩ := smB_yes hs
      have SQ : Hid (Smw q) := s1
      clear hs s1
      have hba := (Below.refl w1.heap.size w1).alloc (Nat.le_refl _) (.cells #[.slice none 0 0, .slice none 0 0] 82)
      have kp0 := heap_alloc_new w1 (.cells #[.slice none 0 0, .slice none 0 0] 82)
      go_wp2_with (at_builtin; refine wpList_append_src _ rfl _ _ 80 rfl w1.heap.size 84 i0 (.agg #[.int .i64 0, .int .i64 0]) 2 16 Try.underlying80 hi hz0 hz1 hz2 rfl (by decide) (.slice none 0 0) 0 [] rfl (World.ownsRow_nil _ _ _ _) a0 q.length c0 (ev q) rfl (ev_length q) H0.out.nil ((H0.out.lp.below hb1).below hba).cells (ev_one q) (by unfold maxLen; omega) (by omega) (by simp) ?_; intro aq cq w2 hoq hgq _; rw [Nat.zero_add, List.nil_append] at hoq; have hp2 := (hgq.block w1.heap.size (by simp) (by simp [Value.ownBlock])).trans kp0; have d2 : w2.cell? ⟨w1.heap.size, 1, none⟩ = some (.slice none 0 0) := (by simp [World.cell?, hp2]); have f2 : w2.frozen? ⟨w1.heap.size, 1, none⟩ = false := (by simp [World.frozen?, hp2]))
      have hp3 := set_snd (v := .slice aq q.length cq) hp2
      have sz3 : (w2.setCell ⟨w1.heap.size, 1, none⟩ (.slice aq q.length cq)).heap.size = w2.heap.size := by simp [World.setCell]
      have hr3 := row_keep (w' := w2.setCell ⟨w1.heap.size, 1, none⟩ (.slice aq q.length cq)) hoq (fun k e => Below.heap_setCell _ _ _ _ (fun e' => by
        obtain ⟨cur, hc⟩ := row_type hoq k e
        rw [e', hp2] at hc
        simp at hc))
      have hb3 : Below w1.heap.size w1 (w2.setCell ⟨w1.heap.size, 1, none⟩ (.slice aq q.length cq)) := ((Fr.of (X := fun k => k = w1.heap.size) (hba.grown hgq (by simp) (fun k e => by simp [Value.ownBlock] at e))).set w1.heap.size 1 _ rfl).below (Nat.le_refl _) (fun x e => by have e : x = w1.heap.size := e; omega)
      clear hba kp0 hoq hgq hp2 d2 f2
      generalize w2.setCell ⟨w1.heap.size, 1, none⟩ (.slice aq q.length cq) = w3 at hp3 sz3 hr3 hb3 ⊢
      generalize w2.heap.size = c at sz3 ⊢
      subst sz3
      have hs3 := hb3.size
      have lp3 := lt_of_some hp3
      have hb7 : Below w3.heap.size w3 (((w3.alloc (.cells #[.slice none 0 0, .slice none 0 0] 100)).alloc (.cells #[.slice none 0 0, .slice none 0 0] 100)).alloc (.cells #[.pointer (some ⟨w3.heap.size, 0, none⟩)] 98)) := (((Below.refl _ w3).alloc (Nat.le_refl _) _).alloc (by simp) _).alloc (by simp; omega) _
      have s7 : (((w3.alloc (.cells #[.slice none 0 0, .slice none 0 0] 100)).alloc (.cells #[.slice none 0 0, .slice none 0 0] 100)).alloc (.cells #[.pointer (some ⟨w3.heap.size, 0, none⟩)] 98)).heap.size = w3.heap.size + 3 := by simp
      have kc : (((w3.alloc (.cells #[.slice none 0 0, .slice none 0 0] 100)).alloc (.cells #[.slice none 0 0, .slice none 0 0] 100)).alloc (.cells #[.pointer (some ⟨w3.heap.size, 0, none⟩)] 98)).heap[w3.heap.size]? = some (.cells #[.slice none 0 0, .slice none 0 0] 100 (0, 0)) := ((Below.heap_alloc _ _ _ (by simp; omega)).trans (Below.heap_alloc _ _ _ (by simp))).trans (heap_alloc_new _ _)
      have kv : (((w3.alloc (.cells #[.slice none 0 0, .slice none 0 0] 100)).alloc (.cells #[.slice none 0 0, .slice none 0 0] 100)).alloc (.cells #[.pointer (some ⟨w3.heap.size, 0, none⟩)] 98)).heap[w3.heap.size + 1]? = some (.cells #[.slice none 0 0, .slice none 0 0] 100 (0, 0)) := (Below.heap_alloc _ _ _ (by simp)).trans (by simpa using heap_alloc_new (w3.alloc (.cells #[.slice none 0 0, .slice none 0 0] 100)) (.cells #[.slice none 0 0, .slice none 0 0] 100))
      have kb : (((w3.alloc (.cells #[.slice none 0 0, .slice none 0 0] 100)).alloc (.cells #[.slice none 0 0, .slice none 0 0] 100)).alloc (.cells #[.pointer (some ⟨w3.heap.size, 0, none⟩)] 98)).heap[w3.heap.size + 1 + 1]? = some (.cells #[.pointer (some ⟨w3.heap.size, 0, none⟩)] 98 (0, 0)) := by simpa using heap_alloc_new ((w3.alloc (.cells #[.slice none 0 0, .slice none 0 0] 100)).alloc (.cells #[.slice none 0 0, .slice none 0 0] 100)) (.cells #[.pointer (some ⟨w3.heap.size, 0, none⟩)] 98)
      generalize ((w3.alloc (.cells #[.slice none 0 0, .slice none 0 0] 100)).alloc (.cells #[.slice none 0 0, .slice none 0 0] 100)).alloc (.cells #[.pointer (some ⟨w3.heap.size, 0, none⟩)] 98) = w7 at hb7 s7 kc kv kb ⊢
      have hb17 : Below w1.heap.size w1 w7 := hb3.trans (hb7.mono hs3)
      have hp7 := (hb7.block _ lp3).trans hp3
      have hr7 := row_keep hr3 (fun k e => hb7.block k (row_lt hr3 k e).2)
      have lr3 : ∀ k, some k = (Value.slice aq q.length cq).ownBlock → k < w3.heap.size ∧ w1.heap.size ≤ k := fun k e => ⟨(row_lt hr3 k e).2, (row_lt hr3 k e).1⟩
      refine r8_wp (c := w3.heap.size) (v := w3.heap.size + 1) (bw := w3.heap.size + 1 + 1) ⟨(H1.out.ls.below hb1).below hb17, H1.out.le, H1.out.nil⟩ g2 kc kv (by omega) kb ?_
      intro v45 v46 v47 v48 v49 v50 v51 v52 v53 v54 v55 v56 v57 v58 v59 v60 v61 v62 aR aQ cR cQ m w8 t1 t2 t3 t4 t5 t6 t7
      have hs8 := t7.size
      have hb18 : Below w1.heap.size w1 w8 := hb17.trans (t7.below hb17.size (fun x e => by rcases e with e | e <;> omega))
      have kb8 := (t7.block (w3.heap.size + 1 + 1) (by omega) (fun e => by rcases e with e | e <;> omega)).trans kb
      have k8 : ∀ k, k < w3.heap.size → w8.heap[k]? = w7.heap[k]? := fun k hk => t7.block k (by omega) (fun e => by rcases e with e | e <;> omega)
      go_upto_region 9 with fail
      refine r9_wp (c := w3.heap.size) (v := w3.heap.size + 1) (bw := w3.heap.size + 1 + 1) ((H2.out.below hb1).below hb18) g3 t1 t2 (by omega) kb8 ?_
      intro v63 v64 v65 v66 v67 v68 v69 v70 v71 v72 v73 v74 v75 v76 v77 v78 v79 v80 aR2 aQ2 cR2 cQ2 m2 w9 u1 u2 u3 u4 u5 u6 u7
      have hs9 := u7.size
      have hb19 : Below w1.heap.size w1 w9 := hb18.trans (u7.below hb18.size (fun x e => by rcases e with e | e <;> omega))
      have kb9 := (u7.block (w3.heap.size + 1 + 1) (by omega) (fun e => by rcases e with e | e <;> omega)).trans kb8
      have k9 : ∀ k, k < w3.heap.size → w9.heap[k]? = w7.heap[k]? := fun k hk => (u7.block k (by omega) (fun e => by rcases e with e | e <;> omega)).trans (k8 k hk)
      have hp9 := (k9 _ lp3).trans hp7
      have hr9 := row_keep hr7 (fun k e => k9 k (lr3 k e).1)
      have lR : ∀ k, some k = (Value.slice aR A.length cR).ownBlock → w7.heap.size ≤ k ∧ k < m ∧ k < w8.heap.size := fun k e => ⟨(row_lt t3 k e).1, t5 k e, (row_lt t3 k e).2⟩
      have lQ : ∀ k, some k = (Value.slice aQ A.length cQ).ownBlock → m ≤ k ∧ k < w8.heap.size := fun k e => ⟨(row_lt t4 k e).1, (row_lt t4 k e).2⟩
      have lR2 : ∀ k, some k = (Value.slice aR2 L.length cR2).ownBlock → w8.heap.size ≤ k ∧ k < m2 := fun k e => ⟨(row_lt u3 k e).1, u5 k e⟩
      have lQ2 : ∀ k, some k = (Value.slice aQ2 L.length cQ2).ownBlock → m2 ≤ k := fun k e => (row_lt u4 k e).1
      have r1 := row_keep t3 (fun k e => u7.block k (lR k e).2.2 (fun e' => by have := lR k e; rcases e' with e' | e' <;> omega))
      have r2 := row_keep t4 (fun k e => u7.block k (lQ k e).2 (fun e' => by have := lQ k e; rcases e' with e' | e' <;> omega))
      have m1 := mu_len L A
      have m3 := out_len (wordsX q) A
      rw [wordsX_len] at m3
      obtain ⟨F, Fv, hJ, hWv, hdis, hFb, hFvb⟩ : ∃ F Fv : Nat → Prop, (mkSd (wdOb w3.heap.size (w3.heap.size + 1 + 1) L (wordsX q)) w1.heap.size (.slice none 0 0)).J F (A, q) w9 ∧ Wd w9 Fv (w3.heap.size + 1) A L ∧ (∀ k, F k → ¬ Fv k) ∧ (∀ k, F k → w1.heap.size ≤ k) ∧ (∀ k, Fv k → w1.heap.size ≤ k) := by
        have hWw : Wd w9 (fun x => x = w3.heap.size ∨ some x = (Value.slice aR A.length cR).ownBlock ∨ some x = (Value.slice aR2 L.length cR2).ownBlock) w3.heap.size A L :=
          ⟨⟨aR, cR, aR2, cR2, u1, row_base r1 (fun _ _ => Nat.zero_le _), row_base u3 (fun _ _ => Nat.zero_le _), fun x e => Or.inr (Or.inl e), fun x e => Or.inr (Or.inr e)⟩, Or.inl rfl, fun x e => by
            rcases e with e | e | e
            · rw [e]; exact lt_of_some u1
            · exact (row_lt r1 x e).2
            · exact (row_lt u3 x e).2⟩
        refine ⟨fun x => ((x = w3.heap.size ∨ some x = (Value.slice aR A.length cR).ownBlock ∨ some x = (Value.slice aR2 L.length cR2).ownBlock) ∨ x = w3.heap.size + 1 + 1) ∨ x = w1.heap.size ∨ some x = (Value.slice aq q.length cq).ownBlock, fun x => x = w3.heap.size + 1 ∨ some x = (Value.slice aQ A.length cQ).ownBlock ∨ some x = (Value.slice aQ2 L.length cQ2).ownBlock,
          ⟨fun x => (x = w3.heap.size ∨ some x = (Value.slice aR A.length cR).ownBlock ∨ some x = (Value.slice aR2 L.length cR2).ownBlock) ∨ x = w3.heap.size + 1 + 1, aq, cq, ⟨_, hWw, kb9, fun h => ?_, fun _ => Iff.rfl, by show A.length + mu L A + out (wordsX q) A ≤ 20000; omega⟩, hp9, row_base hr9 (fun _ _ => Nat.zero_le _), fun x h => Or.inl h, Or.inr (Or.inl rfl), fun h => ?_, fun x e => ⟨Or.inr (Or.inr e), fun h => ?_⟩, fun x h => ?_⟩,
          ⟨⟨aQ, cQ, aQ2, cQ2, u2, row_base r2 (fun _ _ => Nat.zero_le _), row_base u4 (fun _ _ => Nat.zero_le _), fun x e => Or.inr (Or.inl e), fun x e => Or.inr (Or.inr e)⟩, Or.inl rfl, fun x e => ?_⟩, fun x h h' => ?_, fun x h => ?_, fun x h => ?_⟩
        · rcases h with h | h | h
          · omega
          · have := lR _ h; omega
          · have := lR2 _ h; omega
        · rcases h with (h | h | h) | h
          · omega
          · have := lR _ h; omega
          · have := lR2 _ h; omega
          · omega
        · have l9 := lr3 x e
          rcases h with (h | h | h) | h
          · omega
          · have := lR _ h; omega
          · have := lR2 _ h; omega
          · omega
        · rcases h with (h | h) | h | h
          · exact hWw.lt x h
          · rw [h]; exact lt_of_some kb9
          · rw [h]; exact lt_of_some hp9
          · exact (row_lt hr9 x h).2
        · rcases e with e | e | e
          · rw [e]; exact lt_of_some u2
          · exact (row_lt r2 x e).2
          · exact (row_lt u4 x e).2
        · rcases h with ((h | h | h) | h) | h | h
          · rcases h' with h' | h' | h'
            · omega
            · have := lQ _ h'; omega
            · have := lQ2 _ h'; omega
          · have := lR _ h
            rcases h' with h' | h' | h'
            · omega
            · have := lQ _ h'; omega
            · have := lQ2 _ h'; omega
          · have := lR2 _ h
            rcases h' with h' | h' | h'
            · omega
            · have := lQ _ h'; omega
            · have := lQ2 _ h'; omega
          · rcases h' with h' | h' | h'
            · omega
            · have := lQ _ h'; omega
            · have := lQ2 _ h'; omega
          · rcases h' with h' | h' | h'
            · omega
            · have := lQ _ h'; omega
            · have := lQ2 _ h'; omega
          · have := lr3 _ h
            rcases h' with h' | h' | h'
            · omega
            · have := lQ _ h'; omega
            · have := lQ2 _ h'; omega
        · rcases h with ((h | h | h) | h) | h | h
          · omega
          · have := lR _ h; omega
          · have := lR2 _ h; omega
          · omega
          · omega
          · have := lr3 _ h; omega
        · rcases h with h | h | h
          · omega
          · have := lQ _ h; omega
          · have := lQ2 _ h; omega
      generalize w3.heap.size + 1 + 1 = bw at hJ ⊢
      generalize w3.heap.size + 1 = v at hWv ⊢
      generalize w3.heap.size = c at hJ ⊢
      obtain ⟨B, hB⟩ : ∃ B, B = w1.heap.size := ⟨_, rfl⟩
      have HBe : Hid (B = w1.heap.size) := hB
      have HB9 : Hid (Below B w1 w9) := by rw [hB]; exact hb19
      have hB1 : w.heap.size ≤ B := by rw [hB]; exact hb1.size
      rw [← hB] at hJ hFb hFvb
      rw [← hB]
      clear hB t1 t2 t3 t4 t5 t6 t7 u1 u2 u3 u4 u5 u6 u7 r1 r2 m1 m3 lR lQ lR2 lQ2 hp9 hr9 k9 kb9 hb19 hs9 k8 kb8 hb18 hs8 lr3 hr7 hp7 hb17 kb kv kc s7 hb7 lp3 hs3 hb3 hr3 hp3 H0 H1 H2
      go_wp2_with fail
      go_loopw [12] (fun iv wr => ∃ (n : Nat) (A' : List Int) (q' : List En) (F Fv : Nat → Prop), iv = .int .i64 n ∧ Hid ((mkSd (wdOb c bw L (wordsX q)) B (.slice none 0 0)).J F (A', q') wr) ∧ Hid (Wd wr Fv v A' L) ∧ Hid (Of0 q q') ∧ q'.length = q.length ∧ und q' + n ≤ q.length ∧ Hid (Below B w1 wr) ∧ Hid (∀ k, F k → ¬ Fv k) ∧ Hid (∀ k, F k → B ≤ k) ∧ Hid (∀ k, Fv k → B ≤ k)) (fun iv _ => q.length + 1 - (intOf iv).toNat)
      case atStart => exact ⟨0, A, q, F, Fv, rfl, hJ, hWv, Of0.refl q, rfl, by have := und_le q; omega, HB9, hdis, hFb, hFvb⟩
      case round =>
        clear hJ hWv hdis hFb hFvb HB9 F Fv
        obtain ⟨n, A', q', F, Fv, rfl, HJ, HV, HO, hql, hun, HBr, HF, HFb, HFv⟩ := hrel
        have n0 : (n : Int) ≤ (q.length : Int) := by omega
        go_wp2_with fail
        go_loopw [13, 14, 15] (fun bv wv iv wk => ∃ (j : Nat) (A1 : List Int) (O : List En) (b : Bool) (Fv1 : Nat → Prop) (aw : Option Addr) (cw : Nat), j ≤ q'.length ∧ iv = .int .i64 j ∧ bv = .bool b ∧ wv = .slice aw O.length cw ∧ Hid (wgo L A' (q'.take j) = (A1, O, b)) ∧ Hid ((mkSd (wdOb c bw L (wordsX q)) B (.slice none 0 0)).J F (A', q') wk) ∧ Hid (Wd wk Fv1 v A1 L) ∧ Hid (wk.ownsRow B 84 2 (.slice aw O.length cw) O.length (ev O)) ∧ Hid (Below B w1 wk) ∧ Hid (∀ k, F k → ¬ Fv1 k) ∧ Hid (∀ k, Fv1 k → B ≤ k) ∧ Hid (∀ k, some k = (Value.slice aw O.length cw).ownBlock → ¬ F k ∧ ¬ Fv1 k)) (fun _ _ iv _ => q'.length - (intOf iv).toNat)
        case atStart => exact ⟨0, A', [], false, Fv, none, 0, Nat.zero_le _, rfl, rfl, rfl, rfl, HJ, HV, World.ownsRow_nil _ _ _ _, HBr, HF, HFv, fun k e => by simp [Value.ownBlock] at e⟩
        case round =>
          clear HJ HV HBr HF HFv
          obtain ⟨j, A1, O, b, Fv1, aw, cw, hj, rfl, rfl, rfl, HE, HJk, HVk, HW, HBk, HD1, HV1, HD2⟩ := hrel
          have HOl : Hid (O.length = j) := by have h9 := wgo_len L A' q' j hj; rw [HE.out] at h9; exact h9
          have hO6 : O.length ≤ 60 := by have := HOl.out; omega
          obtain ⟨ad, cap, hp, hLi, hFp, hFa⟩ := (mkSd (wdOb c bw L (wordsX q)) B (.slice none 0 0)).side HJk.out
          have hp : wr.heap[B]? = some (.cells #[.slice none 0 0, .slice ad q'.length cap] 82 (0, 0)) := hp
          have hLi : Li wr ad q' cap := hLi
          have p1 : wr.cell? ⟨B, 1, none⟩ = some (.slice ad q'.length cap) := by simp [World.cell?, hp]
          have hsk : B ≤ wr.heap.size := by rw [HBe.out]; exact HBk.out.size
          clear hFp hFa hp
          by_cases hlt : j < q'.length
          · obtain ⟨b0, o0, e0, hb0, hc⟩ := hLi.lp (by omega)
            obtain ⟨x1, x2⟩ := hc j hlt
            have hS := wgo_take L A' q' j hlt
            rw [HE.out] at hS
            have hm : q'.getD j (0, 0) ∈ q' := by rw [List.getD_eq_getElem?_getD, List.getElem?_eq_getElem hlt]; exact List.getElem_mem hlt
            obtain ⟨⟨g, z⟩, hgz⟩ : ∃ e, q'.getD j (0, 0) = e := ⟨_, rfl⟩
            rw [hgz] at x1 x2 hS hm
            have hwm := (wordsX_mem HO.out hm).2
            obtain ⟨_, _, _, ⟨_, _, _, _, _, hlim⟩, _⟩ := HJk.out
            have hbd := wgo_bound A' HO.out hlim j hj
            rw [HE.out] at hbd
            have hbd : A1.length + mu L A1 + out (wordsX q) A1 ≤ 20000 := hbd
            have HS : Hid (wgo L A' (q'.take (j + 1)) = wst L (A1, O, b) (g, z)) := hS
            have HM : Hid (z ∈ wordsX q) := hwm
            subst e0
            clear hc hgz hm hwm hS hlim hLi HE
            have j0 : (0 : Int) ≤ (j : Int) := by omega
            have j1 : (j : Int) < (q'.length : Int) := by omega
            have hA0 := (Below.refl wr.heap.size wr).alloc (Nat.le_refl _) (.cells #[.int .i64 g, .int .i64 z] 84)
            have HJ2 : Hid ((mkSd (wdOb c bw L (wordsX q)) B (.slice none 0 0)).J F (A', q') (wr.alloc (.cells #[.int .i64 g, .int .i64 z] 84))) := (mkSd (wdOb c bw L (wordsX q)) B (.slice none 0 0)).below HJk.out hA0
            have HV2 : Hid (Wd (wr.alloc (.cells #[.int .i64 g, .int .i64 z] 84)) Fv1 v A1 L) := HVk.out.alloc _
            have HW2 : Hid ((wr.alloc (.cells #[.int .i64 g, .int .i64 z] 84)).ownsRow B 84 2 (.slice aw O.length cw) O.length (ev O)) := row_alloc HW.out _
            have HB2 : Hid (Below B w1 (wr.alloc (.cells #[.int .i64 g, .int .i64 z] 84))) := HBk.out.alloc hsk _
            have y0 : (wr.alloc (.cells #[.int .i64 g, .int .i64 z] 84)).cell? ⟨wr.heap.size, 0, none⟩ = some (.int .i64 g) := by simp
            have y1 : (wr.alloc (.cells #[.int .i64 g, .int .i64 z] 84)).cell? ⟨wr.heap.size, 1, none⟩ = some (.int .i64 z) := by simp
            have yf : (wr.alloc (.cells #[.int .i64 g, .int .i64 z] 84)).frozen? ⟨wr.heap.size, 1, none⟩ = false := by simp
            have s2 : (wr.alloc (.cells #[.int .i64 g, .int .i64 z] 84)).heap.size = wr.heap.size + 1 := by simp
            have hlF := fun k (h : F k) => (mkSd (wdOb c bw L (wordsX q)) B (.slice none 0 0)).lt HJk.out k h
            have hlV := HVk.out.lt
            have hlW := fun k e => (row_lt HW.out k e).2
            have eb2 : (wr.alloc (.cells #[.int .i64 g, .int .i64 z] 84)).heap[wr.heap.size]? = some (.cells #[.int .i64 g, .int .i64 z] 84 (0, 0)) := heap_alloc_new _ _
            clear HW HVk HJk HBk hA0
            go_upto_region 21 with fail
            clear x1 x2 p1
            generalize wr.alloc (.cells #[.int .i64 g, .int .i64 z] 84) = w2 at HJ2 HV2 HW2 HB2 y0 y1 yf s2 eb2 ⊢
            refine r21_wp y0 y1 (is_any g HV2.out (by omega)) (is_any z HV2.out (by omega)) ?_
            intro v104 v105 v106 v107 v108 v109 v110 v111 v112 v113 v114 v115 v116 v117 v118
            have hs2 : B ≤ w2.heap.size := by omega
            have s2a : w2.heap.size ≤ wr.heap.size + 1 := by omega
            have s2b : wr.heap.size + 1 ≤ w2.heap.size := by omega
            clear s2
            cases hcond : (A1.contains g && decide (z < 1000) && !A1.contains z)
            · obtain ⟨A2, hA2⟩ : ∃ A2, A2 = A1 := ⟨_, rfl⟩
              obtain ⟨Fv2, hF2⟩ : ∃ Fv2 : Nat → Prop, Fv2 = Fv1 := ⟨_, rfl⟩
              have HS2 : Hid (wgo L A' (q'.take (j + 1)) = (A2, O ++ [(g, z)], b)) := by
                show _ = _
                rw [HS.out, hA2]
                unfold wst
                rw [if_neg (by rw [hcond]; simp)]
              rw [← hA2, ← hF2] at HV2
              rw [← hF2] at HD1 HV1 HD2
              have HDv := HD1
              have HVb := HV1
              have HD3 := HD2
              clear hA2 hF2 HS HD1 HV1 HD2 hcond hlV hlW hlF eb2
              go_wp2_with (at_builtin; refine wpList_append_own_at _ rfl _ _ 80 rfl B 84 i0 (.agg #[.int .i64 0, .int .i64 0]) 2 16 Try.underlying80 hi hz0 hz1 hz2 rfl (by decide) (.slice aw O.length cw) O.length (ev O) rfl (row_alloc HW2.out _) ⟨w2.heap.size, 0, none⟩ 1 1 [.int .i64 g, .int .i64 z] rfl rfl ?_ ?_ ?_ ?_ ?_ ?_; (intro j u hj; match j, hj with | 0, hj => (simp at hj; subst hj; simp [Addr.add]) | 1, hj => (simp at hj; subst hj; simp [Addr.add])); (intro u hu; simp at hu; rcases hu with hu | hu <;> (subst hu; rfl)); (unfold maxLen; omega); omega; (simp; omega); intro v' w4 hown4 hgrow4 _ hloc4; obtain ⟨b4, cap4, ev4⟩ := row_shape hown4 (Nat.succ_pos _); subst ev4)
              have HN4 : Hid (w4.ownsRow B 84 2 (.slice (some ⟨b4, 0, none⟩) (O ++ [(g, z)]).length cap4) (O ++ [(g, z)]).length (ev (O ++ [(g, z)]))) := by
                show World.ownsRow _ _ _ _ _ _ _
                rw [ev_append]
                simpa [ev] using hown4
              have HJ4 : Hid ((mkSd (wdOb c bw L (wordsX q)) B (.slice none 0 0)).J F (A', q') w4) := grow_ob (mkSd (wdOb c bw L (wordsX q)) B (.slice none 0 0)).toOb HJ2.out hgrow4 (fun k e => (HD3.out k e).1)
              have HV4 : Hid (Wd w4 Fv2 v A2 L) := HV2.out.keep (by have := hgrow4.size; simp at this; omega) (fun k hk => (hgrow4.block k (by have := HV2.out.lt k hk; simp; omega) (fun e => (HD3.out k e).2 hk)).trans (Below.heap_alloc _ _ _ (HV2.out.lt k hk)))
              have HB4 : Hid (Below B w1 w4) := (HB2.out.alloc hs2 _).grown hgrow4 (by simp; omega) (fun k e => (row_lt HW2.out k e.symm).1)
              have hbl4 : some b4 = (Value.slice aw O.length cw).ownBlock ∨ b4 = w2.heap.size + 1 := hloc4.imp id (fun e => by simpa [Value.ownBlock] using e)
              have HD4 : Hid (∀ k, some k = (Value.slice (some ⟨b4, 0, none⟩) (O ++ [(g, z)]).length cap4).ownBlock → ¬ F k ∧ ¬ Fv2 k) := fun k e => ⟨fun h => hbl4.elim (fun h' => (HD3.out k (e.trans h')).1 h) (fun h' => by have := (mkSd (wdOb c bw L (wordsX q)) B (.slice none 0 0)).lt HJ2.out k h; simp [Value.ownBlock] at e; omega), fun h => hbl4.elim (fun h' => (HD3.out k (e.trans h')).2 h) (fun h' => by have := HV2.out.lt k h; simp [Value.ownBlock] at e; omega)⟩
              clear hown4 hgrow4 hloc4 hbl4
              go_wp2_with fail
              go_roundw
              case rel => exact ⟨j + 1, A2, O ++ [(g, z)], b, Fv2, some ⟨b4, 0, none⟩, cap4, by omega, by go_num, rfl, by simp, HS2, HJ4, HV4, HN4, HB4, HDv, HVb, HD4⟩
              case measure => simp [intOf]; omega
            · simp only [Bool.and_eq_true, decide_eq_true_eq] at hcond
              have HC : Hid (wgo L A' (q'.take (j + 1)) = (dfs L (L.length + 1) A1 z, O ++ [(g, w1k z)], true)) := by
                show _ = _
                rw [HS.out]
                unfold wst
                rw [if_pos (by simp only [Bool.and_eq_true, decide_eq_true_eq]; exact hcond)]
              have mm := mu_len L A1
              clear hcond HS
              go_wp2_with fail
              refine (keep_any (by omega) (L.length + 1) w2 Fv1 A1 z HV2.out (by omega) (by omega)).mono ?_
              rintro e w3 ⟨rfl, Fv2, hV3, hfr3, hF3⟩
              have hw0 : ¬ Fv1 wr.heap.size := fun h => by have := hlV _ h; omega
              have kb3 := (hfr3.block wr.heap.size (by omega) hw0).trans eb2
              have hs3 := hfr3.size
              have hV2w : ¬ Fv2 wr.heap.size := fun h => (hF3 _ h).elim hw0 (fun h => by omega)
              have d0 : w3.cell? ⟨wr.heap.size, 0, none⟩ = some (.int .i64 g) := by simp [World.cell?, kb3]
              have d1 : w3.cell? ⟨wr.heap.size, 1, none⟩ = some (.int .i64 z) := by simp [World.cell?, kb3]
              have df : w3.frozen? ⟨wr.heap.size, 1, none⟩ = false := by simp [World.frozen?, kb3]
              obtain ⟨y, hy⟩ : ∃ y, y = wrap64 (z + 1000) := ⟨_, rfl⟩
              have HCy : Hid (wgo L A' (q'.take (j + 1)) = (dfs L (L.length + 1) A1 z, O ++ [(g, y)], true)) := by rw [hy]; exact HC
              rw [← hy]
              clear hy HC
              generalize hA2 : dfs L (L.length + 1) A1 z = A2 at HCy hV3
              have kk : ∀ k, k < w2.heap.size → ¬ Fv1 k → k ≠ wr.heap.size → (w3.setCell ⟨wr.heap.size, 1, none⟩ (.int .i64 y)).heap[k]? = w2.heap[k]? := fun k h1 h2 h3 => (Below.heap_setCell _ _ _ _ h3).trans (hfr3.block k h1 h2)
              have sz4 : (w3.setCell ⟨wr.heap.size, 1, none⟩ (.int .i64 y)).heap.size = w3.heap.size := by simp [World.setCell]
              have HJ3 : Hid ((mkSd (wdOb c bw L (wordsX q)) B (.slice none 0 0)).J F (A', q') (w3.setCell ⟨wr.heap.size, 1, none⟩ (.int .i64 y))) := (mkSd (wdOb c bw L (wordsX q)) B (.slice none 0 0)).keep HJ2.out (by rw [sz4]; exact hs3) (fun k hk => kk k (by have := hlF k hk; omega) (HD1.out k hk) (by have := hlF k hk; omega))
              have HV3 : Hid (Wd (w3.setCell ⟨wr.heap.size, 1, none⟩ (.int .i64 y)) Fv2 v A2 L) := hV3.keep (by rw [sz4]; exact Nat.le_refl _) (fun k hk => Below.heap_setCell _ _ _ _ (fun e => hV2w (by have e : k = wr.heap.size := e; rw [← e]; exact hk)))
              have HW3 : Hid ((w3.setCell ⟨wr.heap.size, 1, none⟩ (.int .i64 y)).ownsRow B 84 2 (.slice aw O.length cw) O.length (ev O)) := row_keep HW2.out (fun k e => kk k (by have := hlW k e; omega) (HD2.out k e).2 (by have := hlW k e; omega))
              have HB3 : Hid (Below B w1 (w3.setCell ⟨wr.heap.size, 1, none⟩ (.int .i64 y))) := HB2.out.trans ((((hfr3.mono (fun k h => Or.inl h) : Fr (fun k => Fv1 k ∨ k = wr.heap.size) w2 w3)).set wr.heap.size 1 (.int .i64 y) (Or.inr rfl)).below hs2 (fun k h => h.elim (HV1.out k) (fun h => by omega)))
              have HDv : Hid (∀ k, F k → ¬ Fv2 k) := fun k h h' => (hF3 k h').elim (HD1.out k h) (fun h9 => by have := hlF k h; omega)
              have HVb : Hid (∀ k, Fv2 k → B ≤ k) := fun k h => (hF3 k h).elim (HV1.out k) (fun h => by omega)
              have HD3 : Hid (∀ k, some k = (Value.slice aw O.length cw).ownBlock → ¬ F k ∧ ¬ Fv2 k) := fun k e => ⟨(HD2.out k e).1, fun h => (hF3 k h).elim (HD2.out k e).2 (fun h9 => by have := hlW k e; omega)⟩
              have t0 : (w3.setCell ⟨wr.heap.size, 1, none⟩ (.int .i64 y)).cell? ⟨wr.heap.size, 0, none⟩ = some (.int .i64 g) := (World.cell?_setCell_other w3 ⟨wr.heap.size, 1, none⟩ ⟨wr.heap.size, 0, none⟩ (.int .i64 y) (by simp)).trans d0
              have t2 : (w3.setCell ⟨wr.heap.size, 1, none⟩ (.int .i64 y)).cell? ⟨wr.heap.size, 1, none⟩ = some (.int .i64 y) := World.cell?_setCell_same _ _ _ d1
              have HS2 := HCy
              clear HCy hA2 HD1 HV1 HD2 hlV hlW hlF eb2 HJ2 HV2 HW2 HB2 hV3 hfr3 hF3 kk kb3 hV2w hw0 mm hbd y0 y1 yf HM
              go_upto_region 24 with fail
              generalize w3.setCell ⟨wr.heap.size, 1, none⟩ (.int .i64 y) = w5 at HJ3 HV3 HW3 HB3 t0 t2 sz4 ⊢
              clear d0 d1 df
              have hs2 : B ≤ w5.heap.size := by omega
              clear hs3 sz4
              have HJ2 := HJ3
              have HV2 := HV3
              have HW2 := HW3
              have HB2 := HB3
              clear HJ3 HV3 HW3 HB3
              go_wp2_with (at_builtin; refine wpList_append_own_at _ rfl _ _ 80 rfl B 84 i0 (.agg #[.int .i64 0, .int .i64 0]) 2 16 Try.underlying80 hi hz0 hz1 hz2 rfl (by decide) (.slice aw O.length cw) O.length (ev O) rfl (row_alloc HW2.out _) ⟨w5.heap.size, 0, none⟩ 1 1 [.int .i64 g, .int .i64 y] rfl rfl ?_ ?_ ?_ ?_ ?_ ?_; (intro j u hj; match j, hj with | 0, hj => (simp at hj; subst hj; simp [Addr.add]) | 1, hj => (simp at hj; subst hj; simp [Addr.add])); (intro u hu; simp at hu; rcases hu with hu | hu <;> (subst hu; rfl)); (unfold maxLen; omega); omega; (simp; omega); intro v' w4 hown4 hgrow4 _ hloc4; obtain ⟨b4, cap4, ev4⟩ := row_shape hown4 (Nat.succ_pos _); subst ev4)
              have HN4 : Hid (w4.ownsRow B 84 2 (.slice (some ⟨b4, 0, none⟩) (O ++ [(g, y)]).length cap4) (O ++ [(g, y)]).length (ev (O ++ [(g, y)]))) := by
                show World.ownsRow _ _ _ _ _ _ _
                rw [ev_append]
                simpa [ev] using hown4
              have HJ4 : Hid ((mkSd (wdOb c bw L (wordsX q)) B (.slice none 0 0)).J F (A', q') w4) := grow_ob (mkSd (wdOb c bw L (wordsX q)) B (.slice none 0 0)).toOb HJ2.out hgrow4 (fun k e => (HD3.out k e).1)
              have HV4 : Hid (Wd w4 Fv2 v A2 L) := HV2.out.keep (by have := hgrow4.size; simp at this; omega) (fun k hk => (hgrow4.block k (by have := HV2.out.lt k hk; simp; omega) (fun e => (HD3.out k e).2 hk)).trans (Below.heap_alloc _ _ _ (HV2.out.lt k hk)))
              have HB4 : Hid (Below B w1 w4) := (HB2.out.alloc hs2 _).grown hgrow4 (by simp; omega) (fun k e => (row_lt HW2.out k e.symm).1)
              have hbl4 : some b4 = (Value.slice aw O.length cw).ownBlock ∨ b4 = w5.heap.size + 1 := hloc4.imp id (fun e => by simpa [Value.ownBlock] using e)
              have HD4 : Hid (∀ k, some k = (Value.slice (some ⟨b4, 0, none⟩) (O ++ [(g, y)]).length cap4).ownBlock → ¬ F k ∧ ¬ Fv2 k) := fun k e => ⟨fun h => hbl4.elim (fun h' => (HD3.out k (e.trans h')).1 h) (fun h' => by have := (mkSd (wdOb c bw L (wordsX q)) B (.slice none 0 0)).lt HJ2.out k h; simp [Value.ownBlock] at e; omega), fun h => hbl4.elim (fun h' => (HD3.out k (e.trans h')).2 h) (fun h' => by have := HV2.out.lt k h; simp [Value.ownBlock] at e; omega)⟩
              clear hown4 hgrow4 hloc4 hbl4
              go_wp2_with fail
              go_roundw
              case rel => exact ⟨j + 1, A2, O ++ [(g, y)], true, Fv2, some ⟨b4, 0, none⟩, cap4, by omega, by go_num, rfl, by simp, HS2, HJ4, HV4, HN4, HB4, HDv, HVb, HD4⟩
              case measure => simp [intOf]; omega
          · obtain rfl : j = q'.length := by omega
            rw [List.take_length] at HE
            have hwk := wok_all A' SQ.out HO.out q'.length (Nat.le_refl _) (L := L)
            rw [List.take_length, HE.out] at hwk
            have C1 := wakeX_any (w := wr.drew) (by omega : L.length ≤ 10000) SQ.out HO.out (by omega) ((mkSd (wdOb c bw L (wordsX q)) B (.slice none 0 0)).below HJk.out ((Below.refl wr.heap.size wr).drew))
            rw [HE.out] at C1
            have C2 := C1.mono (R' := fun e w2 => e = .returned (.bool b) ∧ ∃ F', (mkSd (wdOb c bw L (wordsX q)) B (.slice none 0 0)).J F' (A1, O) w2 ∧ Fr F wr.drew w2 ∧ ∀ k, F' k → F k ∨ wr.drew.heap.size ≤ k) (fun e w2 h => by
              obtain ⟨F', h1, h2, h3, h4⟩ := h
              exact ⟨h1, F', h2, h3, h4⟩)
            clear C1
            obtain ⟨_, _, _, ⟨_, _, hbw, _, _, _⟩, _⟩ := HJk.out
            have hbwc : wr.cell? ⟨bw, 0, none⟩ = some (.pointer (some ⟨c, 0, none⟩)) := by simp [World.cell?, hbw]
            go_upto_region 25 with fail
            refine r25_wp hbwc C2 ?_ ?_
            · rintro w2 ⟨F', hJ2, hfr2, hF2⟩
              obtain ⟨ad2, cap2, hp2, hLi2, _, _⟩ := (mkSd (wdOb c bw L (wordsX q)) B (.slice none 0 0)).side hJ2
              obtain ⟨_, _, _, ⟨_, hW2, hb2, _, _, _⟩, _⟩ := hJ2
              obtain ⟨ax, kx, bx, lx, hc2, _⟩ := hW2.sl
              have hV2 := HVk.out.keep (w' := w2) hfr2.size (fun k hk => hfr2.block k (HVk.out.lt k hk) (fun h => HD1.out k h hk))
              obtain ⟨av, kv, bv, lv, hv2, _⟩ := hV2.sl
              have hp2 : w2.heap[B]? = some (.cells #[.slice none 0 0, .slice ad2 O.length cap2] 82 (0, 0)) := hp2
              have hLi2 : Li w2 ad2 O cap2 := hLi2
              have hlw : Lp w2 aw O := row_pairs (row_keep (w' := w2) HW.out (fun k e => hfr2.block k (row_lt HW.out k e).2 (HD2.out k e).1))
              exact ⟨ad2, ax, av, cap2, A1.length, kx, kv, by simp [World.cell?, hp2], by simp [World.cell?, hb2], by simp [World.cell?, hc2], by simp [World.cell?, hv2], sameEntries_any ad2 aw cap2 cw O w2 (by omega) hLi2.lp hlw⟩
            · intro v129 v130 v131 v132 v133 v134 v135 v136 v137 v138 v139 v140 v141 v142 v143 v144 v145 v146 v147 v148 v149 v150 v151 v152 v153 v154 v155 v156 v157 v158 w2 w3 hR2 hb23
              obtain ⟨F', hJ2, hfr2, hF2⟩ := hR2
              have hsk2 : wr.heap.size ≤ w2.heap.size := hfr2.size
              have hBw2 : Below B w1 w2 := HBk.out.drew.trans (hfr2.below hsk HFb.out)
              have hBw3 : Below B w1 w3 := hBw2.trans (hb23.mono (by omega))
              cases b
              · have hfin : Below w.heap.size w w3 := hb1.trans (hBw3.mono hB1)
                clear C2 hbw hbwc
                go_wp2_with fail
                go_ret
                exact ⟨rfl, hfin⟩
              · have HJ3 : Hid ((mkSd (wdOb c bw L (wordsX q)) B (.slice none 0 0)).J F' (A1, O) w3) := (mkSd (wdOb c bw L (wordsX q)) B (.slice none 0 0)).below hJ2 hb23
                have HV3 : Hid (Wd w3 Fv1 v A1 L) := (HVk.out.keep (w' := w2) hfr2.size (fun k hk => hfr2.block k (HVk.out.lt k hk) (fun h => HD1.out k h hk))).below hb23
                have HO3 : Hid (Of0 q O) := hwk.of
                have hun3 : und O + 1 ≤ und q' := hwk.und
                have HB3 : Hid (Below B w1 w3) := hBw3
                have HF3 : Hid (∀ k, F' k → ¬ Fv1 k) := fun k h h' => (hF2 k h).elim (fun h => HD1.out k h h') (fun h => by have h9 := HVk.out.lt k h'; have h8 : wr.heap.size ≤ k := h; omega)
                have HFb3 : Hid (∀ k, F' k → B ≤ k) := fun k h => (hF2 k h).elim (HFb.out k) (fun h => by have h8 : wr.heap.size ≤ k := h; omega)
                clear C2 hbw hbwc hJ2 hfr2 hF2 hb23 hBw2 hBw3 hwk p1 HJk HVk HW HBk HD1 HD2 HE
                go_wp2_with fail
                refine ⟨⟨_, _, _, _, _, _, _, _, _, _, _, _, _, _, _, _, _, _, _, _, _, _, _, _, _, _, _, _, _, _, _, _, _, _, _, _, _, _, _, _, _, _, _, _, _, _, _, _, _, _, _, _, _, _, _, _, _, _, _, _, _, _, _, _, _, _, _, _, _, _, _, _, _, _, _, _, _, _, _, _, _, _, _, _, _, _, ?rel, rfl⟩, ?measure⟩
                case rel => exact ⟨n + 1, A1, O, F', Fv1, by go_num, HJ3, HV3, HO3, by have := HOl.out; omega, by omega, HB3, HF3, HFb3, HV1⟩
                case measure => simp [intOf]; omega
  · have P := great_any none a0 a1 a2 0 q.length A.length L.length 0 c0 c1 c2 w1
    rw [show (decide ((60 : Int) < (0 : Nat)) || decide ((60 : Int) < q.length) || decide ((100 : Int) < A.length) || decide ((100 : Int) < L.length)) = true by
      by_cases e1 : q.length ≤ 60
      · by_cases e2 : A.length ≤ 100
        · rw [decide_eq_true (p := (100 : Int) < L.length) (by omega), Bool.or_true]
        · rw [decide_eq_true (p := (100 : Int) < A.length) (by omega), Bool.or_true, Bool.true_or]
      · rw [decide_eq_true (p := (60 : Int) < q.length) (by omega), Bool.or_true, Bool.true_or, Bool.true_or]] at P
    refine P.mono ?_
    clear P
    rintro e w1' ⟨rfl, hw⟩
    have hw := hw.symm
    subst hw
    go_wp2_with fail
    go_ret
    exact ⟨rfl, hb1⟩

end Go.Proofs.Ythlfgddhkffilaa.SWak
