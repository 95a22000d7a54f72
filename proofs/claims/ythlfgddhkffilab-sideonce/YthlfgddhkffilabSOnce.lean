/- SideOnce: its walk. -/
import Derived.Test.YthlfgddhkffilabSOR2
import Derived.Test.YthlfgddhkffilabSdd
import Derived.Test.YthlfgddhkffilabSOR3
namespace Go.Proofs.Ythlfgddhkffilab.SOnce
open Go.RowKit W Kp Stl

set_option maxRecDepth 100000 in
set_option maxHeartbeats 4000000 in
theorem walk (a0 a1 a2 a3 : Option Addr) (c0 c1 c2 c3 : Nat) (r q : List En) (A : List Int) (L : List En) (w : World) (h0 : Li w a0 r c0) (h1 : Li w a1 q c1) (h2 : Lw w a2 A c2) (h3 : Li w a3 L c3) :
    Calls Try.prog 3 #[.slice a0 r.length c0, .slice a1 q.length c1, .slice a2 A.length c2, .slice a3 L.length c3] w fun e w' => e = .returned (.bool true) ∧ Below w.heap.size w w' := by
  have H0 : Hid (Li w a0 r c0) := h0
  have H1 : Hid (Li w a1 q c1) := h1
  have H2 : Hid (Lw w a2 A c2) := h2
  have H3 : Hid (Li w a3 L c3) := h3
  clear h0 h1 h2 h3
  go_enter Try.func3, Try.ntmps3
  go_wp2_with fail
  refine (sideBegun_any w).mono ?_
  rintro e w1 ⟨rfl, hb1⟩
  go_wp2_with fail
  refine (great_any a0 a1 a2 a3 r.length q.length A.length L.length c0 c1 c2 c3 w1).mono ?_
  rintro e w1' ⟨rfl, hw⟩
  have hw := hw.symm
  subst hw
  by_cases hg : r.length ≤ 60 ∧ q.length ≤ 60 ∧ A.length ≤ 100 ∧ L.length ≤ 100
  · obtain ⟨g0, g1, g2, g3⟩ := hg
    rw [show (decide ((60 : Int) < r.length) || decide ((60 : Int) < q.length) || decide ((100 : Int) < A.length) || decide ((100 : Int) < L.length)) = false by rw [decide_eq_false (by omega), decide_eq_false (by omega), decide_eq_false (by omega), decide_eq_false (by omega)]; rfl]
    go_wp2_with fail
    refine (small_any a0 a1 a2 a3 r q A.length L.length c0 c1 c2 c3 w1 g0 g1 (H0.out.lp.below hb1) (H1.out.lp.below hb1)).mono ?_
    rintro e w1' ⟨rfl, hw⟩
    have hw := hw.symm
    subst hw
    cases hs : smB r q
    · go_wp2_with fail
      go_ret
      exact ⟨rfl, hb1⟩
    · clear hs
      go_upto_region 6 with fail
      have hba := (Below.refl w1.heap.size w1).alloc (Nat.le_refl _) (.cells #[.slice none 0 0, .slice none 0 0] 29)
      refine r6_wp ((H0.out.below hb1).below hba) ((H1.out.below hb1).below hba) g0 g1 (heap_alloc_new _ _) ?_
      intro v35 v36 v37 v38 v39 v40 v41 v42 v43 v44 v45 v46 v47 v48 v49 v50 v51 v52 aR aQ cR cQ w2 t1 t2 t3 t4
      have hb2 : Below w1.heap.size w1 w2 := hba.trans (t4.below (by simp) (fun k e => by have e : k = w1.heap.size := e; omega))
      have hs2 := hb2.size
      clear hba t4
      go_upto_region 8 with fail
      have hb8 : Below w2.heap.size w2 ((w2.alloc (.cells #[.slice none 0 0, .slice none 0 0] 32)).alloc (.cells #[.pointer (some ⟨w2.heap.size, 0, none⟩)] 30)) := ((Below.refl _ w2).alloc (Nat.le_refl _) _).alloc (by simp) _
      have hb28 := hb2.trans (hb8.mono hs2)
      have kc : ((w2.alloc (.cells #[.slice none 0 0, .slice none 0 0] 32)).alloc (.cells #[.pointer (some ⟨w2.heap.size, 0, none⟩)] 30)).heap[w2.heap.size]? = some (.cells #[.slice none 0 0, .slice none 0 0] 32 (0, 0)) := (Below.heap_alloc _ _ _ (by simp)).trans (heap_alloc_new _ _)
      have kb : ((w2.alloc (.cells #[.slice none 0 0, .slice none 0 0] 32)).alloc (.cells #[.pointer (some ⟨w2.heap.size, 0, none⟩)] 30)).heap[w2.heap.size + 1]? = some (.cells #[.pointer (some ⟨w2.heap.size, 0, none⟩)] 30 (0, 0)) := by simpa using heap_alloc_new (w2.alloc (.cells #[.slice none 0 0, .slice none 0 0] 32)) (.cells #[.pointer (some ⟨w2.heap.size, 0, none⟩)] 30)
      refine r8_wp (c := w2.heap.size) (bw := w2.heap.size + 1) ⟨(H2.out.ls.below hb1).below hb28, H2.out.le, H2.out.nil⟩ ((H3.out.below hb1).below hb28) g2 g3 kc kb ?_
      intro v55 v56 v57 v58 v59 v60 v61 v62 v63 v64 v65 v66 v67 v68 v69 v70 v71 v72 aA aL cA cL w3 u1 u2 u3 u4
      have z8 : ((w2.alloc (.cells #[.slice none 0 0, .slice none 0 0] 32)).alloc (.cells #[.pointer (some ⟨w2.heap.size, 0, none⟩)] 30)).heap.size = w2.heap.size + 2 := by simp
      have b23 : ∀ x, x < w2.heap.size → w3.heap[x]? = w2.heap[x]? := fun x hx => (u4.block x (by rw [z8]; omega) (fun e => by have e : x = w2.heap.size := e; omega)).trans (hb8.block x hx)
      have hbw3 := (u4.block (w2.heap.size + 1) (by rw [z8]; omega) (fun e => by have e : w2.heap.size + 1 = w2.heap.size := e; omega)).trans kb
      have hb3 : Below w1.heap.size w1 w3 := hb28.trans (u4.below hb28.size (fun x e => by have e : x = w2.heap.size := e; omega))
      have hp3 := (b23 _ (lt_of_some t1)).trans t1
      have hR3 := row_keep t2 (fun x e => b23 x (row_lt t2 x e).2)
      have hQ3 := row_keep t3 (fun x e => b23 x (row_lt t3 x e).2)
      rw [z8] at u2 u3
      have lq3 : ∀ x, some x = (Value.slice aQ q.length cQ).ownBlock → x < w2.heap.size ∧ w1.heap.size < x := fun x e => ⟨(row_lt t3 x e).2, by have h9 := (row_lt t3 x e).1; simp at h9; omega⟩
      have lp2 := lt_of_some t1
      have oaL : ∀ x, some x = (Value.slice aA A.length cA).ownBlock → w2.heap.size + 2 ≤ x := fun x e => (row_lt u2 x e).1
      have obL : ∀ x, some x = (Value.slice aL L.length cL).ownBlock → w2.heap.size + 2 ≤ x := fun x e => (row_lt u3 x e).1
      have hWd : Wd w3 (fun x => x = w2.heap.size ∨ some x = (Value.slice aA A.length cA).ownBlock ∨ some x = (Value.slice aL L.length cL).ownBlock) w2.heap.size A L :=
        ⟨⟨aA, cA, aL, cL, u1, row_base u2 (fun _ _ => Nat.zero_le _), row_base u3 (fun _ _ => Nat.zero_le _), fun x e => Or.inr (Or.inl e), fun x e => Or.inr (Or.inr e)⟩, Or.inl rfl, fun x e => by
          rcases e with e | e | e
          · rw [e]; exact lt_of_some u1
          · exact (row_lt u2 x e).2
          · exact (row_lt u3 x e).2⟩
      have m1 := mu_len L A
      have m2 := out_len (wordsO r q) A
      rw [wordsO_len] at m2
      have P2 := settle_any (mkSd (wdOb w2.heap.size (w2.heap.size + 1) L (wordsO r q)) w1.heap.size (.slice aR r.length cR)) (fun x => x ∈ wordsO r q) ⟨13, #[.pointer (some ⟨w2.heap.size, 0, none⟩)], #[]⟩ ⟨10, #[], #[.pointer (some ⟨w2.heap.size + 1, 0, none⟩)]⟩ ⟨9, #[], #[]⟩ oIs (oKp L) oNw
        (lks_mk (wdOb w2.heap.size (w2.heap.size + 1) L (wordsO r q)) w1.heap.size (.slice aR r.length cR) (fun x => x ∈ wordsO r q) ⟨13, #[.pointer (some ⟨w2.heap.size, 0, none⟩)], #[]⟩ ⟨10, #[], #[.pointer (some ⟨w2.heap.size + 1, 0, none⟩)]⟩ ⟨9, #[], #[]⟩ (fun A x => A.contains x) (fun A x => (x, dfs L (L.length + 1) A x)) (fun _ x => x) ent_is ent_keepO ent_sameO (alives_is _) (keeps_once (by omega)) (fun _ _ w x _ _ => sameO_any w x))
        r aR cR rfl (by omega) (fun e he => wordsO_mem (Or.inl he)) (fun x => ((x = w2.heap.size ∨ some x = (Value.slice aA A.length cA).ownBlock ∨ some x = (Value.slice aL L.length cL).ownBlock) ∨ x = w2.heap.size + 1) ∨ x = w1.heap.size ∨ some x = (Value.slice aQ q.length cQ).ownBlock) (A, q) w3 (so_W) (show q.length + r.length ≤ 90000 by omega)
        ⟨fun x => (x = w2.heap.size ∨ some x = (Value.slice aA A.length cA).ownBlock ∨ some x = (Value.slice aL L.length cL).ownBlock) ∨ x = w2.heap.size + 1, aQ, cQ, ⟨_, hWd, hbw3, fun h => by
          rcases h with h | h | h
          · omega
          · have := oaL _ h; omega
          · have := obL _ h; omega, fun _ => Iff.rfl, by show A.length + mu L A + out (wordsO r q) A ≤ 20000; omega⟩, hp3, row_base hQ3 (fun _ _ => Nat.zero_le _), fun x h => Or.inl h, Or.inr (Or.inl rfl), fun h => by
          rcases h with (h | h | h) | h
          · omega
          · have := oaL _ h; omega
          · have := obL _ h; omega
          · omega, fun x e => ⟨Or.inr (Or.inr e), fun h => by
          have l9 := lq3 x e
          rcases h with (h | h | h) | h
          · omega
          · have := oaL _ h; omega
          · have := obL _ h; omega
          · omega⟩, fun x h => by
          rcases h with (h | h) | h | h
          · exact hWd.lt x h
          · rw [h]; exact lt_of_some hbw3
          · rw [h]; exact lt_of_some hp3
          · exact (row_lt hQ3 x h).2⟩ (row_pairs hR3)
      have hF : ∀ x, ((x = w2.heap.size ∨ some x = (Value.slice aA A.length cA).ownBlock ∨ some x = (Value.slice aL L.length cL).ownBlock) ∨ x = w2.heap.size + 1) ∨ x = w1.heap.size ∨ some x = (Value.slice aQ q.length cQ).ownBlock → w1.heap.size ≤ x := fun x h => by
        rcases h with ((h | h | h) | h) | h | h
        · omega
        · have := oaL _ h; omega
        · have := obL _ h; omega
        · omega
        · omega
        · have := lq3 x h; omega
      rw [so_S, so_R, so_Q] at P2
      have HXa : Hid (∀ e ∈ r.filter (fun e => (tD L (L.length + 1) A r).1.contains e.1 && A.contains e.2), (tD L (L.length + 1) A r).1.contains e.1 = true ∧ (tD L (L.length + 1) A r).1.contains e.2 = true) := fun e he => so_R_alive he
      have HYa : Hid (∀ e ∈ (q ++ (tD L (L.length + 1) A r).2.1).filter (fun e => (tD L (L.length + 1) A r).1.contains e.1), (tD L (L.length + 1) A r).1.contains e.1 = true) := fun e he => (List.mem_filter.1 he).2
      have HXc : Hid (∀ e, (r.filter (fun e => (tD L (L.length + 1) A r).1.contains e.1 && A.contains e.2)).count e ≤ r.count e) := fun e => so_R_count _ _ _
      have HYc := so_Q_count L A r q
      have hXY := so_len L A r q
      generalize (tD L (L.length + 1) A r).1 = B at P2 HXa HYa HXc HYc hXY
      generalize r.filter (fun e => B.contains e.1 && A.contains e.2) = X at P2 HXa HXc HYc hXY
      generalize (q ++ (tD L (L.length + 1) A r).2.1).filter (fun e => B.contains e.1) = Y at P2 HYa HYc hXY
      generalize q ++ (tD L (L.length + 1) A r).2.1 = Z at P2
      have HYc : Hid (∀ e, Y.count e + X.count e ≤ r.count e + q.count e) := HYc
      have y0 : w3.cell? ⟨w2.heap.size + 1, 0, none⟩ = some (.pointer (some ⟨w2.heap.size, 0, none⟩)) := by simp [World.cell?, hbw3]
      have lbw := lt_of_some hbw3
      have hpl := lt_of_some hp3
      generalize hbw : w2.heap.size + 1 = bw at P2 y0 lbw hF ⊢
      generalize hc : w2.heap.size = c at P2 y0 hF ⊢
      generalize hp : w1.heap.size = p at P2 hpl hF ⊢
      have HF : Hid (∀ x, ((x = c ∨ some x = (Value.slice aA A.length cA).ownBlock ∨ some x = (Value.slice aL L.length cL).ownBlock) ∨ x = bw) ∨ x = p ∨ some x = (Value.slice aQ q.length cQ).ownBlock → w1.heap.size ≤ x) := by rw [hp]; exact hF
      have HB3 : Hid (Below w1.heap.size w1 w3) := hb3
      go_wp2_with fail
      refine P2.mono ?_
      clear P2
      rintro e w6 ⟨e1, d1, e2, d2, F1, wm, rfl, hJ, hk6, hsz6, hp6, hR6, hQ6, hfr6, _⟩
      obtain ⟨F0', ad', cap', hJ0, _, _, hF0, _, hnp, _, _⟩ := hJ
      obtain ⟨F00, hWd6, hbw6, _, _, hlim⟩ := (wdOb c bw L (wordsO r q)).keep hJ0 hsz6 (fun k hk => hk6 k (hF0 k hk) (fun e => hnp (by rw [show p = k from e.symm]; exact hk)))
      have hBl : B.length ≤ 20000 := by have h9 : B.length + mu L B + out (wordsO r q) B ≤ 20000 := hlim; omega
      have hb6 : Below w1.heap.size w1 w6 := HB3.out.trans (hfr6.below HB3.out.size HF.out)
      have hw6 : Below w.heap.size w w6 := hb1.trans (hb6.mono hb1.size)
      have hp7 : w6.heap[p]? = some (.cells #[.slice e1 X.length d1, .slice e2 Y.length d2] 29 (0, 0)) := hp6
      have x0 : w6.cell? ⟨p, 0, none⟩ = some (.slice e1 X.length d1) := by simp [World.cell?, hp7]
      have x1 : w6.cell? ⟨p, 1, none⟩ = some (.slice e2 Y.length d2) := by simp [World.cell?, hp7]
      have xb : w6.cell? ⟨bw, 0, none⟩ = some (.pointer (some ⟨c, 0, none⟩)) := by simp [World.cell?, hbw6]
      have lp6 := lt_of_some hp7
      have lb6 := lt_of_some hbw6
      have HLX : Hid (Lp w6 e1 X) := row_pairs hR6
      have HLY : Hid (Lp w6 e2 Y) := row_pairs hQ6
      have HR0 : Hid (Lp w6 a0 r) := H0.out.lp.below hw6
      have HQ0 : Hid (Lp w6 a1 q) := H1.out.lp.below hw6
      have HW6 : Hid (Wd w6 F00 c B L) := hWd6
      have lX : X.length ≤ 120 := by omega
      have lY : Y.length ≤ 120 := by omega
      clear hJ0 hk6 hsz6 hp6 hR6 hQ6 hfr6 hF0 hnp hWd6 hlim hb6 hp7 hbw6 HF HB3 y0 lbw hpl hc hbw hp hF oaL obL lq3 hWd hp3 hR3 hQ3 hbw3 b23 hb3 hb8 hb28 kc kb z8 u1 u2 u3 u4 t1 t2 t3 m1 m2 lp2 hb2 hs2
      go_wp2_with fail
      go_loopw [14] (fun iv wk => ∃ j : Nat, j ≤ X.length ∧ iv = .int .i64 j ∧ Below w6.heap.size w6 wk) (fun iv _ => X.length - (intOf iv).toNat)
      case atStart => exact ⟨0, Nat.zero_le _, rfl, Below.refl _ _⟩
      case round =>
        obtain ⟨j, hj, rfl, hb⟩ := hrel
        by_cases hlt : j < X.length
        · obtain ⟨b0, o0, eb, hb0, hc⟩ := HLX.out (by omega)
          obtain ⟨q1, q2⟩ := hc j hlt
          have hm : X.getD j (0, 0) ∈ X := by rw [List.getD_eq_getElem?_getD, List.getElem?_eq_getElem hlt]; exact List.getElem_mem hlt
          obtain ⟨al1, al2⟩ := HXa.out _ hm
          have hcn := HXc.out (X.getD j (0, 0))
          have HG : X.getD j (0, 0) = ((X.getD j (0, 0)).1, (X.getD j (0, 0)).2) := rfl
          rw [HG] at hcn
          clear HG hm hc
          generalize (X.getD j (0, 0)).1 = g at q1 al1 hcn
          generalize (X.getD j (0, 0)).2 = z at q2 al2 hcn
          subst eb
          obtain ⟨n1, hn1⟩ : ∃ n, n = X.count (g, z) := ⟨_, rfl⟩
          obtain ⟨n2, hn2⟩ : ∃ n, n = r.count (g, z) := ⟨_, rfl⟩
          have C1 : Hid (∀ w', Below w6.heap.size w6 w' → Calls Try.prog 14 #[.slice (some ⟨b0, o0, none⟩) X.length d1, .agg #[.int .i64 g, .int .i64 z]] w' fun e w'' => e = .returned (.int .i64 (n1 : Nat)) ∧ Below w'.heap.size w' w'') := fun w' h => by rw [hn1]; exact countO_any w' _ X d1 g z (HLX.out.below h) (by omega)
          have C2 : Hid (∀ w', Below w6.heap.size w6 w' → Calls Try.prog 14 #[.slice a0 r.length c0, .agg #[.int .i64 g, .int .i64 z]] w' fun e w'' => e = .returned (.int .i64 (n2 : Nat)) ∧ Below w'.heap.size w' w'') := fun w' h => by rw [hn2]; exact countO_any w' _ r c0 g z (HR0.out.below h) (by omega)
          have I1 : Hid (∀ w', Below w6.heap.size w6 w' → Calls Try.prog 13 #[.pointer (some ⟨c, 0, none⟩), .int .i64 g] w' fun e w'' => e = .returned (.bool true) ∧ w'' = w') := fun w' h => by have h9 := is_any g (HW6.out.below h) (Nat.le_trans hBl (by decide)); rw [al1] at h9; exact h9
          have I2 : Hid (∀ w', Below w6.heap.size w6 w' → Calls Try.prog 13 #[.pointer (some ⟨c, 0, none⟩), .int .i64 z] w' fun e w'' => e = .returned (.bool true) ∧ w'' = w') := fun w' h => by have h9 := is_any z (HW6.out.below h) (Nat.le_trans hBl (by decide)); rw [al2] at h9; exact h9
          have hle : (n1 : Int) ≤ (n2 : Int) := by omega
          clear hn1 hn2 hcn al1 al2
          have hsb := hb.size
          have hB0 : Below w6.heap.size w6 (wr.alloc (.cells #[.int .i64 g, .int .i64 z] 39)) := hb.alloc hsb _
          have hA0 := (Below.refl wr.heap.size wr).alloc (Nat.le_refl _) (.cells #[.int .i64 g, .int .i64 z] 39)
          have z1 := (hb.cell (p := ⟨b0, o0 + j * 2, none⟩) hb0).trans q1
          have z2 := (hb.cell (p := ⟨b0, o0 + j * 2 + 1, none⟩) hb0).trans q2
          have z5 := (hb.cell (p := ⟨p, 0, none⟩) lp6).trans x0
          have z6 := (hb.cell (p := ⟨bw, 0, none⟩) lb6).trans xb
          have lpr : p < wr.heap.size := by omega
          have lbr : bw < wr.heap.size := by omega
          have y5 := (hA0.cell (p := ⟨p, 0, none⟩) lpr).trans z5
          have y6 := (hA0.cell (p := ⟨bw, 0, none⟩) lbr).trans z6
          have j0 : (0 : Int) ≤ (j : Int) := by omega
          have j1 : (j : Int) < (X.length : Int) := by omega
          clear q1 q2
          go_upto_region 17 with fail
          have e0 : (wr.alloc (.cells #[.int .i64 g, .int .i64 z] 39)).cell? ⟨wr.heap.size, 0, none⟩ = some (.int .i64 g) := by simp
          have e1' : (wr.alloc (.cells #[.int .i64 g, .int .i64 z] 39)).cell? ⟨wr.heap.size, 1, none⟩ = some (.int .i64 z) := by simp
          refine r17_wp y5 e0 e1' y6 (fun w' h => C1.out w' (hB0.trans (h.mono hB0.size))) (fun w' h => C2.out w' (hB0.trans (h.mono hB0.size))) (fun w' h => I1.out w' (hB0.trans (h.mono hB0.size))) (fun w' h => I2.out w' (hB0.trans (h.mono hB0.size))) hle ?_
          intro v97 v98 v99 v100 v101 v102 v103 v104 v105 v106 v107 v108 v109 v110 v111 v112 v113 v114 v115 v116 v117 v118 v119 v120 v121 wb hbb
          have hBb : Below w6.heap.size w6 wb := hB0.trans (hbb.mono hB0.size)
          clear e0 e1' hbb
          clear z1 z2 z5 z6 y5 y6 hb hB0 hA0
          go_wp2_with fail
          refine ⟨⟨_, _, _, _, _, _, _, _, _, _, _, _, _, _, _, _, _, _, _, _, _, _, _, _, _, _, _, _, _, _, _, _, _, _, _, _, _, _, _, _, _, _, _, _, _, ?rel, rfl⟩, ?measure⟩
          case rel => exact ⟨j + 1, by omega, by go_num, hBb⟩
          case measure => simp [intOf]; omega
        · obtain rfl : j = X.length := by omega
          have z5 := (hb.cell (p := ⟨p, 0, none⟩) lp6).trans x0
          have z6 := (hb.cell (p := ⟨p, 1, none⟩) lp6).trans x1
          go_wp2_with fail
          clear z5 z6
          go_loopw [16] (fun iv wk => ∃ j : Nat, j ≤ Y.length ∧ iv = .int .i64 j ∧ Below w6.heap.size w6 wk) (fun iv _ => Y.length - (intOf iv).toNat)
          case atStart => exact ⟨0, Nat.zero_le _, rfl, hb⟩
          case round =>
            clear hb
            obtain ⟨j, hj, rfl, hb⟩ := hrel
            by_cases hlt : j < Y.length
            · obtain ⟨b0, o0, eb, hb0, hc⟩ := HLY.out (by omega)
              obtain ⟨q1, q2⟩ := hc j hlt
              have hm : Y.getD j (0, 0) ∈ Y := by rw [List.getD_eq_getElem?_getD, List.getElem?_eq_getElem hlt]; exact List.getElem_mem hlt
              have al1 := HYa.out _ hm
              have hcn := HYc.out (Y.getD j (0, 0))
              have HG : Y.getD j (0, 0) = ((Y.getD j (0, 0)).1, (Y.getD j (0, 0)).2) := rfl
              rw [HG] at hcn
              clear HG hm hc
              generalize (Y.getD j (0, 0)).1 = g at q1 al1 hcn
              generalize (Y.getD j (0, 0)).2 = z at q2 hcn
              subst eb
              obtain ⟨n1, hn1⟩ : ∃ n, n = Y.count (g, z) := ⟨_, rfl⟩
              obtain ⟨n2, hn2⟩ : ∃ n, n = X.count (g, z) := ⟨_, rfl⟩
              obtain ⟨n3, hn3⟩ : ∃ n, n = r.count (g, z) := ⟨_, rfl⟩
              obtain ⟨n4, hn4⟩ : ∃ n, n = q.count (g, z) := ⟨_, rfl⟩
              have k3 : n3 ≤ 60 := by rw [hn3]; exact Nat.le_trans List.count_le_length g0
              have k4 : n4 ≤ 60 := by rw [hn4]; exact Nat.le_trans List.count_le_length g1
              have C1 : Hid (∀ w', Below w6.heap.size w6 w' → Calls Try.prog 14 #[.slice (some ⟨b0, o0, none⟩) Y.length d2, .agg #[.int .i64 g, .int .i64 z]] w' fun e w'' => e = .returned (.int .i64 (n1 : Nat)) ∧ Below w'.heap.size w' w'') := fun w' h => by rw [hn1]; exact countO_any w' _ Y d2 g z (HLY.out.below h) (by omega)
              have C2 : Hid (∀ w', Below w6.heap.size w6 w' → Calls Try.prog 14 #[.slice e1 X.length d1, .agg #[.int .i64 g, .int .i64 z]] w' fun e w'' => e = .returned (.int .i64 (n2 : Nat)) ∧ Below w'.heap.size w' w'') := fun w' h => by rw [hn2]; exact countO_any w' _ X d1 g z (HLX.out.below h) (by omega)
              have C3 : Hid (∀ w', Below w6.heap.size w6 w' → Calls Try.prog 14 #[.slice a0 r.length c0, .agg #[.int .i64 g, .int .i64 z]] w' fun e w'' => e = .returned (.int .i64 (n3 : Nat)) ∧ Below w'.heap.size w' w'') := fun w' h => by rw [hn3]; exact countO_any w' _ r c0 g z (HR0.out.below h) (by omega)
              have C4 : Hid (∀ w', Below w6.heap.size w6 w' → Calls Try.prog 14 #[.slice a1 q.length c1, .agg #[.int .i64 g, .int .i64 z]] w' fun e w'' => e = .returned (.int .i64 (n4 : Nat)) ∧ Below w'.heap.size w' w'') := fun w' h => by rw [hn4]; exact countO_any w' _ q c1 g z (HQ0.out.below h) (by omega)
              have I1 : Hid (∀ w', Below w6.heap.size w6 w' → Calls Try.prog 13 #[.pointer (some ⟨c, 0, none⟩), .int .i64 g] w' fun e w'' => e = .returned (.bool true) ∧ w'' = w') := fun w' h => by have h9 := is_any g (HW6.out.below h) (Nat.le_trans hBl (by decide)); rw [al1] at h9; exact h9
              rw [← hn1, ← hn2, ← hn3, ← hn4] at hcn
              have k1 : n1 ≤ 120 := by omega
              have k2 : n2 ≤ 120 := by omega
              have hle : (n1 : Int) + (n2 : Int) ≤ (n3 : Int) + (n4 : Int) := by omega
              clear hn1 hn2 hn3 hn4 hcn al1
              have hsb := hb.size
              have hB0 : Below w6.heap.size w6 (wr.alloc (.cells #[.int .i64 g, .int .i64 z] 39)) := hb.alloc hsb _
              have hA0 := (Below.refl wr.heap.size wr).alloc (Nat.le_refl _) (.cells #[.int .i64 g, .int .i64 z] 39)
              have z1 := (hb.cell (p := ⟨b0, o0 + j * 2, none⟩) hb0).trans q1
              have z2 := (hb.cell (p := ⟨b0, o0 + j * 2 + 1, none⟩) hb0).trans q2
              have z4 := (hb.cell (p := ⟨p, 0, none⟩) lp6).trans x0
              have z5 := (hb.cell (p := ⟨p, 1, none⟩) lp6).trans x1
              have z6 := (hb.cell (p := ⟨bw, 0, none⟩) lb6).trans xb
              have lpr : p < wr.heap.size := by omega
              have lbr : bw < wr.heap.size := by omega
              have y4 := (hA0.cell (p := ⟨p, 0, none⟩) lpr).trans z4
              have y5 := (hA0.cell (p := ⟨p, 1, none⟩) lpr).trans z5
              have y6 := (hA0.cell (p := ⟨bw, 0, none⟩) lbr).trans z6
              have j0 : (0 : Int) ≤ (j : Int) := by omega
              have j1 : (j : Int) < (Y.length : Int) := by omega
              clear q1 q2
              go_upto_region 23 with fail
              have e0 : (wr.alloc (.cells #[.int .i64 g, .int .i64 z] 39)).cell? ⟨wr.heap.size, 0, none⟩ = some (.int .i64 g) := by simp
              have e1' : (wr.alloc (.cells #[.int .i64 g, .int .i64 z] 39)).cell? ⟨wr.heap.size, 1, none⟩ = some (.int .i64 z) := by simp
              refine r23_wp y4 y5 e0 e1' y6 (fun w' h => C1.out w' (hB0.trans (h.mono hB0.size))) (fun w' h => C2.out w' (hB0.trans (h.mono hB0.size))) (fun w' h => C3.out w' (hB0.trans (h.mono hB0.size))) (fun w' h => C4.out w' (hB0.trans (h.mono hB0.size))) (fun w' h => I1.out w' (hB0.trans (h.mono hB0.size))) hle (by omega) (by omega) (by omega) (by omega) (by omega) (by omega) ?_
              intro v139 v140 v141 v142 v143 v144 v145 v146 v147 v148 v149 v150 v151 v152 v153 v154 v155 v156 v157 v158 v159 v160 v161 v162 v163 v164 v165 v166 v167 v168 v169 wb hbb
              have hBd : Below w6.heap.size w6 wb := hB0.trans (hbb.mono hB0.size)
              clear e0 e1' hbb
              clear z1 z2 z4 z5 z6 y4 y5 y6 hb hB0 hA0
              go_wp2_with fail
              refine ⟨⟨_, _, _, _, _, _, _, _, _, _, _, _, _, _, _, _, _, _, _, _, _, _, _, _, _, _, _, _, _, _, _, _, _, _, _, _, _, _, _, _, _, _, _, _, _, _, _, _, _, _, _, ?rel, rfl⟩, ?measure⟩
              case rel => exact ⟨j + 1, by omega, by go_num, hBd⟩
              case measure => simp [intOf]; omega
            · obtain rfl : j = Y.length := by omega
              have z4 := (hb.cell (p := ⟨p, 0, none⟩) lp6).trans x0
              have z5 := (hb.cell (p := ⟨p, 1, none⟩) lp6).trans x1
              have hle : (X.length : Int) + (Y.length : Int) ≤ (r.length : Int) + (q.length : Int) := by omega
              go_wp2_with fail
              go_region_held3 (fun w' => w'.cell? ⟨p, 0, none⟩ = some (.slice e1 X.length d1) ∧ w'.cell? ⟨p, 1, none⟩ = some (.slice e2 Y.length d2)) (go_keep) (fail)
              have hw1 : IntKind.i64.wrap ((X.length : Int) + (Y.length : Int)) = (X.length : Int) + (Y.length : Int) := by rw [IntKind.wrap_i64]; omega
              have hw2 : IntKind.i64.wrap ((r.length : Int) + (q.length : Int)) = (r.length : Int) + (q.length : Int) := by rw [IntKind.wrap_i64]; omega
              rw [hw1, hw2, decide_eq_true hle]
              go_wp2_with fail
              go_ret
              exact ⟨rfl, hw6.trans (hb.drew.mono hw6.size)⟩
  · rw [show (decide ((60 : Int) < r.length) || decide ((60 : Int) < q.length) || decide ((100 : Int) < A.length) || decide ((100 : Int) < L.length)) = true by
      by_cases e0 : r.length ≤ 60
      · by_cases e1 : q.length ≤ 60
        · by_cases e2 : A.length ≤ 100
          · rw [decide_eq_true (p := (100 : Int) < L.length) (by omega), Bool.or_true]
          · rw [decide_eq_true (p := (100 : Int) < A.length) (by omega), Bool.or_true, Bool.true_or]
        · rw [decide_eq_true (p := (60 : Int) < q.length) (by omega), Bool.or_true, Bool.true_or, Bool.true_or]
      · rw [decide_eq_true (p := (60 : Int) < r.length) (by omega), Bool.true_or, Bool.true_or, Bool.true_or]]
    go_wp2_with fail
    go_ret
    exact ⟨rfl, hb1⟩

end Go.Proofs.Ythlfgddhkffilab.SOnce
