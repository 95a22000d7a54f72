/- SideWakes: its regions that lay two sets' lists. -/
import Derived.Test.YthlfgddhkffilaaSx2
import Derived.Test.YthlfgddhkffilaaSw3
import Derived.Test.YthlfgddhkffilaaSd9
import Derived.Test.YthlfgddhkffilaaOpenE
import Derived.Test.YthlfgddhkffilaaHg
namespace Go.Proofs.Ythlfgddhkffilaa.SWak
open Go.RowKit W Kp Stl

theorem infoTwoX : (Try.prog.info? 137).map (fun i => (i.zero, i.size, i.bytes)) = some (some (.agg #[.int .i64 0, .int .i64 0]), 2, 16) := by kernel_rfl
noncomputable def r8C : Code := (Try.f14.body.bind (findRg 8)).getD .skip
noncomputable def r9C : Code := (Try.f14.body.bind (findRg 9)).getD .skip

set_option maxRecDepth 100000 in
set_option maxHeartbeats 2000000 in
theorem r8_wp {s0 s2 s3 s4 s5 s6 s7 s10 s11 s12 s13 s14 s15 s16 s17 s18 s19 s20 s21 s22 s23 s24 s25 s26 s27 s28 s29 s30 s31 s32 s33 s34 s35 s36 s37 s38 s39 s40 s41 s42 s43 s44 s45 s46 s47 s48 s49 s50 s51 s52 s53 s54 s55 s56 s57 s58 s59 s60 s61 s62 s63 s64 s65 s66 s67 s68 s69 s70 s71 s72 s73 s74 s75 s76 s77 s78 s79 s80 s81 s82 s83 s84 s85 s86 s87 s88 s89 s90 s91 s92 s93 s94 s95 s96 s97 s98 s99 s100 s101 s102 s103 s104 s105 s106 s107 s108 s109 s110 s111 s112 s113 s114 s115 s116 s117 s118 s119 s120 s121 s122 s123 s124 s125 s126 s127 s128 s129 s130 s131 s132 s133 s134 s135 s136 s137 s138 s139 s140 s141 s142 s143 s144 s145 s146 s147 s148 s149 s150 s151 s152 s153 s154 s155 s156 s157 s158 s159 s160 s161 x y : Value} {Q : Exit → Act → World → Prop} {a2 : Option Addr} {c2 c v bw : Nat} {A : List Int} {w : World} (h2 : Lw w a2 A c2) (g2 : A.length ≤ 100) (hw : w.heap[c]? = some (.cells #[.slice none 0 0, x] 100 (0, 0))) (hv : w.heap[v]? = some (.cells #[.slice none 0 0, y] 100 (0, 0))) (hcv : c ≠ v) (hbw : w.heap[bw]? = some (.cells #[.pointer (some ⟨c, 0, none⟩)] 98 (0, 0)))
    (hQ : ∀ (v45 v46 v47 v48 v49 v50 v51 v52 v53 v54 v55 v56 v57 v58 v59 v60 v61 v62 : Value) (aR aQ : Option Addr) (cR cQ m : Nat) (w' : World), w'.heap[c]? = some (.cells #[.slice aR A.length cR, x] 100 (0, 0)) → w'.heap[v]? = some (.cells #[.slice aQ A.length cQ, y] 100 (0, 0)) → w'.ownsRow w.heap.size 2 1 (.slice aR A.length cR) A.length (A.map (Value.int .i64)) → w'.ownsRow m 2 1 (.slice aQ A.length cQ) A.length (A.map (Value.int .i64)) → (∀ k, some k = (Value.slice aR A.length cR).ownBlock → k < m) → w.heap.size ≤ m → Fr (fun k => k = c ∨ k = v) w w' → Q .normal ⟨#[s0, .slice a2 A.length c2, s2, s3, s4, s5, s6, s7, .pointer (some ⟨bw, 0, none⟩), .pointer (some ⟨v, 0, none⟩), s10, s11, s12, s13, s14, s15, s16, s17, s18, s19, s20, s21, s22, s23, s24, s25, s26, s27, s28, s29, s30, s31, s32, s33, s34, s35, s36, s37, s38, s39, s40, s41, s42, s43, s44, v45, v46, v47, v48, v49, v50, v51, v52, v53, v54, v55, v56, v57, v58, v59, v60, v61, v62, s63, s64, s65, s66, s67, s68, s69, s70, s71, s72, s73, s74, s75, s76, s77, s78, s79, s80, s81, s82, s83, s84, s85, s86, s87, s88, s89, s90, s91, s92, s93, s94, s95, s96, s97, s98, s99, s100, s101, s102, s103, s104, s105, s106, s107, s108, s109, s110, s111, s112, s113, s114, s115, s116, s117, s118, s119, s120, s121, s122, s123, s124, s125, s126, s127, s128, s129, s130, s131, s132, s133, s134, s135, s136, s137, s138, s139, s140, s141, s142, s143, s144, s145, s146, s147, s148, s149, s150, s151, s152, s153, s154, s155, s156, s157, s158, s159, s160, s161], []⟩ w') :
    Code.wp Try.prog r8C Q ⟨#[s0, .slice a2 A.length c2, s2, s3, s4, s5, s6, s7, .pointer (some ⟨bw, 0, none⟩), .pointer (some ⟨v, 0, none⟩), s10, s11, s12, s13, s14, s15, s16, s17, s18, s19, s20, s21, s22, s23, s24, s25, s26, s27, s28, s29, s30, s31, s32, s33, s34, s35, s36, s37, s38, s39, s40, s41, s42, s43, s44, s45, s46, s47, s48, s49, s50, s51, s52, s53, s54, s55, s56, s57, s58, s59, s60, s61, s62, s63, s64, s65, s66, s67, s68, s69, s70, s71, s72, s73, s74, s75, s76, s77, s78, s79, s80, s81, s82, s83, s84, s85, s86, s87, s88, s89, s90, s91, s92, s93, s94, s95, s96, s97, s98, s99, s100, s101, s102, s103, s104, s105, s106, s107, s108, s109, s110, s111, s112, s113, s114, s115, s116, s117, s118, s119, s120, s121, s122, s123, s124, s125, s126, s127, s128, s129, s130, s131, s132, s133, s134, s135, s136, s137, s138, s139, s140, s141, s142, s143, s144, s145, s146, s147, s148, s149, s150, s151, s152, s153, s154, s155, s156, s157, s158, s159, s160, s161], []⟩ w := by
  conv => arg 2; whnf
  refine wp_region_noPanic ?_
  refine wp_region_any (by kernel_rfl) ?_
  obtain ⟨il, ilh, il0, il1, il2⟩ := info_parts info64
  have HQ : Hid (∀ (v45 v46 v47 v48 v49 v50 v51 v52 v53 v54 v55 v56 v57 v58 v59 v60 v61 v62 : Value) (aR aQ : Option Addr) (cR cQ m : Nat) (w' : World), w'.heap[c]? = some (.cells #[.slice aR A.length cR, x] 100 (0, 0)) → w'.heap[v]? = some (.cells #[.slice aQ A.length cQ, y] 100 (0, 0)) → w'.ownsRow w.heap.size 2 1 (.slice aR A.length cR) A.length (A.map (Value.int .i64)) → w'.ownsRow m 2 1 (.slice aQ A.length cQ) A.length (A.map (Value.int .i64)) → (∀ k, some k = (Value.slice aR A.length cR).ownBlock → k < m) → w.heap.size ≤ m → Fr (fun k => k = c ∨ k = v) w w' → Q .normal ⟨#[s0, .slice a2 A.length c2, s2, s3, s4, s5, s6, s7, .pointer (some ⟨bw, 0, none⟩), .pointer (some ⟨v, 0, none⟩), s10, s11, s12, s13, s14, s15, s16, s17, s18, s19, s20, s21, s22, s23, s24, s25, s26, s27, s28, s29, s30, s31, s32, s33, s34, s35, s36, s37, s38, s39, s40, s41, s42, s43, s44, v45, v46, v47, v48, v49, v50, v51, v52, v53, v54, v55, v56, v57, v58, v59, v60, v61, v62, s63, s64, s65, s66, s67, s68, s69, s70, s71, s72, s73, s74, s75, s76, s77, s78, s79, s80, s81, s82, s83, s84, s85, s86, s87, s88, s89, s90, s91, s92, s93, s94, s95, s96, s97, s98, s99, s100, s101, s102, s103, s104, s105, s106, s107, s108, s109, s110, s111, s112, s113, s114, s115, s116, s117, s118, s119, s120, s121, s122, s123, s124, s125, s126, s127, s128, s129, s130, s131, s132, s133, s134, s135, s136, s137, s138, s139, s140, s141, s142, s143, s144, s145, s146, s147, s148, s149, s150, s151, s152, s153, s154, s155, s156, s157, s158, s159, s160, s161], []⟩ w') := hQ
  clear hQ
  have lc := lt_of_some hw
  have lv := lt_of_some hv
  have lb := lt_of_some hbw
  have hbd := (Below.refl w.heap.size w).drew
  have f0 : w.frozen? ⟨c, 0, none⟩ = false := by simp [World.frozen?, hw]
  have f1 : w.frozen? ⟨v, 0, none⟩ = false := by simp [World.frozen?, hv]
  have hS0 : w.drew.cell? ⟨bw, 0, none⟩ = some (.pointer (some ⟨c, 0, none⟩)) ∧ w.drew.cell? ⟨c, 0, none⟩ = some (.slice none 0 0) ∧ w.drew.cell? ⟨v, 0, none⟩ = some (.slice none 0 0) := ⟨show w.cell? _ = _ by simp [World.cell?, hbw], show w.cell? _ = _ by simp [World.cell?, hw], show w.cell? _ = _ by simp [World.cell?, hv]⟩
  refine any_of_G (T := fun w' => w'.cell? ⟨bw, 0, none⟩ = some (.pointer (some ⟨c, 0, none⟩))) (S := fun w' => w'.cell? ⟨c, 0, none⟩ = some (.slice none 0 0) ∧ w'.cell? ⟨v, 0, none⟩ = some (.slice none 0 0)) (St := [16, 19]) _ _ _ _ ?_
  refine G_takeA (i := 0) (v := ?_) rfl (by kernel_rfl) (by kernel_rfl) (by kernel_rfl) (by kernel_rfl) (fun _ _ _ h => h) (Or.inl ⟨by rfl, ?_⟩) (hS0.1) (Or.inr hS0.2) ?_
  rotate_left
  · intro w hS
    go_simp
    try rfl
  simp only [Act.put, List.getElem_toArray, List.getElem_cons_zero, List.setIfInBounds_toArray, List.set_cons_zero, List.set_cons_succ]
  refine G_takeA (i := 1) (v := ?_) rfl (by kernel_rfl) (by kernel_rfl) (by kernel_rfl) (by kernel_rfl) (fun _ _ _ h => h) (Or.inl ⟨by rfl, ?_⟩) (hS0.1) (Or.inr hS0.2) ?_
  rotate_left
  · intro w hS
    go_simp
    try rfl
  simp only [Act.put, List.getElem_toArray, List.getElem_cons_succ, List.getElem_cons_zero, List.setIfInBounds_toArray, List.set_cons_zero, List.set_cons_succ]
  refine G_takeA (i := 2) (v := ?_) rfl (by kernel_rfl) (by kernel_rfl) (by kernel_rfl) (by kernel_rfl) (fun _ _ _ h => h) (Or.inl ⟨by rfl, ?_⟩) (hS0.1) (Or.inr hS0.2) ?_
  rotate_left
  · intro w hS
    go_simp
    try rfl
  simp only [Act.put, List.getElem_toArray, List.getElem_cons_succ, List.getElem_cons_zero, List.setIfInBounds_toArray, List.set_cons_zero, List.set_cons_succ]
  refine G_takeA (i := 3) (v := ?_) rfl (by kernel_rfl) (by kernel_rfl) (by kernel_rfl) (by kernel_rfl) (fun _ _ _ h => h) (Or.inl ⟨by rfl, ?_⟩) (hS0.1) (Or.inr hS0.2) ?_
  rotate_left
  · intro w hS
    go_simp
    try rfl
  simp only [Act.put, List.getElem_toArray, List.getElem_cons_succ, List.getElem_cons_zero, List.setIfInBounds_toArray, List.set_cons_zero, List.set_cons_succ]
  refine G_takeA (i := 4) (v := ?_) rfl (by kernel_rfl) (by kernel_rfl) (by kernel_rfl) (by kernel_rfl) (fun _ _ _ h => h) (Or.inl ⟨by rfl, ?_⟩) (hS0.1) (Or.inr hS0.2) ?_
  rotate_left
  · intro w hS
    go_simp
    try rfl
  simp only [Act.put, List.getElem_toArray, List.getElem_cons_succ, List.getElem_cons_zero, List.setIfInBounds_toArray, List.set_cons_zero, List.set_cons_succ]
  refine G_take (i := 5) (v := ?_) rfl (by kernel_rfl) (by kernel_rfl) (by kernel_rfl) (by kernel_rfl) (by kernel_rfl) (by kernel_rfl) (fun _ _ _ h => h) (Or.inl ⟨by rfl, ?_⟩) hS0 ?_
  rotate_left
  · intro w hS
    obtain ⟨q1, q2, q3⟩ := hS
    go_simp
    try rfl
  simp only [Act.put, List.getElem_toArray, List.getElem_cons_succ, List.getElem_cons_zero, List.setIfInBounds_toArray, List.set_cons_zero, List.set_cons_succ]
  refine G_takeA (i := 6) (v := ?_) rfl (by kernel_rfl) (by kernel_rfl) (by kernel_rfl) (by kernel_rfl) (fun _ _ _ h => h) (Or.inl ⟨by rfl, ?_⟩) (hS0.1) (Or.inr hS0.2) ?_
  rotate_left
  · intro w hS
    go_simp
    try rfl
  simp only [Act.put, List.getElem_toArray, List.getElem_cons_succ, List.getElem_cons_zero, List.setIfInBounds_toArray, List.set_cons_zero, List.set_cons_succ]
  refine G_takeA (i := 8) (v := ?_) rfl (by kernel_rfl) (by kernel_rfl) (by kernel_rfl) (by kernel_rfl) (fun _ _ _ h => h) (Or.inl ⟨by rfl, ?_⟩) (hS0.1) (Or.inr hS0.2) ?_
  rotate_left
  · intro w hS
    go_simp
    try rfl
  simp only [Act.put, List.getElem_toArray, List.getElem_cons_succ, List.getElem_cons_zero, List.setIfInBounds_toArray, List.set_cons_zero, List.set_cons_succ]
  refine G_takeA (i := 9) (v := ?_) rfl (by kernel_rfl) (by kernel_rfl) (by kernel_rfl) (by kernel_rfl) (fun _ _ _ h => h) (Or.inl ⟨by rfl, ?_⟩) (hS0.1) (Or.inr hS0.2) ?_
  rotate_left
  · intro w hS
    go_simp
    try rfl
  simp only [Act.put, List.getElem_toArray, List.getElem_cons_succ, List.getElem_cons_zero, List.setIfInBounds_toArray, List.set_cons_zero, List.set_cons_succ]
  refine G_takeA (i := 10) (v := ?_) rfl (by kernel_rfl) (by kernel_rfl) (by kernel_rfl) (by kernel_rfl) (fun _ _ _ h => h) (Or.inl ⟨by rfl, ?_⟩) (hS0.1) (Or.inr hS0.2) ?_
  rotate_left
  · intro w hS
    go_simp
    try rfl
  simp only [Act.put, List.getElem_toArray, List.getElem_cons_succ, List.getElem_cons_zero, List.setIfInBounds_toArray, List.set_cons_zero, List.set_cons_succ]
  refine G_take (i := 11) (v := ?_) rfl (by kernel_rfl) (by kernel_rfl) (by kernel_rfl) (by kernel_rfl) (by kernel_rfl) (by kernel_rfl) (fun _ _ _ h => h) (Or.inl ⟨by rfl, ?_⟩) hS0 ?_
  rotate_left
  · intro w hS
    obtain ⟨q1, q2, q3⟩ := hS
    go_simp
    try rfl
  simp only [Act.put, List.getElem_toArray, List.getElem_cons_succ, List.getElem_cons_zero, List.setIfInBounds_toArray, List.set_cons_zero, List.set_cons_succ]
  refine G_takeA (i := 12) (v := ?_) rfl (by kernel_rfl) (by kernel_rfl) (by kernel_rfl) (by kernel_rfl) (fun _ _ _ h => h) (Or.inl ⟨by rfl, ?_⟩) (hS0.1) (Or.inr hS0.2) ?_
  rotate_left
  · intro w hS
    go_simp
    try rfl
  simp only [Act.put, List.getElem_toArray, List.getElem_cons_succ, List.getElem_cons_zero, List.setIfInBounds_toArray, List.set_cons_zero, List.set_cons_succ]
  refine G_one (i := 7) (by kernel_rfl) ?_
  refine wpOp_of_wp rfl rfl ?_
  refine wp_append_src _ (.tmp 50) (.tmp 51) 54 rfl w.heap.size 2 il (.int .i64 0) 1 8 Try.underlying54 ilh il0 il1 il2 rfl (by decide) (.slice none 0 0) 0 [] (by simp [Act.eval]) (World.ownsRow_nil _ _ _ _) a2 A.length c2 (A.map (Value.int .i64)) (by simp [Act.eval]) (by simp) h2.nil ((h2.ls.below hbd).cells) (ints_oneC A) (by unfold maxLen; omega) (by omega) (hbd.size) ?_
  intro aR cR wA hoA hgA _
  rw [Nat.zero_add, List.nil_append] at hoA
  have bwA : Below w.heap.size w wA := hbd.grown hgA hbd.size (fun k e => by simp [Value.ownBlock] at e)
  have hSwA : wA.cell? ⟨bw, 0, none⟩ = some (.pointer (some ⟨c, 0, none⟩)) ∧ wA.cell? ⟨c, 0, none⟩ = some (.slice none 0 0) ∧ wA.cell? ⟨v, 0, none⟩ = some (.slice none 0 0) := ⟨(bwA.cell (p := ⟨bw, 0, none⟩) lb).trans hS0.1, (bwA.cell (p := ⟨c, 0, none⟩) lc).trans hS0.2.1, (bwA.cell (p := ⟨v, 0, none⟩) lv).trans hS0.2.2⟩
  refine ⟨⟨hSwA.1, Or.inr hSwA.2⟩, ?_⟩
  simp only [Act.put, List.getElem_toArray, List.getElem_cons_succ, List.getElem_cons_zero, List.setIfInBounds_toArray, List.set_cons_zero, List.set_cons_succ]
  refine G_one (i := 13) (by kernel_rfl) ?_
  refine wpOp_of_wp rfl rfl ?_
  refine wp_append_src _ (.tmp 56) (.tmp 57) 54 rfl wA.heap.size 2 il (.int .i64 0) 1 8 Try.underlying54 ilh il0 il1 il2 rfl (by decide) (.slice none 0 0) 0 [] (by simp [Act.eval]) (World.ownsRow_nil _ _ _ _) a2 A.length c2 (A.map (Value.int .i64)) (by simp [Act.eval]) (by simp) h2.nil ((h2.ls.below bwA).cells) (ints_oneC A) (by unfold maxLen; omega) (by omega) (Nat.le_refl _) ?_
  intro aQ cQ wB hoB hgB _
  rw [Nat.zero_add, List.nil_append] at hoB
  have bwB : Below w.heap.size w wB := bwA.grown hgB bwA.size (fun k e => by simp [Value.ownBlock] at e)
  have hSwB : wB.cell? ⟨bw, 0, none⟩ = some (.pointer (some ⟨c, 0, none⟩)) ∧ wB.cell? ⟨c, 0, none⟩ = some (.slice none 0 0) ∧ wB.cell? ⟨v, 0, none⟩ = some (.slice none 0 0) := ⟨(bwB.cell (p := ⟨bw, 0, none⟩) lb).trans hS0.1, (bwB.cell (p := ⟨c, 0, none⟩) lc).trans hS0.2.1, (bwB.cell (p := ⟨v, 0, none⟩) lv).trans hS0.2.2⟩
  refine ⟨⟨hSwB.1, Or.inr hSwB.2⟩, ?_⟩
  simp only [Act.put, List.getElem_toArray, List.getElem_cons_succ, List.getElem_cons_zero, List.setIfInBounds_toArray, List.set_cons_zero, List.set_cons_succ]
  refine G_takeA (i := 14) (v := ?_) rfl (by kernel_rfl) (by kernel_rfl) (by kernel_rfl) (by kernel_rfl) (fun _ _ _ h => h) (Or.inl ⟨by rfl, ?_⟩) (hSwB.1) (Or.inr hSwB.2) ?_
  rotate_left
  · intro w hS
    go_simp
    try rfl
  simp only [Act.put, List.getElem_toArray, List.getElem_cons_succ, List.getElem_cons_zero, List.setIfInBounds_toArray, List.set_cons_zero, List.set_cons_succ]
  refine G_takeA (i := 15) (v := ?_) rfl (by kernel_rfl) (by kernel_rfl) (by kernel_rfl) (by kernel_rfl) (fun _ _ _ h => h) (Or.inl ⟨by rfl, ?_⟩) (hSwB.1) (Or.inr hSwB.2) ?_
  rotate_left
  · intro w hS
    go_simp
    try rfl
  simp only [Act.put, List.getElem_toArray, List.getElem_cons_succ, List.getElem_cons_zero, List.setIfInBounds_toArray, List.set_cons_zero, List.set_cons_succ]
  have z0 := hSwB.2.1
  have z1 := hSwB.2.2
  have k0 := (bwB.frozen (p := ⟨c, 0, none⟩) lc).trans f0
  have k1 := (bwB.frozen (p := ⟨v, 0, none⟩) lv).trans f1
  refine G_one (i := 16) (by kernel_rfl) ?_
  refine wpOp_of_wp rfl rfl ?_
  simp only [List.getElem_toArray, List.getElem_cons_succ, List.getElem_cons_zero]
  go_simp
  have hcb : bw ≠ c := fun e => by rw [e, hw] at hbw; simp at hbw
  have m1 : (wB.setCell ⟨c, 0, none⟩ (.slice aR A.length cR)).cell? ⟨bw, 0, none⟩ = some (.pointer (some ⟨c, 0, none⟩)) := (cell_set hcb).trans hSwB.1
  have m2 : (wB.setCell ⟨c, 0, none⟩ (.slice aR A.length cR)).cell? ⟨v, 0, none⟩ = some (.slice none 0 0) := (cell_set (Ne.symm hcv)).trans z1
  have m3 : (wB.setCell ⟨c, 0, none⟩ (.slice aR A.length cR)).frozen? ⟨v, 0, none⟩ = false := (World.frozen?_of_block (a := ⟨v, 0, none⟩) (Below.heap_setCell _ _ _ _ (Ne.symm hcv))).trans k1
  first
    | refine ⟨⟨m1, Or.inl ⟨16, by simp, by kernel_rfl⟩⟩, ?_⟩
    | refine ⟨Or.inl ⟨16, by simp, by kernel_rfl⟩, ?_⟩
  refine G_takeA (i := 17) (v := ?_) rfl (by kernel_rfl) (by kernel_rfl) (by kernel_rfl) (by kernel_rfl) (fun _ _ _ h => h) (Or.inl ⟨by rfl, ?_⟩) (m1) (Or.inl ⟨16, by simp, by kernel_rfl⟩) ?_
  rotate_left
  · intro w hS
    go_simp
    try rfl
  simp only [Act.put, List.getElem_toArray, List.getElem_cons_succ, List.getElem_cons_zero, List.setIfInBounds_toArray, List.set_cons_zero, List.set_cons_succ]
  refine G_takeA (i := 18) (v := ?_) rfl (by kernel_rfl) (by kernel_rfl) (by kernel_rfl) (by kernel_rfl) (fun _ _ _ h => h) (Or.inl ⟨by rfl, ?_⟩) (m1) (Or.inl ⟨16, by simp, by kernel_rfl⟩) ?_
  rotate_left
  · intro w hS
    go_simp
    try rfl
  simp only [Act.put, List.getElem_toArray, List.getElem_cons_succ, List.getElem_cons_zero, List.setIfInBounds_toArray, List.set_cons_zero, List.set_cons_succ]
  refine G_one (i := 19) (by kernel_rfl) ?_
  refine wpOp_of_wp rfl rfl ?_
  simp only [List.getElem_toArray, List.getElem_cons_succ, List.getElem_cons_zero]
  go_simp
  have hbv : bw ≠ v := fun e => by rw [e, hv] at hbw; simp at hbw
  have m4 : ((wB.setCell ⟨c, 0, none⟩ (.slice aR A.length cR)).setCell ⟨v, 0, none⟩ (.slice aQ A.length cQ)).cell? ⟨bw, 0, none⟩ = some (.pointer (some ⟨c, 0, none⟩)) := (cell_set hbv).trans m1
  first
    | refine ⟨⟨m4, Or.inl ⟨16, by simp, by kernel_rfl⟩⟩, ?_⟩
    | refine ⟨Or.inl ⟨16, by simp, by kernel_rfl⟩, ?_⟩
  refine G_done (by kernel_rfl) ?_ _
  have oA := row_keep (w' := wB) hoA (fun k e => hgB.block k (row_lt hoA k e).2 (by simp [Value.ownBlock]))
  have hcB := (bwB.block c lc).trans hw
  have hvB := (bwB.block v lv).trans hv
  have kk : ∀ k, k ≠ c → k ≠ v → ((wB.setCell ⟨c, 0, none⟩ (.slice aR A.length cR)).setCell ⟨v, 0, none⟩ (.slice aQ A.length cQ)).heap[k]? = wB.heap[k]? := fun k hk hk2 => (Below.heap_setCell _ _ _ _ hk2).trans (Below.heap_setCell _ _ _ _ hk)
  have t2 := row_keep (w' := (wB.setCell ⟨c, 0, none⟩ (.slice aR A.length cR)).setCell ⟨v, 0, none⟩ (.slice aQ A.length cQ)) oA (fun k e => kk k (by have := (row_lt oA k e).1; omega) (by have := (row_lt oA k e).1; omega))
  have hsA := bwA.size
  have t3 := row_keep (w' := (wB.setCell ⟨c, 0, none⟩ (.slice aR A.length cR)).setCell ⟨v, 0, none⟩ (.slice aQ A.length cQ)) hoB (fun k e => kk k (by have := (row_lt hoB k e).1; omega) (by have := (row_lt hoB k e).1; omega))
  have t4 : Fr (fun k => k = c ∨ k = v) w ((wB.setCell ⟨c, 0, none⟩ (.slice aR A.length cR)).setCell ⟨v, 0, none⟩ (.slice aQ A.length cQ)) := ((Fr.of (X := fun k => k = c ∨ k = v) bwB).set c 0 _ (Or.inl rfl)).set v 0 _ (Or.inr rfl)
  have u1 := (Below.heap_setCell (wB.setCell ⟨c, 0, none⟩ (.slice aR A.length cR)) ⟨v, 0, none⟩ (.slice aQ A.length cQ) c hcv).trans (set_fst (v := .slice aR A.length cR) hcB)
  have u2 := set_fst (v := .slice aQ A.length cQ) ((Below.heap_setCell wB ⟨c, 0, none⟩ (.slice aR A.length cR) v (Ne.symm hcv)).trans hvB)
  exact NoPanic.normal (HQ.out _ _ _ _ _ _ _ _ _ _ _ _ _ _ _ _ _ _ _ _ _ _ wA.heap.size _ u1 u2 t2 t3 (fun k e => (row_lt hoA k e).2) hsA t4)

set_option maxRecDepth 100000 in
set_option maxHeartbeats 2000000 in
theorem r9_wp {s0 s1 s3 s4 s5 s6 s7 s10 s11 s12 s13 s14 s15 s16 s17 s18 s19 s20 s21 s22 s23 s24 s25 s26 s27 s28 s29 s30 s31 s32 s33 s34 s35 s36 s37 s38 s39 s40 s41 s42 s43 s44 s45 s46 s47 s48 s49 s50 s51 s52 s53 s54 s55 s56 s57 s58 s59 s60 s61 s62 s63 s64 s65 s66 s67 s68 s69 s70 s71 s72 s73 s74 s75 s76 s77 s78 s79 s80 s81 s82 s83 s84 s85 s86 s87 s88 s89 s90 s91 s92 s93 s94 s95 s96 s97 s98 s99 s100 s101 s102 s103 s104 s105 s106 s107 s108 s109 s110 s111 s112 s113 s114 s115 s116 s117 s118 s119 s120 s121 s122 s123 s124 s125 s126 s127 s128 s129 s130 s131 s132 s133 s134 s135 s136 s137 s138 s139 s140 s141 s142 s143 s144 s145 s146 s147 s148 s149 s150 s151 s152 s153 s154 s155 s156 s157 s158 s159 s160 s161 x y : Value} {Q : Exit → Act → World → Prop} {a3 : Option Addr} {c3 c v bw : Nat} {L : List En} {w : World} (h3 : Li w a3 L c3) (g3 : L.length ≤ 100) (hw : w.heap[c]? = some (.cells #[x, .slice none 0 0] 100 (0, 0))) (hv : w.heap[v]? = some (.cells #[y, .slice none 0 0] 100 (0, 0))) (hcv : c ≠ v) (hbw : w.heap[bw]? = some (.cells #[.pointer (some ⟨c, 0, none⟩)] 98 (0, 0)))
    (hQ : ∀ (v63 v64 v65 v66 v67 v68 v69 v70 v71 v72 v73 v74 v75 v76 v77 v78 v79 v80 : Value) (aR aQ : Option Addr) (cR cQ m : Nat) (w' : World), w'.heap[c]? = some (.cells #[x, .slice aR L.length cR] 100 (0, 0)) → w'.heap[v]? = some (.cells #[y, .slice aQ L.length cQ] 100 (0, 0)) → w'.ownsRow w.heap.size 137 2 (.slice aR L.length cR) L.length (ev L) → w'.ownsRow m 137 2 (.slice aQ L.length cQ) L.length (ev L) → (∀ k, some k = (Value.slice aR L.length cR).ownBlock → k < m) → w.heap.size ≤ m → Fr (fun k => k = c ∨ k = v) w w' → Q .normal ⟨#[s0, s1, .slice a3 L.length c3, s3, s4, s5, s6, s7, .pointer (some ⟨bw, 0, none⟩), .pointer (some ⟨v, 0, none⟩), s10, s11, s12, s13, s14, s15, s16, s17, s18, s19, s20, s21, s22, s23, s24, s25, s26, s27, s28, s29, s30, s31, s32, s33, s34, s35, s36, s37, s38, s39, s40, s41, s42, s43, s44, s45, s46, s47, s48, s49, s50, s51, s52, s53, s54, s55, s56, s57, s58, s59, s60, s61, s62, v63, v64, v65, v66, v67, v68, v69, v70, v71, v72, v73, v74, v75, v76, v77, v78, v79, v80, s81, s82, s83, s84, s85, s86, s87, s88, s89, s90, s91, s92, s93, s94, s95, s96, s97, s98, s99, s100, s101, s102, s103, s104, s105, s106, s107, s108, s109, s110, s111, s112, s113, s114, s115, s116, s117, s118, s119, s120, s121, s122, s123, s124, s125, s126, s127, s128, s129, s130, s131, s132, s133, s134, s135, s136, s137, s138, s139, s140, s141, s142, s143, s144, s145, s146, s147, s148, s149, s150, s151, s152, s153, s154, s155, s156, s157, s158, s159, s160, s161], []⟩ w') :
    Code.wp Try.prog r9C Q ⟨#[s0, s1, .slice a3 L.length c3, s3, s4, s5, s6, s7, .pointer (some ⟨bw, 0, none⟩), .pointer (some ⟨v, 0, none⟩), s10, s11, s12, s13, s14, s15, s16, s17, s18, s19, s20, s21, s22, s23, s24, s25, s26, s27, s28, s29, s30, s31, s32, s33, s34, s35, s36, s37, s38, s39, s40, s41, s42, s43, s44, s45, s46, s47, s48, s49, s50, s51, s52, s53, s54, s55, s56, s57, s58, s59, s60, s61, s62, s63, s64, s65, s66, s67, s68, s69, s70, s71, s72, s73, s74, s75, s76, s77, s78, s79, s80, s81, s82, s83, s84, s85, s86, s87, s88, s89, s90, s91, s92, s93, s94, s95, s96, s97, s98, s99, s100, s101, s102, s103, s104, s105, s106, s107, s108, s109, s110, s111, s112, s113, s114, s115, s116, s117, s118, s119, s120, s121, s122, s123, s124, s125, s126, s127, s128, s129, s130, s131, s132, s133, s134, s135, s136, s137, s138, s139, s140, s141, s142, s143, s144, s145, s146, s147, s148, s149, s150, s151, s152, s153, s154, s155, s156, s157, s158, s159, s160, s161], []⟩ w := by
  conv => arg 2; whnf
  refine wp_region_noPanic ?_
  refine wp_region_any (by kernel_rfl) ?_
  obtain ⟨il, ilh, il0, il1, il2⟩ := info_parts infoTwoX
  have HQ : Hid (∀ (v63 v64 v65 v66 v67 v68 v69 v70 v71 v72 v73 v74 v75 v76 v77 v78 v79 v80 : Value) (aR aQ : Option Addr) (cR cQ m : Nat) (w' : World), w'.heap[c]? = some (.cells #[x, .slice aR L.length cR] 100 (0, 0)) → w'.heap[v]? = some (.cells #[y, .slice aQ L.length cQ] 100 (0, 0)) → w'.ownsRow w.heap.size 137 2 (.slice aR L.length cR) L.length (ev L) → w'.ownsRow m 137 2 (.slice aQ L.length cQ) L.length (ev L) → (∀ k, some k = (Value.slice aR L.length cR).ownBlock → k < m) → w.heap.size ≤ m → Fr (fun k => k = c ∨ k = v) w w' → Q .normal ⟨#[s0, s1, .slice a3 L.length c3, s3, s4, s5, s6, s7, .pointer (some ⟨bw, 0, none⟩), .pointer (some ⟨v, 0, none⟩), s10, s11, s12, s13, s14, s15, s16, s17, s18, s19, s20, s21, s22, s23, s24, s25, s26, s27, s28, s29, s30, s31, s32, s33, s34, s35, s36, s37, s38, s39, s40, s41, s42, s43, s44, s45, s46, s47, s48, s49, s50, s51, s52, s53, s54, s55, s56, s57, s58, s59, s60, s61, s62, v63, v64, v65, v66, v67, v68, v69, v70, v71, v72, v73, v74, v75, v76, v77, v78, v79, v80, s81, s82, s83, s84, s85, s86, s87, s88, s89, s90, s91, s92, s93, s94, s95, s96, s97, s98, s99, s100, s101, s102, s103, s104, s105, s106, s107, s108, s109, s110, s111, s112, s113, s114, s115, s116, s117, s118, s119, s120, s121, s122, s123, s124, s125, s126, s127, s128, s129, s130, s131, s132, s133, s134, s135, s136, s137, s138, s139, s140, s141, s142, s143, s144, s145, s146, s147, s148, s149, s150, s151, s152, s153, s154, s155, s156, s157, s158, s159, s160, s161], []⟩ w') := hQ
  clear hQ
  have lc := lt_of_some hw
  have lv := lt_of_some hv
  have lb := lt_of_some hbw
  have hbd := (Below.refl w.heap.size w).drew
  have f0 : w.frozen? ⟨c, 1, none⟩ = false := by simp [World.frozen?, hw]
  have f1 : w.frozen? ⟨v, 1, none⟩ = false := by simp [World.frozen?, hv]
  have hS0 : w.drew.cell? ⟨bw, 0, none⟩ = some (.pointer (some ⟨c, 0, none⟩)) ∧ w.drew.cell? ⟨c, 1, none⟩ = some (.slice none 0 0) ∧ w.drew.cell? ⟨v, 1, none⟩ = some (.slice none 0 0) := ⟨show w.cell? _ = _ by simp [World.cell?, hbw], show w.cell? _ = _ by simp [World.cell?, hw], show w.cell? _ = _ by simp [World.cell?, hv]⟩
  refine any_of_G (T := fun w' => w'.cell? ⟨bw, 0, none⟩ = some (.pointer (some ⟨c, 0, none⟩))) (S := fun w' => w'.cell? ⟨c, 1, none⟩ = some (.slice none 0 0) ∧ w'.cell? ⟨v, 1, none⟩ = some (.slice none 0 0)) (St := [16, 19]) _ _ _ _ ?_
  refine G_takeA (i := 0) (v := ?_) rfl (by kernel_rfl) (by kernel_rfl) (by kernel_rfl) (by kernel_rfl) (fun _ _ _ h => h) (Or.inl ⟨by rfl, ?_⟩) (hS0.1) (Or.inr hS0.2) ?_
  rotate_left
  · intro w hS
    go_simp
    try rfl
  simp only [Act.put, List.getElem_toArray, List.getElem_cons_zero, List.setIfInBounds_toArray, List.set_cons_zero, List.set_cons_succ]
  refine G_takeA (i := 1) (v := ?_) rfl (by kernel_rfl) (by kernel_rfl) (by kernel_rfl) (by kernel_rfl) (fun _ _ _ h => h) (Or.inl ⟨by rfl, ?_⟩) (hS0.1) (Or.inr hS0.2) ?_
  rotate_left
  · intro w hS
    go_simp
    try rfl
  simp only [Act.put, List.getElem_toArray, List.getElem_cons_succ, List.getElem_cons_zero, List.setIfInBounds_toArray, List.set_cons_zero, List.set_cons_succ]
  refine G_takeA (i := 2) (v := ?_) rfl (by kernel_rfl) (by kernel_rfl) (by kernel_rfl) (by kernel_rfl) (fun _ _ _ h => h) (Or.inl ⟨by rfl, ?_⟩) (hS0.1) (Or.inr hS0.2) ?_
  rotate_left
  · intro w hS
    go_simp
    try rfl
  simp only [Act.put, List.getElem_toArray, List.getElem_cons_succ, List.getElem_cons_zero, List.setIfInBounds_toArray, List.set_cons_zero, List.set_cons_succ]
  refine G_takeA (i := 3) (v := ?_) rfl (by kernel_rfl) (by kernel_rfl) (by kernel_rfl) (by kernel_rfl) (fun _ _ _ h => h) (Or.inl ⟨by rfl, ?_⟩) (hS0.1) (Or.inr hS0.2) ?_
  rotate_left
  · intro w hS
    go_simp
    try rfl
  simp only [Act.put, List.getElem_toArray, List.getElem_cons_succ, List.getElem_cons_zero, List.setIfInBounds_toArray, List.set_cons_zero, List.set_cons_succ]
  refine G_takeA (i := 4) (v := ?_) rfl (by kernel_rfl) (by kernel_rfl) (by kernel_rfl) (by kernel_rfl) (fun _ _ _ h => h) (Or.inl ⟨by rfl, ?_⟩) (hS0.1) (Or.inr hS0.2) ?_
  rotate_left
  · intro w hS
    go_simp
    try rfl
  simp only [Act.put, List.getElem_toArray, List.getElem_cons_succ, List.getElem_cons_zero, List.setIfInBounds_toArray, List.set_cons_zero, List.set_cons_succ]
  refine G_take (i := 5) (v := ?_) rfl (by kernel_rfl) (by kernel_rfl) (by kernel_rfl) (by kernel_rfl) (by kernel_rfl) (by kernel_rfl) (fun _ _ _ h => h) (Or.inl ⟨by rfl, ?_⟩) hS0 ?_
  rotate_left
  · intro w hS
    obtain ⟨q1, q2, q3⟩ := hS
    go_simp
    try rfl
  simp only [Act.put, List.getElem_toArray, List.getElem_cons_succ, List.getElem_cons_zero, List.setIfInBounds_toArray, List.set_cons_zero, List.set_cons_succ]
  refine G_takeA (i := 6) (v := ?_) rfl (by kernel_rfl) (by kernel_rfl) (by kernel_rfl) (by kernel_rfl) (fun _ _ _ h => h) (Or.inl ⟨by rfl, ?_⟩) (hS0.1) (Or.inr hS0.2) ?_
  rotate_left
  · intro w hS
    go_simp
    try rfl
  simp only [Act.put, List.getElem_toArray, List.getElem_cons_succ, List.getElem_cons_zero, List.setIfInBounds_toArray, List.set_cons_zero, List.set_cons_succ]
  refine G_takeA (i := 8) (v := ?_) rfl (by kernel_rfl) (by kernel_rfl) (by kernel_rfl) (by kernel_rfl) (fun _ _ _ h => h) (Or.inl ⟨by rfl, ?_⟩) (hS0.1) (Or.inr hS0.2) ?_
  rotate_left
  · intro w hS
    go_simp
    try rfl
  simp only [Act.put, List.getElem_toArray, List.getElem_cons_succ, List.getElem_cons_zero, List.setIfInBounds_toArray, List.set_cons_zero, List.set_cons_succ]
  refine G_takeA (i := 9) (v := ?_) rfl (by kernel_rfl) (by kernel_rfl) (by kernel_rfl) (by kernel_rfl) (fun _ _ _ h => h) (Or.inl ⟨by rfl, ?_⟩) (hS0.1) (Or.inr hS0.2) ?_
  rotate_left
  · intro w hS
    go_simp
    try rfl
  simp only [Act.put, List.getElem_toArray, List.getElem_cons_succ, List.getElem_cons_zero, List.setIfInBounds_toArray, List.set_cons_zero, List.set_cons_succ]
  refine G_takeA (i := 10) (v := ?_) rfl (by kernel_rfl) (by kernel_rfl) (by kernel_rfl) (by kernel_rfl) (fun _ _ _ h => h) (Or.inl ⟨by rfl, ?_⟩) (hS0.1) (Or.inr hS0.2) ?_
  rotate_left
  · intro w hS
    go_simp
    try rfl
  simp only [Act.put, List.getElem_toArray, List.getElem_cons_succ, List.getElem_cons_zero, List.setIfInBounds_toArray, List.set_cons_zero, List.set_cons_succ]
  refine G_take (i := 11) (v := ?_) rfl (by kernel_rfl) (by kernel_rfl) (by kernel_rfl) (by kernel_rfl) (by kernel_rfl) (by kernel_rfl) (fun _ _ _ h => h) (Or.inl ⟨by rfl, ?_⟩) hS0 ?_
  rotate_left
  · intro w hS
    obtain ⟨q1, q2, q3⟩ := hS
    go_simp
    try rfl
  simp only [Act.put, List.getElem_toArray, List.getElem_cons_succ, List.getElem_cons_zero, List.setIfInBounds_toArray, List.set_cons_zero, List.set_cons_succ]
  refine G_takeA (i := 12) (v := ?_) rfl (by kernel_rfl) (by kernel_rfl) (by kernel_rfl) (by kernel_rfl) (fun _ _ _ h => h) (Or.inl ⟨by rfl, ?_⟩) (hS0.1) (Or.inr hS0.2) ?_
  rotate_left
  · intro w hS
    go_simp
    try rfl
  simp only [Act.put, List.getElem_toArray, List.getElem_cons_succ, List.getElem_cons_zero, List.setIfInBounds_toArray, List.set_cons_zero, List.set_cons_succ]
  refine G_one (i := 7) (by kernel_rfl) ?_
  refine wpOp_of_wp rfl rfl ?_
  refine wp_append_src _ (.tmp 68) (.tmp 69) 94 rfl w.heap.size 137 il (.agg #[.int .i64 0, .int .i64 0]) 2 16 Try.underlying94 ilh il0 il1 il2 rfl (by decide) (.slice none 0 0) 0 [] (by simp [Act.eval]) (World.ownsRow_nil _ _ _ _) a3 L.length c3 (ev L) (by simp [Act.eval]) (ev_length L) h3.nil ((h3.lp.below hbd).cells) (ev_one L) (by unfold maxLen; omega) (by omega) (hbd.size) ?_
  intro aR cR wA hoA hgA _
  rw [Nat.zero_add, List.nil_append] at hoA
  have bwA : Below w.heap.size w wA := hbd.grown hgA hbd.size (fun k e => by simp [Value.ownBlock] at e)
  have hSwA : wA.cell? ⟨bw, 0, none⟩ = some (.pointer (some ⟨c, 0, none⟩)) ∧ wA.cell? ⟨c, 1, none⟩ = some (.slice none 0 0) ∧ wA.cell? ⟨v, 1, none⟩ = some (.slice none 0 0) := ⟨(bwA.cell (p := ⟨bw, 0, none⟩) lb).trans hS0.1, (bwA.cell (p := ⟨c, 1, none⟩) lc).trans hS0.2.1, (bwA.cell (p := ⟨v, 1, none⟩) lv).trans hS0.2.2⟩
  refine ⟨⟨hSwA.1, Or.inr hSwA.2⟩, ?_⟩
  simp only [Act.put, List.getElem_toArray, List.getElem_cons_succ, List.getElem_cons_zero, List.setIfInBounds_toArray, List.set_cons_zero, List.set_cons_succ]
  refine G_one (i := 13) (by kernel_rfl) ?_
  refine wpOp_of_wp rfl rfl ?_
  refine wp_append_src _ (.tmp 74) (.tmp 75) 94 rfl wA.heap.size 137 il (.agg #[.int .i64 0, .int .i64 0]) 2 16 Try.underlying94 ilh il0 il1 il2 rfl (by decide) (.slice none 0 0) 0 [] (by simp [Act.eval]) (World.ownsRow_nil _ _ _ _) a3 L.length c3 (ev L) (by simp [Act.eval]) (ev_length L) h3.nil ((h3.lp.below bwA).cells) (ev_one L) (by unfold maxLen; omega) (by omega) (Nat.le_refl _) ?_
  intro aQ cQ wB hoB hgB _
  rw [Nat.zero_add, List.nil_append] at hoB
  have bwB : Below w.heap.size w wB := bwA.grown hgB bwA.size (fun k e => by simp [Value.ownBlock] at e)
  have hSwB : wB.cell? ⟨bw, 0, none⟩ = some (.pointer (some ⟨c, 0, none⟩)) ∧ wB.cell? ⟨c, 1, none⟩ = some (.slice none 0 0) ∧ wB.cell? ⟨v, 1, none⟩ = some (.slice none 0 0) := ⟨(bwB.cell (p := ⟨bw, 0, none⟩) lb).trans hS0.1, (bwB.cell (p := ⟨c, 1, none⟩) lc).trans hS0.2.1, (bwB.cell (p := ⟨v, 1, none⟩) lv).trans hS0.2.2⟩
  refine ⟨⟨hSwB.1, Or.inr hSwB.2⟩, ?_⟩
  simp only [Act.put, List.getElem_toArray, List.getElem_cons_succ, List.getElem_cons_zero, List.setIfInBounds_toArray, List.set_cons_zero, List.set_cons_succ]
  refine G_takeA (i := 14) (v := ?_) rfl (by kernel_rfl) (by kernel_rfl) (by kernel_rfl) (by kernel_rfl) (fun _ _ _ h => h) (Or.inl ⟨by rfl, ?_⟩) (hSwB.1) (Or.inr hSwB.2) ?_
  rotate_left
  · intro w hS
    go_simp
    try rfl
  simp only [Act.put, List.getElem_toArray, List.getElem_cons_succ, List.getElem_cons_zero, List.setIfInBounds_toArray, List.set_cons_zero, List.set_cons_succ]
  refine G_takeA (i := 15) (v := ?_) rfl (by kernel_rfl) (by kernel_rfl) (by kernel_rfl) (by kernel_rfl) (fun _ _ _ h => h) (Or.inl ⟨by rfl, ?_⟩) (hSwB.1) (Or.inr hSwB.2) ?_
  rotate_left
  · intro w hS
    go_simp
    try rfl
  simp only [Act.put, List.getElem_toArray, List.getElem_cons_succ, List.getElem_cons_zero, List.setIfInBounds_toArray, List.set_cons_zero, List.set_cons_succ]
  have z0 := hSwB.2.1
  have z1 := hSwB.2.2
  have k0 := (bwB.frozen (p := ⟨c, 1, none⟩) lc).trans f0
  have k1 := (bwB.frozen (p := ⟨v, 1, none⟩) lv).trans f1
  refine G_one (i := 16) (by kernel_rfl) ?_
  refine wpOp_of_wp rfl rfl ?_
  simp only [List.getElem_toArray, List.getElem_cons_succ, List.getElem_cons_zero]
  go_simp
  have hcb : bw ≠ c := fun e => by rw [e, hw] at hbw; simp at hbw
  have m1 : (wB.setCell ⟨c, 1, none⟩ (.slice aR L.length cR)).cell? ⟨bw, 0, none⟩ = some (.pointer (some ⟨c, 0, none⟩)) := (cell_set hcb).trans hSwB.1
  have m2 : (wB.setCell ⟨c, 1, none⟩ (.slice aR L.length cR)).cell? ⟨v, 1, none⟩ = some (.slice none 0 0) := (cell_set (Ne.symm hcv)).trans z1
  have m3 : (wB.setCell ⟨c, 1, none⟩ (.slice aR L.length cR)).frozen? ⟨v, 1, none⟩ = false := (World.frozen?_of_block (a := ⟨v, 1, none⟩) (Below.heap_setCell _ _ _ _ (Ne.symm hcv))).trans k1
  first
    | refine ⟨⟨m1, Or.inl ⟨16, by simp, by kernel_rfl⟩⟩, ?_⟩
    | refine ⟨Or.inl ⟨16, by simp, by kernel_rfl⟩, ?_⟩
  refine G_takeA (i := 17) (v := ?_) rfl (by kernel_rfl) (by kernel_rfl) (by kernel_rfl) (by kernel_rfl) (fun _ _ _ h => h) (Or.inl ⟨by rfl, ?_⟩) (m1) (Or.inl ⟨16, by simp, by kernel_rfl⟩) ?_
  rotate_left
  · intro w hS
    go_simp
    try rfl
  simp only [Act.put, List.getElem_toArray, List.getElem_cons_succ, List.getElem_cons_zero, List.setIfInBounds_toArray, List.set_cons_zero, List.set_cons_succ]
  refine G_takeA (i := 18) (v := ?_) rfl (by kernel_rfl) (by kernel_rfl) (by kernel_rfl) (by kernel_rfl) (fun _ _ _ h => h) (Or.inl ⟨by rfl, ?_⟩) (m1) (Or.inl ⟨16, by simp, by kernel_rfl⟩) ?_
  rotate_left
  · intro w hS
    go_simp
    try rfl
  simp only [Act.put, List.getElem_toArray, List.getElem_cons_succ, List.getElem_cons_zero, List.setIfInBounds_toArray, List.set_cons_zero, List.set_cons_succ]
  refine G_one (i := 19) (by kernel_rfl) ?_
  refine wpOp_of_wp rfl rfl ?_
  simp only [List.getElem_toArray, List.getElem_cons_succ, List.getElem_cons_zero]
  go_simp
  have hbv : bw ≠ v := fun e => by rw [e, hv] at hbw; simp at hbw
  have m4 : ((wB.setCell ⟨c, 1, none⟩ (.slice aR L.length cR)).setCell ⟨v, 1, none⟩ (.slice aQ L.length cQ)).cell? ⟨bw, 0, none⟩ = some (.pointer (some ⟨c, 0, none⟩)) := (cell_set hbv).trans m1
  first
    | refine ⟨⟨m4, Or.inl ⟨16, by simp, by kernel_rfl⟩⟩, ?_⟩
    | refine ⟨Or.inl ⟨16, by simp, by kernel_rfl⟩, ?_⟩
  refine G_done (by kernel_rfl) ?_ _
  have oA := row_keep (w' := wB) hoA (fun k e => hgB.block k (row_lt hoA k e).2 (by simp [Value.ownBlock]))
  have hcB := (bwB.block c lc).trans hw
  have hvB := (bwB.block v lv).trans hv
  have kk : ∀ k, k ≠ c → k ≠ v → ((wB.setCell ⟨c, 1, none⟩ (.slice aR L.length cR)).setCell ⟨v, 1, none⟩ (.slice aQ L.length cQ)).heap[k]? = wB.heap[k]? := fun k hk hk2 => (Below.heap_setCell _ _ _ _ hk2).trans (Below.heap_setCell _ _ _ _ hk)
  have t2 := row_keep (w' := (wB.setCell ⟨c, 1, none⟩ (.slice aR L.length cR)).setCell ⟨v, 1, none⟩ (.slice aQ L.length cQ)) oA (fun k e => kk k (by have := (row_lt oA k e).1; omega) (by have := (row_lt oA k e).1; omega))
  have hsA := bwA.size
  have t3 := row_keep (w' := (wB.setCell ⟨c, 1, none⟩ (.slice aR L.length cR)).setCell ⟨v, 1, none⟩ (.slice aQ L.length cQ)) hoB (fun k e => kk k (by have := (row_lt hoB k e).1; omega) (by have := (row_lt hoB k e).1; omega))
  have t4 : Fr (fun k => k = c ∨ k = v) w ((wB.setCell ⟨c, 1, none⟩ (.slice aR L.length cR)).setCell ⟨v, 1, none⟩ (.slice aQ L.length cQ)) := ((Fr.of (X := fun k => k = c ∨ k = v) bwB).set c 1 _ (Or.inl rfl)).set v 1 _ (Or.inr rfl)
  have u1 := (Below.heap_setCell (wB.setCell ⟨c, 1, none⟩ (.slice aR L.length cR)) ⟨v, 1, none⟩ (.slice aQ L.length cQ) c hcv).trans (set_snd (v := .slice aR L.length cR) hcB)
  have u2 := set_snd (v := .slice aQ L.length cQ) ((Below.heap_setCell wB ⟨c, 1, none⟩ (.slice aR L.length cR) v (Ne.symm hcv)).trans hvB)
  exact NoPanic.normal (HQ.out _ _ _ _ _ _ _ _ _ _ _ _ _ _ _ _ _ _ _ _ _ _ wA.heap.size _ u1 u2 t2 t3 (fun k e => (row_lt hoA k e).2) hsA t4)

end Go.Proofs.Ythlfgddhkffilaa.SWak
