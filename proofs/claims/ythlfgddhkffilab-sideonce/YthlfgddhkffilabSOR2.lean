/- SideOnce: its region that lays a set's lists. -/
import Derived.Test.YthlfgddhkffilabSOR
import Derived.Test.YthlfgddhkffilabHg
namespace Go.Proofs.Ythlfgddhkffilab.SOnce
open Go.RowKit W Kp Stl

theorem infoTwoO : (Try.prog.info? 94).map (fun i => (i.zero, i.size, i.bytes)) = some (some (.agg #[.int .i64 0, .int .i64 0]), 2, 16) := by kernel_rfl

set_option maxRecDepth 100000 in
set_option maxHeartbeats 2000000 in
theorem r8_wp {s0 s1 s4 s5 s6 s7 s8 s9 s11 s12 s13 s14 s15 s16 s17 s18 s19 s20 s21 s22 s23 s24 s25 s26 s27 s28 s29 s30 s31 s32 s33 s34 s35 s36 s37 s38 s39 s40 s41 s42 s43 s44 s45 s46 s47 s48 s49 s50 s51 s52 s53 s54 s55 s56 s57 s58 s59 s60 s61 s62 s63 s64 s65 s66 s67 s68 s69 s70 s71 s72 s73 s74 s75 s76 s77 s78 s79 s80 s81 s82 s83 s84 s85 s86 s87 s88 s89 s90 s91 s92 s93 s94 s95 s96 s97 s98 s99 s100 s101 s102 s103 s104 s105 s106 s107 s108 s109 s110 s111 s112 s113 s114 s115 s116 s117 s118 s119 s120 s121 s122 s123 s124 s125 s126 s127 s128 s129 s130 s131 s132 s133 s134 s135 s136 s137 s138 s139 s140 s141 s142 s143 s144 s145 s146 s147 s148 s149 s150 s151 s152 s153 s154 s155 s156 s157 s158 s159 s160 s161 s162 s163 s164 s165 s166 s167 s168 s169 s170 s171 s172 s173 s174 s175 s176 s177 s178 s179 s180 s181 s182 s183 s184 s185 s186 s187 : Value} {Q : Exit → Act → World → Prop} {a2 a3 : Option Addr} {c2 c3 c bw : Nat} {A : List Int} {L : List En} {w : World} (h2 : Lw w a2 A c2) (h3 : Li w a3 L c3) (g2 : A.length ≤ 100) (g3 : L.length ≤ 100) (hw : w.heap[c]? = some (.cells #[.slice none 0 0, .slice none 0 0] 32 (0, 0))) (hbw : w.heap[bw]? = some (.cells #[.pointer (some ⟨c, 0, none⟩)] 30 (0, 0)))
    (hQ : ∀ (v55 v56 v57 v58 v59 v60 v61 v62 v63 v64 v65 v66 v67 v68 v69 v70 v71 v72 : Value) (aR aQ : Option Addr) (cR cQ : Nat) (w' : World), w'.heap[c]? = some (.cells #[.slice aR A.length cR, .slice aQ L.length cQ] 32 (0, 0)) → w'.ownsRow w.heap.size 2 1 (.slice aR A.length cR) A.length (A.map (Value.int .i64)) → w'.ownsRow w.heap.size 94 2 (.slice aQ L.length cQ) L.length (ev L) → Fr (fun k => k = c) w w' → Q .normal ⟨#[s0, s1, .slice a2 A.length c2, .slice a3 L.length c3, s4, s5, s6, s7, s8, s9, .pointer (some ⟨bw, 0, none⟩), s11, s12, s13, s14, s15, s16, s17, s18, s19, s20, s21, s22, s23, s24, s25, s26, s27, s28, s29, s30, s31, s32, s33, s34, s35, s36, s37, s38, s39, s40, s41, s42, s43, s44, s45, s46, s47, s48, s49, s50, s51, s52, s53, s54, v55, v56, v57, v58, v59, v60, v61, v62, v63, v64, v65, v66, v67, v68, v69, v70, v71, v72, s73, s74, s75, s76, s77, s78, s79, s80, s81, s82, s83, s84, s85, s86, s87, s88, s89, s90, s91, s92, s93, s94, s95, s96, s97, s98, s99, s100, s101, s102, s103, s104, s105, s106, s107, s108, s109, s110, s111, s112, s113, s114, s115, s116, s117, s118, s119, s120, s121, s122, s123, s124, s125, s126, s127, s128, s129, s130, s131, s132, s133, s134, s135, s136, s137, s138, s139, s140, s141, s142, s143, s144, s145, s146, s147, s148, s149, s150, s151, s152, s153, s154, s155, s156, s157, s158, s159, s160, s161, s162, s163, s164, s165, s166, s167, s168, s169, s170, s171, s172, s173, s174, s175, s176, s177, s178, s179, s180, s181, s182, s183, s184, s185, s186, s187], []⟩ w') :
    Code.wp Try.prog r8C Q ⟨#[s0, s1, .slice a2 A.length c2, .slice a3 L.length c3, s4, s5, s6, s7, s8, s9, .pointer (some ⟨bw, 0, none⟩), s11, s12, s13, s14, s15, s16, s17, s18, s19, s20, s21, s22, s23, s24, s25, s26, s27, s28, s29, s30, s31, s32, s33, s34, s35, s36, s37, s38, s39, s40, s41, s42, s43, s44, s45, s46, s47, s48, s49, s50, s51, s52, s53, s54, s55, s56, s57, s58, s59, s60, s61, s62, s63, s64, s65, s66, s67, s68, s69, s70, s71, s72, s73, s74, s75, s76, s77, s78, s79, s80, s81, s82, s83, s84, s85, s86, s87, s88, s89, s90, s91, s92, s93, s94, s95, s96, s97, s98, s99, s100, s101, s102, s103, s104, s105, s106, s107, s108, s109, s110, s111, s112, s113, s114, s115, s116, s117, s118, s119, s120, s121, s122, s123, s124, s125, s126, s127, s128, s129, s130, s131, s132, s133, s134, s135, s136, s137, s138, s139, s140, s141, s142, s143, s144, s145, s146, s147, s148, s149, s150, s151, s152, s153, s154, s155, s156, s157, s158, s159, s160, s161, s162, s163, s164, s165, s166, s167, s168, s169, s170, s171, s172, s173, s174, s175, s176, s177, s178, s179, s180, s181, s182, s183, s184, s185, s186, s187], []⟩ w := by
  conv => arg 2; whnf
  refine wp_region_noPanic ?_
  refine wp_region_any (by kernel_rfl) ?_
  obtain ⟨il, ilh, il0, il1, il2⟩ := info_parts info64
  obtain ⟨it, ith, it0, it1, it2⟩ := info_parts infoTwoO
  have HQ : Hid (∀ (v55 v56 v57 v58 v59 v60 v61 v62 v63 v64 v65 v66 v67 v68 v69 v70 v71 v72 : Value) (aR aQ : Option Addr) (cR cQ : Nat) (w' : World), w'.heap[c]? = some (.cells #[.slice aR A.length cR, .slice aQ L.length cQ] 32 (0, 0)) → w'.ownsRow w.heap.size 2 1 (.slice aR A.length cR) A.length (A.map (Value.int .i64)) → w'.ownsRow w.heap.size 94 2 (.slice aQ L.length cQ) L.length (ev L) → Fr (fun k => k = c) w w' → Q .normal ⟨#[s0, s1, .slice a2 A.length c2, .slice a3 L.length c3, s4, s5, s6, s7, s8, s9, .pointer (some ⟨bw, 0, none⟩), s11, s12, s13, s14, s15, s16, s17, s18, s19, s20, s21, s22, s23, s24, s25, s26, s27, s28, s29, s30, s31, s32, s33, s34, s35, s36, s37, s38, s39, s40, s41, s42, s43, s44, s45, s46, s47, s48, s49, s50, s51, s52, s53, s54, v55, v56, v57, v58, v59, v60, v61, v62, v63, v64, v65, v66, v67, v68, v69, v70, v71, v72, s73, s74, s75, s76, s77, s78, s79, s80, s81, s82, s83, s84, s85, s86, s87, s88, s89, s90, s91, s92, s93, s94, s95, s96, s97, s98, s99, s100, s101, s102, s103, s104, s105, s106, s107, s108, s109, s110, s111, s112, s113, s114, s115, s116, s117, s118, s119, s120, s121, s122, s123, s124, s125, s126, s127, s128, s129, s130, s131, s132, s133, s134, s135, s136, s137, s138, s139, s140, s141, s142, s143, s144, s145, s146, s147, s148, s149, s150, s151, s152, s153, s154, s155, s156, s157, s158, s159, s160, s161, s162, s163, s164, s165, s166, s167, s168, s169, s170, s171, s172, s173, s174, s175, s176, s177, s178, s179, s180, s181, s182, s183, s184, s185, s186, s187], []⟩ w') := hQ
  clear hQ
  have H2 : Hid (Lw w a2 A c2) := h2
  have H3 : Hid (Li w a3 L c3) := h3
  have lc := lt_of_some hw
  have lb := lt_of_some hbw
  have hbd := (Below.refl w.heap.size w).drew
  have f0 : w.frozen? ⟨c, 0, none⟩ = false := by simp [World.frozen?, hw]
  have f1 : w.frozen? ⟨c, 1, none⟩ = false := by simp [World.frozen?, hw]
  have hS0 : w.drew.cell? ⟨bw, 0, none⟩ = some (.pointer (some ⟨c, 0, none⟩)) ∧ w.drew.cell? ⟨c, 0, none⟩ = some (.slice none 0 0) ∧ w.drew.cell? ⟨c, 1, none⟩ = some (.slice none 0 0) := ⟨show w.cell? _ = _ by simp [World.cell?, hbw], show w.cell? _ = _ by simp [World.cell?, hw], show w.cell? _ = _ by simp [World.cell?, hw]⟩
  refine any_of_G (T := fun w' => w'.cell? ⟨bw, 0, none⟩ = some (.pointer (some ⟨c, 0, none⟩))) (S := fun w' => w'.cell? ⟨c, 0, none⟩ = some (.slice none 0 0) ∧ w'.cell? ⟨c, 1, none⟩ = some (.slice none 0 0)) (St := [16, 19]) _ _ _ _ ?_
  refine G_takeA (i := 0) (v := ?_) rfl (by kernel_rfl) (by kernel_rfl) (by kernel_rfl) (by kernel_rfl) (fun _ _ _ h => h) (Or.inl ⟨by rfl, ?_⟩) (hS0.1) (Or.inr hS0.2) ?_
  rotate_left
  · intro w hS
    go_simp
    try rfl
  simp only [Act.put, List.getElem_toArray, List.getElem_cons_zero, List.setIfInBounds_toArray, List.set_cons_zero, List.set_cons_succ]
  refine G_takeA (i := 1) (v := ?_) rfl (by kernel_rfl) (by kernel_rfl) (by kernel_rfl) (by kernel_rfl) (fun _ _ _ h => h) (Or.inl ⟨by rfl, ?_⟩) (hS0.1) (Or.inr hS0.2) ?_
  rotate_left
  · intro w hS
    go_simp
    try rfl
  simp only [Act.put, List.getElem_toArray, List.getElem_cons_succ, List.getElem_cons_zero, List.setIfInBounds_toArray, List.set_cons_zero, List.set_cons_succ]
  refine G_takeA (i := 2) (v := ?_) rfl (by kernel_rfl) (by kernel_rfl) (by kernel_rfl) (by kernel_rfl) (fun _ _ _ h => h) (Or.inl ⟨by rfl, ?_⟩) (hS0.1) (Or.inr hS0.2) ?_
  rotate_left
  · intro w hS
    go_simp
    try rfl
  simp only [Act.put, List.getElem_toArray, List.getElem_cons_succ, List.getElem_cons_zero, List.setIfInBounds_toArray, List.set_cons_zero, List.set_cons_succ]
  refine G_takeA (i := 3) (v := ?_) rfl (by kernel_rfl) (by kernel_rfl) (by kernel_rfl) (by kernel_rfl) (fun _ _ _ h => h) (Or.inl ⟨by rfl, ?_⟩) (hS0.1) (Or.inr hS0.2) ?_
  rotate_left
  · intro w hS
    go_simp
    try rfl
  simp only [Act.put, List.getElem_toArray, List.getElem_cons_succ, List.getElem_cons_zero, List.setIfInBounds_toArray, List.set_cons_zero, List.set_cons_succ]
  refine G_takeA (i := 4) (v := ?_) rfl (by kernel_rfl) (by kernel_rfl) (by kernel_rfl) (by kernel_rfl) (fun _ _ _ h => h) (Or.inl ⟨by rfl, ?_⟩) (hS0.1) (Or.inr hS0.2) ?_
  rotate_left
  · intro w hS
    go_simp
    try rfl
  simp only [Act.put, List.getElem_toArray, List.getElem_cons_succ, List.getElem_cons_zero, List.setIfInBounds_toArray, List.set_cons_zero, List.set_cons_succ]
  refine G_take (i := 5) (v := ?_) rfl (by kernel_rfl) (by kernel_rfl) (by kernel_rfl) (by kernel_rfl) (by kernel_rfl) (by kernel_rfl) (fun _ _ _ h => h) (Or.inl ⟨by rfl, ?_⟩) hS0 ?_
  rotate_left
  · intro w hS
    obtain ⟨q1, q2, q3⟩ := hS
    go_simp
    try rfl
  simp only [Act.put, List.getElem_toArray, List.getElem_cons_succ, List.getElem_cons_zero, List.setIfInBounds_toArray, List.set_cons_zero, List.set_cons_succ]
  refine G_takeA (i := 6) (v := ?_) rfl (by kernel_rfl) (by kernel_rfl) (by kernel_rfl) (by kernel_rfl) (fun _ _ _ h => h) (Or.inl ⟨by rfl, ?_⟩) (hS0.1) (Or.inr hS0.2) ?_
  rotate_left
  · intro w hS
    go_simp
    try rfl
  simp only [Act.put, List.getElem_toArray, List.getElem_cons_succ, List.getElem_cons_zero, List.setIfInBounds_toArray, List.set_cons_zero, List.set_cons_succ]
  refine G_takeA (i := 8) (v := ?_) rfl (by kernel_rfl) (by kernel_rfl) (by kernel_rfl) (by kernel_rfl) (fun _ _ _ h => h) (Or.inl ⟨by rfl, ?_⟩) (hS0.1) (Or.inr hS0.2) ?_
  rotate_left
  · intro w hS
    go_simp
    try rfl
  simp only [Act.put, List.getElem_toArray, List.getElem_cons_succ, List.getElem_cons_zero, List.setIfInBounds_toArray, List.set_cons_zero, List.set_cons_succ]
  refine G_takeA (i := 9) (v := ?_) rfl (by kernel_rfl) (by kernel_rfl) (by kernel_rfl) (by kernel_rfl) (fun _ _ _ h => h) (Or.inl ⟨by rfl, ?_⟩) (hS0.1) (Or.inr hS0.2) ?_
  rotate_left
  · intro w hS
    go_simp
    try rfl
  simp only [Act.put, List.getElem_toArray, List.getElem_cons_succ, List.getElem_cons_zero, List.setIfInBounds_toArray, List.set_cons_zero, List.set_cons_succ]
  refine G_takeA (i := 10) (v := ?_) rfl (by kernel_rfl) (by kernel_rfl) (by kernel_rfl) (by kernel_rfl) (fun _ _ _ h => h) (Or.inl ⟨by rfl, ?_⟩) (hS0.1) (Or.inr hS0.2) ?_
  rotate_left
  · intro w hS
    go_simp
    try rfl
  simp only [Act.put, List.getElem_toArray, List.getElem_cons_succ, List.getElem_cons_zero, List.setIfInBounds_toArray, List.set_cons_zero, List.set_cons_succ]
  refine G_take (i := 11) (v := ?_) rfl (by kernel_rfl) (by kernel_rfl) (by kernel_rfl) (by kernel_rfl) (by kernel_rfl) (by kernel_rfl) (fun _ _ _ h => h) (Or.inl ⟨by rfl, ?_⟩) hS0 ?_
  rotate_left
  · intro w hS
    obtain ⟨q1, q2, q3⟩ := hS
    go_simp
    try rfl
  simp only [Act.put, List.getElem_toArray, List.getElem_cons_succ, List.getElem_cons_zero, List.setIfInBounds_toArray, List.set_cons_zero, List.set_cons_succ]
  refine G_takeA (i := 12) (v := ?_) rfl (by kernel_rfl) (by kernel_rfl) (by kernel_rfl) (by kernel_rfl) (fun _ _ _ h => h) (Or.inl ⟨by rfl, ?_⟩) (hS0.1) (Or.inr hS0.2) ?_
  rotate_left
  · intro w hS
    go_simp
    try rfl
  simp only [Act.put, List.getElem_toArray, List.getElem_cons_succ, List.getElem_cons_zero, List.setIfInBounds_toArray, List.set_cons_zero, List.set_cons_succ]
  refine G_one (i := 7) (by kernel_rfl) ?_
  refine wpOp_of_wp rfl rfl ?_
  refine wp_append_src _ (.tmp 60) (.tmp 61) 23 rfl w.heap.size 2 il (.int .i64 0) 1 8 Try.underlying23 ilh il0 il1 il2 rfl (by decide) (.slice none 0 0) 0 [] (by simp [Act.eval]) (World.ownsRow_nil _ _ _ _) a2 A.length c2 (A.map (Value.int .i64)) (by simp [Act.eval]) (by simp) H2.out.nil ((H2.out.ls.below hbd).cells) (ints_oneC A) (by unfold maxLen; omega) (by omega) (hbd.size) ?_
  intro aR cR wA hoA hgA _
  rw [Nat.zero_add, List.nil_append] at hoA
  have bwA : Below w.heap.size w wA := hbd.grown hgA hbd.size (fun k e => by simp [Value.ownBlock] at e)
  have hSwA : wA.cell? ⟨bw, 0, none⟩ = some (.pointer (some ⟨c, 0, none⟩)) ∧ wA.cell? ⟨c, 0, none⟩ = some (.slice none 0 0) ∧ wA.cell? ⟨c, 1, none⟩ = some (.slice none 0 0) := ⟨(bwA.cell (p := ⟨bw, 0, none⟩) lb).trans hS0.1, (bwA.cell (p := ⟨c, 0, none⟩) lc).trans hS0.2.1, (bwA.cell (p := ⟨c, 1, none⟩) lc).trans hS0.2.2⟩
  refine ⟨⟨hSwA.1, Or.inr hSwA.2⟩, ?_⟩
  simp only [Act.put, List.getElem_toArray, List.getElem_cons_succ, List.getElem_cons_zero, List.setIfInBounds_toArray, List.set_cons_zero, List.set_cons_succ]
  refine G_one (i := 13) (by kernel_rfl) ?_
  refine wpOp_of_wp rfl rfl ?_
  refine wp_append_src _ (.tmp 66) (.tmp 67) 24 rfl w.heap.size 94 it (.agg #[.int .i64 0, .int .i64 0]) 2 16 Try.underlying24 ith it0 it1 it2 rfl (by decide) (.slice none 0 0) 0 [] (by simp [Act.eval]) (World.ownsRow_nil _ _ _ _) a3 L.length c3 (ev L) (by simp [Act.eval]) (ev_length L) H3.out.nil ((H3.out.lp.below bwA).cells) (ev_one L) (by unfold maxLen; omega) (by omega) (bwA.size) ?_
  intro aQ cQ wB hoB hgB _
  rw [Nat.zero_add, List.nil_append] at hoB
  have bwB : Below w.heap.size w wB := bwA.grown hgB bwA.size (fun k e => by simp [Value.ownBlock] at e)
  have hSwB : wB.cell? ⟨bw, 0, none⟩ = some (.pointer (some ⟨c, 0, none⟩)) ∧ wB.cell? ⟨c, 0, none⟩ = some (.slice none 0 0) ∧ wB.cell? ⟨c, 1, none⟩ = some (.slice none 0 0) := ⟨(bwB.cell (p := ⟨bw, 0, none⟩) lb).trans hS0.1, (bwB.cell (p := ⟨c, 0, none⟩) lc).trans hS0.2.1, (bwB.cell (p := ⟨c, 1, none⟩) lc).trans hS0.2.2⟩
  refine ⟨⟨hSwB.1, Or.inr hSwB.2⟩, ?_⟩
  simp only [Act.put, List.getElem_toArray, List.getElem_cons_succ, List.getElem_cons_zero, List.setIfInBounds_toArray, List.set_cons_zero, List.set_cons_succ]
  refine G_takeA (i := 14) (v := ?_) rfl (by kernel_rfl) (by kernel_rfl) (by kernel_rfl) (by kernel_rfl) (fun _ _ _ h => h) (Or.inl ⟨by rfl, ?_⟩) (hSwB.1) (Or.inr hSwB.2) ?_
  rotate_left
  · intro w hS
    go_simp
    try rfl
  simp only [Act.put, List.getElem_toArray, List.getElem_cons_succ, List.getElem_cons_zero, List.setIfInBounds_toArray, List.set_cons_zero, List.set_cons_succ]
  refine G_takeA (i := 15) (v := ?_) rfl (by kernel_rfl) (by kernel_rfl) (by kernel_rfl) (by kernel_rfl) (fun _ _ _ h => h) (Or.inl ⟨by rfl, ?_⟩) (hSwB.1) (Or.inr hSwB.2) ?_
  rotate_left
  · intro w hS
    go_simp
    try rfl
  simp only [Act.put, List.getElem_toArray, List.getElem_cons_succ, List.getElem_cons_zero, List.setIfInBounds_toArray, List.set_cons_zero, List.set_cons_succ]
  have z0 := hSwB.2.1
  have z1 := hSwB.2.2
  have k0 := (bwB.frozen (p := ⟨c, 0, none⟩) lc).trans f0
  have k1 := (bwB.frozen (p := ⟨c, 1, none⟩) lc).trans f1
  refine G_one (i := 16) (by kernel_rfl) ?_
  refine wpOp_of_wp rfl rfl ?_
  simp only [List.getElem_toArray, List.getElem_cons_succ, List.getElem_cons_zero]
  go_simp
  have hcb : bw ≠ c := fun e => by rw [e, hw] at hbw; simp at hbw
  have m1 : (wB.setCell ⟨c, 0, none⟩ (.slice aR A.length cR)).cell? ⟨bw, 0, none⟩ = some (.pointer (some ⟨c, 0, none⟩)) := (cell_set hcb).trans hSwB.1
  have m2 : (wB.setCell ⟨c, 0, none⟩ (.slice aR A.length cR)).cell? ⟨c, 1, none⟩ = some (.slice none 0 0) := (World.cell?_setCell_other wB ⟨c, 0, none⟩ ⟨c, 1, none⟩ _ (by simp)).trans z1
  refine ⟨⟨m1, Or.inl ⟨16, by simp, by kernel_rfl⟩⟩, ?_⟩
  refine G_takeA (i := 17) (v := ?_) rfl (by kernel_rfl) (by kernel_rfl) (by kernel_rfl) (by kernel_rfl) (fun _ _ _ h => h) (Or.inl ⟨by rfl, ?_⟩) (m1) (Or.inl ⟨16, by simp, by kernel_rfl⟩) ?_
  rotate_left
  · intro w hS
    go_simp
    try rfl
  simp only [Act.put, List.getElem_toArray, List.getElem_cons_succ, List.getElem_cons_zero, List.setIfInBounds_toArray, List.set_cons_zero, List.set_cons_succ]
  refine G_takeA (i := 18) (v := ?_) rfl (by kernel_rfl) (by kernel_rfl) (by kernel_rfl) (by kernel_rfl) (fun _ _ _ h => h) (Or.inl ⟨by rfl, ?_⟩) (m1) (Or.inl ⟨16, by simp, by kernel_rfl⟩) ?_
  rotate_left
  · intro w hS
    go_simp
    try rfl
  simp only [Act.put, List.getElem_toArray, List.getElem_cons_succ, List.getElem_cons_zero, List.setIfInBounds_toArray, List.set_cons_zero, List.set_cons_succ]
  refine G_one (i := 19) (by kernel_rfl) ?_
  refine wpOp_of_wp rfl rfl ?_
  simp only [List.getElem_toArray, List.getElem_cons_succ, List.getElem_cons_zero]
  go_simp
  refine ⟨Or.inl ⟨16, by simp, by kernel_rfl⟩, ?_⟩
  refine G_done (by kernel_rfl) ?_ _
  have oA := row_keep (w' := wB) hoA (fun k e => hgB.block k (row_lt hoA k e).2 (by simp [Value.ownBlock]))
  have hcB := (bwB.block c lc).trans hw
  have kk : ∀ k, k ≠ c → ((wB.setCell ⟨c, 0, none⟩ (.slice aR A.length cR)).setCell ⟨c, 1, none⟩ (.slice aQ L.length cQ)).heap[k]? = wB.heap[k]? := fun k hk => (Below.heap_setCell _ _ _ _ hk).trans (Below.heap_setCell _ _ _ _ hk)
  have t2 := row_keep (w' := (wB.setCell ⟨c, 0, none⟩ (.slice aR A.length cR)).setCell ⟨c, 1, none⟩ (.slice aQ L.length cQ)) oA (fun k e => kk k (by have := (row_lt oA k e).1; omega))
  have t3 := row_keep (w' := (wB.setCell ⟨c, 0, none⟩ (.slice aR A.length cR)).setCell ⟨c, 1, none⟩ (.slice aQ L.length cQ)) hoB (fun k e => kk k (by have := (row_lt hoB k e).1; omega))
  have t4 : Fr (fun k => k = c) w ((wB.setCell ⟨c, 0, none⟩ (.slice aR A.length cR)).setCell ⟨c, 1, none⟩ (.slice aQ L.length cQ)) := ((Fr.of (X := fun k => k = c) bwB).set c 0 _ rfl).set c 1 _ rfl
  exact NoPanic.normal (HQ.out _ _ _ _ _ _ _ _ _ _ _ _ _ _ _ _ _ _ _ _ _ _ _ (set_two hcB) t2 t3 t4)

end Go.Proofs.Ythlfgddhkffilab.SOnce
