/- SideWakes: which is woken; Wake, and what it is held against. -/
import Derived.Test.YthlfgddhkffilaaSWR
namespace Go.Proofs.Ythlfgddhkffilaa.SWak
open Go.RowKit W Kp Stl

noncomputable def r21C : Code := (Try.f14.body.bind (findRg 21)).getD .skip
noncomputable def r25C : Code := (Try.f14.body.bind (findRg 25)).getD .skip

set_option maxRecDepth 100000 in
set_option maxHeartbeats 2000000 in
theorem r21_wp {s0 s1 s2 s3 s4 s5 s6 s7 s8 s10 s11 s12 s13 s14 s15 s17 s18 s19 s20 s21 s22 s23 s24 s25 s26 s27 s28 s29 s30 s31 s32 s33 s34 s35 s36 s37 s38 s39 s40 s41 s42 s43 s44 s45 s46 s47 s48 s49 s50 s51 s52 s53 s54 s55 s56 s57 s58 s59 s60 s61 s62 s63 s64 s65 s66 s67 s68 s69 s70 s71 s72 s73 s74 s75 s76 s77 s78 s79 s80 s81 s82 s83 s84 s85 s86 s87 s88 s89 s90 s91 s92 s93 s94 s95 s96 s97 s98 s99 s100 s101 s102 s103 s104 s105 s106 s107 s108 s109 s110 s111 s112 s113 s114 s115 s116 s117 s118 s119 s120 s121 s122 s123 s124 s125 s126 s127 s128 s129 s130 s131 s132 s133 s134 s135 s136 s137 s138 s139 s140 s141 s142 s143 s144 s145 s146 s147 s148 s149 s150 s151 s152 s153 s154 s155 s156 s157 s158 s159 s160 s161 : Value} {Q : Exit → Act → World → Prop} {v eb : Nat} {g z : Int} {b1 b3 : Bool} {w : World} (y0 : w.cell? ⟨eb, 0, none⟩ = some (.int .i64 g)) (y1 : w.cell? ⟨eb, 1, none⟩ = some (.int .i64 z)) (I1 : Calls Try.prog 75 #[.pointer (some ⟨v, 0, none⟩), .int .i64 g] w fun e w' => e = .returned (.bool b1) ∧ w' = w) (I3 : Calls Try.prog 75 #[.pointer (some ⟨v, 0, none⟩), .int .i64 z] w fun e w' => e = .returned (.bool b3) ∧ w' = w)
    (hQ : ∀ (v104 v105 v106 v107 v108 v109 v110 v111 v112 v113 v114 v115 v116 v117 v118 : Value), Q .normal ⟨#[s0, s1, s2, s3, s4, s5, s6, s7, s8, .pointer (some ⟨v, 0, none⟩), s10, s11, s12, s13, s14, s15, .pointer (some ⟨eb, 0, none⟩), s17, s18, s19, s20, s21, s22, s23, s24, s25, s26, s27, s28, s29, s30, s31, s32, s33, s34, s35, s36, s37, s38, s39, s40, s41, s42, s43, s44, s45, s46, s47, s48, s49, s50, s51, s52, s53, s54, s55, s56, s57, s58, s59, s60, s61, s62, s63, s64, s65, s66, s67, s68, s69, s70, s71, s72, s73, s74, s75, s76, s77, s78, s79, s80, s81, s82, s83, s84, s85, s86, s87, s88, s89, s90, s91, s92, s93, s94, s95, s96, s97, s98, s99, s100, s101, s102, s103, v104, v105, v106, v107, v108, v109, v110, v111, v112, v113, v114, v115, v116, v117, v118, .bool (b1 && decide (z < 1000) && !b3), s120, s121, s122, s123, s124, s125, s126, s127, s128, s129, s130, s131, s132, s133, s134, s135, s136, s137, s138, s139, s140, s141, s142, s143, s144, s145, s146, s147, s148, s149, s150, s151, s152, s153, s154, s155, s156, s157, s158, s159, s160, s161], []⟩ w) :
    Code.wp Try.prog r21C Q ⟨#[s0, s1, s2, s3, s4, s5, s6, s7, s8, .pointer (some ⟨v, 0, none⟩), s10, s11, s12, s13, s14, s15, .pointer (some ⟨eb, 0, none⟩), s17, s18, s19, s20, s21, s22, s23, s24, s25, s26, s27, s28, s29, s30, s31, s32, s33, s34, s35, s36, s37, s38, s39, s40, s41, s42, s43, s44, s45, s46, s47, s48, s49, s50, s51, s52, s53, s54, s55, s56, s57, s58, s59, s60, s61, s62, s63, s64, s65, s66, s67, s68, s69, s70, s71, s72, s73, s74, s75, s76, s77, s78, s79, s80, s81, s82, s83, s84, s85, s86, s87, s88, s89, s90, s91, s92, s93, s94, s95, s96, s97, s98, s99, s100, s101, s102, s103, s104, s105, s106, s107, s108, s109, s110, s111, s112, s113, s114, s115, s116, s117, s118, s119, s120, s121, s122, s123, s124, s125, s126, s127, s128, s129, s130, s131, s132, s133, s134, s135, s136, s137, s138, s139, s140, s141, s142, s143, s144, s145, s146, s147, s148, s149, s150, s151, s152, s153, s154, s155, s156, s157, s158, s159, s160, s161], []⟩ w := by
  conv => arg 2; whnf
  have HQ : Hid (∀ (v104 v105 v106 v107 v108 v109 v110 v111 v112 v113 v114 v115 v116 v117 v118 : Value), Q .normal ⟨#[s0, s1, s2, s3, s4, s5, s6, s7, s8, .pointer (some ⟨v, 0, none⟩), s10, s11, s12, s13, s14, s15, .pointer (some ⟨eb, 0, none⟩), s17, s18, s19, s20, s21, s22, s23, s24, s25, s26, s27, s28, s29, s30, s31, s32, s33, s34, s35, s36, s37, s38, s39, s40, s41, s42, s43, s44, s45, s46, s47, s48, s49, s50, s51, s52, s53, s54, s55, s56, s57, s58, s59, s60, s61, s62, s63, s64, s65, s66, s67, s68, s69, s70, s71, s72, s73, s74, s75, s76, s77, s78, s79, s80, s81, s82, s83, s84, s85, s86, s87, s88, s89, s90, s91, s92, s93, s94, s95, s96, s97, s98, s99, s100, s101, s102, s103, v104, v105, v106, v107, v108, v109, v110, v111, v112, v113, v114, v115, v116, v117, v118, .bool (b1 && decide (z < 1000) && !b3), s120, s121, s122, s123, s124, s125, s126, s127, s128, s129, s130, s131, s132, s133, s134, s135, s136, s137, s138, s139, s140, s141, s142, s143, s144, s145, s146, s147, s148, s149, s150, s151, s152, s153, s154, s155, s156, s157, s158, s159, s160, s161], []⟩ w) := hQ
  have H1 : Hid (Calls Try.prog 75 #[.pointer (some ⟨v, 0, none⟩), .int .i64 g] w fun e w' => e = .returned (.bool b1) ∧ w' = w) := I1
  have H3 : Hid (Calls Try.prog 75 #[.pointer (some ⟨v, 0, none⟩), .int .i64 z] w fun e w' => e = .returned (.bool b3) ∧ w' = w) := I3
  clear hQ I1 I3
  cases b1
  · go_wp2_with fail
    refine H1.out.mono ?_
    rintro e w' ⟨rfl, hw⟩
    have hw := hw.symm
    subst hw
    go_wp2_with fail
    refine HQ.out _ _ _ _ _ _ _ _ _ _ _ _ _ _ _
  · by_cases hz : z < 1000
    · rw [decide_eq_true hz] at HQ
      cases b3
      · go_wp2_with fail
        refine H1.out.mono ?_
        rintro e w' ⟨rfl, hw⟩
        have hw := hw.symm
        subst hw
        go_wp2_with fail
        refine H3.out.mono ?_
        rintro e w' ⟨rfl, hw⟩
        have hw := hw.symm
        subst hw
        go_wp2_with fail
        refine HQ.out _ _ _ _ _ _ _ _ _ _ _ _ _ _ _
      · go_wp2_with fail
        refine H1.out.mono ?_
        rintro e w' ⟨rfl, hw⟩
        have hw := hw.symm
        subst hw
        go_wp2_with fail
        refine H3.out.mono ?_
        rintro e w' ⟨rfl, hw⟩
        have hw := hw.symm
        subst hw
        go_wp2_with fail
        refine HQ.out _ _ _ _ _ _ _ _ _ _ _ _ _ _ _
    · rw [decide_eq_false hz] at HQ
      go_wp2_with fail
      refine H1.out.mono ?_
      rintro e w' ⟨rfl, hw⟩
      have hw := hw.symm
      subst hw
      go_wp2_with fail
      refine HQ.out _ _ _ _ _ _ _ _ _ _ _ _ _ _ _

set_option maxRecDepth 100000 in
set_option maxHeartbeats 2000000 in
theorem r25_wp {s0 s1 s2 s3 s4 s5 s6 s12 s15 s16 s17 s18 s19 s20 s21 s22 s23 s24 s25 s26 s27 s28 s29 s30 s31 s32 s33 s34 s35 s36 s37 s38 s39 s40 s41 s42 s43 s44 s45 s46 s47 s48 s49 s50 s51 s52 s53 s54 s55 s56 s57 s58 s59 s60 s61 s62 s63 s64 s65 s66 s67 s68 s69 s70 s71 s72 s73 s74 s75 s76 s77 s78 s79 s80 s81 s82 s83 s84 s85 s86 s87 s88 s89 s90 s91 s92 s93 s94 s95 s96 s97 s98 s99 s100 s101 s102 s103 s104 s105 s106 s107 s108 s109 s110 s111 s112 s113 s114 s115 s116 s117 s118 s119 s120 s121 s122 s123 s124 s125 s126 s127 s128 s129 s130 s131 s132 s133 s134 s135 s136 s137 s138 s139 s140 s141 s142 s143 s144 s145 s146 s147 s148 s149 s150 s151 s152 s153 s154 s155 s156 s157 s158 s159 s160 s161 : Value} {Q : Exit → Act → World → Prop} {R : World → Prop} {p bw c v n cw : Nat} {aw : Option Addr} {b : Bool} {w : World} (y0 : w.cell? ⟨bw, 0, none⟩ = some (.pointer (some ⟨c, 0, none⟩))) (C1 : Calls Try.prog 81 #[.pointer (some ⟨p, 0, none⟩), .agg #[.func (.func 79) #[] #[.pointer (some ⟨bw, 0, none⟩)], .func (.func 78) #[.pointer (some ⟨c, 0, none⟩)] #[], .func (.func 80) #[] #[]]] w.drew fun e w2 => e = .returned (.bool b) ∧ R w2) (hR : ∀ w2, R w2 → ∃ (a2 ax av : Option Addr) (k2 m kx kv : Nat), w2.cell? ⟨p, 1, none⟩ = some (.slice a2 n k2) ∧ w2.cell? ⟨bw, 0, none⟩ = some (.pointer (some ⟨c, 0, none⟩)) ∧ w2.cell? ⟨c, 0, none⟩ = some (.slice ax m kx) ∧ w2.cell? ⟨v, 0, none⟩ = some (.slice av m kv) ∧ Calls Try.prog 69 #[.slice a2 n k2, .slice aw n cw] w2 fun e w3 => e = .returned (.bool true) ∧ Below w2.heap.size w2 w3)
    (hQ : ∀ (v129 v130 v131 v132 v133 v134 v135 v136 v137 v138 v139 v140 v141 v142 v143 v144 v145 v146 v147 v148 v149 v150 v151 v152 v153 v154 v155 v156 v157 v158 : Value) (w2 w3 : World), R w2 → Below w2.heap.size w2 w3 → Q .normal ⟨#[s0, s1, s2, s3, s4, s5, s6, .pointer (some ⟨p, 0, none⟩), .pointer (some ⟨bw, 0, none⟩), .pointer (some ⟨v, 0, none⟩), .func (.func 79) #[] #[.pointer (some ⟨bw, 0, none⟩)], .func (.func 80) #[] #[], s12, .bool b, .slice aw n cw, s15, s16, s17, s18, s19, s20, s21, s22, s23, s24, s25, s26, s27, s28, s29, s30, s31, s32, s33, s34, s35, s36, s37, s38, s39, s40, s41, s42, s43, s44, s45, s46, s47, s48, s49, s50, s51, s52, s53, s54, s55, s56, s57, s58, s59, s60, s61, s62, s63, s64, s65, s66, s67, s68, s69, s70, s71, s72, s73, s74, s75, s76, s77, s78, s79, s80, s81, s82, s83, s84, s85, s86, s87, s88, s89, s90, s91, s92, s93, s94, s95, s96, s97, s98, s99, s100, s101, s102, s103, s104, s105, s106, s107, s108, s109, s110, s111, s112, s113, s114, s115, s116, s117, s118, s119, s120, s121, s122, s123, s124, s125, s126, s127, s128, v129, v130, v131, v132, v133, v134, v135, v136, v137, v138, v139, v140, v141, v142, v143, v144, v145, v146, v147, v148, v149, v150, v151, v152, v153, v154, v155, v156, v157, v158, .bool false, s160, s161], []⟩ w3) :
    Code.wp Try.prog r25C Q ⟨#[s0, s1, s2, s3, s4, s5, s6, .pointer (some ⟨p, 0, none⟩), .pointer (some ⟨bw, 0, none⟩), .pointer (some ⟨v, 0, none⟩), .func (.func 79) #[] #[.pointer (some ⟨bw, 0, none⟩)], .func (.func 80) #[] #[], s12, .bool b, .slice aw n cw, s15, s16, s17, s18, s19, s20, s21, s22, s23, s24, s25, s26, s27, s28, s29, s30, s31, s32, s33, s34, s35, s36, s37, s38, s39, s40, s41, s42, s43, s44, s45, s46, s47, s48, s49, s50, s51, s52, s53, s54, s55, s56, s57, s58, s59, s60, s61, s62, s63, s64, s65, s66, s67, s68, s69, s70, s71, s72, s73, s74, s75, s76, s77, s78, s79, s80, s81, s82, s83, s84, s85, s86, s87, s88, s89, s90, s91, s92, s93, s94, s95, s96, s97, s98, s99, s100, s101, s102, s103, s104, s105, s106, s107, s108, s109, s110, s111, s112, s113, s114, s115, s116, s117, s118, s119, s120, s121, s122, s123, s124, s125, s126, s127, s128, s129, s130, s131, s132, s133, s134, s135, s136, s137, s138, s139, s140, s141, s142, s143, s144, s145, s146, s147, s148, s149, s150, s151, s152, s153, s154, s155, s156, s157, s158, s159, s160, s161], []⟩ w := by
  conv => arg 2; whnf
  refine wp_region_noPanic ?_
  have HQ : Hid (∀ (v129 v130 v131 v132 v133 v134 v135 v136 v137 v138 v139 v140 v141 v142 v143 v144 v145 v146 v147 v148 v149 v150 v151 v152 v153 v154 v155 v156 v157 v158 : Value) (w2 w3 : World), R w2 → Below w2.heap.size w2 w3 → Q .normal ⟨#[s0, s1, s2, s3, s4, s5, s6, .pointer (some ⟨p, 0, none⟩), .pointer (some ⟨bw, 0, none⟩), .pointer (some ⟨v, 0, none⟩), .func (.func 79) #[] #[.pointer (some ⟨bw, 0, none⟩)], .func (.func 80) #[] #[], s12, .bool b, .slice aw n cw, s15, s16, s17, s18, s19, s20, s21, s22, s23, s24, s25, s26, s27, s28, s29, s30, s31, s32, s33, s34, s35, s36, s37, s38, s39, s40, s41, s42, s43, s44, s45, s46, s47, s48, s49, s50, s51, s52, s53, s54, s55, s56, s57, s58, s59, s60, s61, s62, s63, s64, s65, s66, s67, s68, s69, s70, s71, s72, s73, s74, s75, s76, s77, s78, s79, s80, s81, s82, s83, s84, s85, s86, s87, s88, s89, s90, s91, s92, s93, s94, s95, s96, s97, s98, s99, s100, s101, s102, s103, s104, s105, s106, s107, s108, s109, s110, s111, s112, s113, s114, s115, s116, s117, s118, s119, s120, s121, s122, s123, s124, s125, s126, s127, s128, v129, v130, v131, v132, v133, v134, v135, v136, v137, v138, v139, v140, v141, v142, v143, v144, v145, v146, v147, v148, v149, v150, v151, v152, v153, v154, v155, v156, v157, v158, .bool false, s160, s161], []⟩ w3) := hQ
  have HR : Hid (∀ w2, R w2 → ∃ (a2 ax av : Option Addr) (k2 m kx kv : Nat), w2.cell? ⟨p, 1, none⟩ = some (.slice a2 n k2) ∧ w2.cell? ⟨bw, 0, none⟩ = some (.pointer (some ⟨c, 0, none⟩)) ∧ w2.cell? ⟨c, 0, none⟩ = some (.slice ax m kx) ∧ w2.cell? ⟨v, 0, none⟩ = some (.slice av m kv) ∧ Calls Try.prog 69 #[.slice a2 n k2, .slice aw n cw] w2 fun e w3 => e = .returned (.bool true) ∧ Below w2.heap.size w2 w3) := hR
  have H1 : Hid (Calls Try.prog 81 #[.pointer (some ⟨p, 0, none⟩), .agg #[.func (.func 79) #[] #[.pointer (some ⟨bw, 0, none⟩)], .func (.func 78) #[.pointer (some ⟨c, 0, none⟩)] #[], .func (.func 80) #[] #[]]] w.drew fun e w2 => e = .returned (.bool b) ∧ R w2) := C1
  clear hQ C1 hR
  have hbd := (Below.refl w.heap.size w).drew
  have hT0 : w.drew.cell? ⟨bw, 0, none⟩ = some (.pointer (some ⟨c, 0, none⟩)) := y0
  cases b
  all_goals
    refine wp_region_any (by kernel_rfl) ?_
    refine any_of_G (T := fun w' => w'.cell? ⟨bw, 0, none⟩ = some (.pointer (some ⟨c, 0, none⟩))) (S := fun _ => True) (St := []) _ _ _ _ ?_
    refine G_takeA (i := 0) (v := ?_) rfl (by kernel_rfl) (by kernel_rfl) (by kernel_rfl) (by kernel_rfl) (fun _ _ _ h => h) (Or.inl ⟨by rfl, ?_⟩) (hT0) (Or.inr trivial) ?_
    rotate_left
    · intro w hS
      go_simp
      try rfl
    try simp only [Act.put, List.getElem_toArray, List.getElem_cons_zero, List.setIfInBounds_toArray, List.set_cons_zero, List.set_cons_succ]
    refine G_takeA (i := 1) (v := ?_) rfl (by kernel_rfl) (by kernel_rfl) (by kernel_rfl) (by kernel_rfl) (fun _ _ _ h => h) (Or.inl ⟨by rfl, ?_⟩) (hT0) (Or.inr trivial) ?_
    rotate_left
    · intro w hS
      go_simp
      try rfl
    try simp only [Act.put, List.getElem_toArray, List.getElem_cons_succ, List.getElem_cons_zero, List.setIfInBounds_toArray, List.set_cons_zero, List.set_cons_succ]
    refine G_takeA (i := 2) (v := ?_) rfl (by kernel_rfl) (by kernel_rfl) (by kernel_rfl) (by kernel_rfl) (fun _ _ _ h => h) (Or.inl ⟨by rfl, ?_⟩) (hT0) (Or.inr trivial) ?_
    rotate_left
    · intro w hS
      go_simp
      try rfl
    try simp only [Act.put, List.getElem_toArray, List.getElem_cons_succ, List.getElem_cons_zero, List.setIfInBounds_toArray, List.set_cons_zero, List.set_cons_succ]
    refine G_takeA (i := 3) (v := ?_) rfl (by kernel_rfl) (by kernel_rfl) (by kernel_rfl) (by kernel_rfl) (fun _ _ _ h => h) (Or.inl ⟨by rfl, ?_⟩) (hT0) (Or.inr trivial) ?_
    rotate_left
    · intro w hS
      go_simp
      try rfl
    try simp only [Act.put, List.getElem_toArray, List.getElem_cons_succ, List.getElem_cons_zero, List.setIfInBounds_toArray, List.set_cons_zero, List.set_cons_succ]
    refine G_takeA (i := 4) (v := ?_) rfl (by kernel_rfl) (by kernel_rfl) (by kernel_rfl) (by kernel_rfl) (fun _ _ _ h => h) (Or.inl ⟨by rfl, ?_⟩) (hT0) (Or.inr trivial) ?_
    rotate_left
    · intro w hS
      go_simp
      try rfl
    try simp only [Act.put, List.getElem_toArray, List.getElem_cons_succ, List.getElem_cons_zero, List.setIfInBounds_toArray, List.set_cons_zero, List.set_cons_succ]
    refine G_takeA (i := 5) (v := ?_) rfl (by kernel_rfl) (by kernel_rfl) (by kernel_rfl) (by kernel_rfl) (fun _ _ _ h => h) (Or.inl ⟨by rfl, ?_⟩) (hT0) (Or.inr trivial) ?_
    rotate_left
    · intro w hS
      go_simp
      try rfl
    try simp only [Act.put, List.getElem_toArray, List.getElem_cons_succ, List.getElem_cons_zero, List.setIfInBounds_toArray, List.set_cons_zero, List.set_cons_succ]
    refine G_takeA (i := 7) (v := ?_) rfl (by kernel_rfl) (by kernel_rfl) (by kernel_rfl) (by kernel_rfl) (fun _ _ _ h => h) (Or.inl ⟨by rfl, ?_⟩) (hT0) (Or.inr trivial) ?_
    rotate_left
    · intro w hS
      go_simp
      try rfl
    try simp only [Act.put, List.getElem_toArray, List.getElem_cons_succ, List.getElem_cons_zero, List.setIfInBounds_toArray, List.set_cons_zero, List.set_cons_succ]
    refine G_one (i := 6) (by kernel_rfl) ?_
    refine wpOp_of_wpG rfl (by rfl) ?_
    simp only [List.getElem_toArray, List.getElem_cons_succ, List.getElem_cons_zero]
    go_simp
    refine H1.out.mono ?_
    rintro e w2 ⟨rfl, r2⟩
    obtain ⟨a2, ax, av, k2, m, kx, kv, z0, z1, z2, z3, z4⟩ := HR.out w2 r2
    have H2 : Hid (Calls Try.prog 69 #[.slice a2 n k2, .slice aw n cw] w2 fun e w3 => e = .returned (.bool true) ∧ Below w2.heap.size w2 w3) := z4
    clear z4
    first
      | refine ⟨⟨z1, Or.inr trivial⟩, ?_⟩
      | refine ⟨z1, ?_⟩
      | skip
    try simp only [Act.put, List.getElem_toArray, List.getElem_cons_succ, List.getElem_cons_zero, List.setIfInBounds_toArray, List.set_cons_zero, List.set_cons_succ]
    refine G_takeA (i := 8) (v := ?_) rfl (by kernel_rfl) (by kernel_rfl) (by kernel_rfl) (by kernel_rfl) (fun _ _ _ h => h) (Or.inl ⟨by rfl, ?_⟩) (z1) (Or.inr trivial) ?_
    rotate_left
    · intro w hS
      go_simp
      try rfl
    try simp only [Act.put, List.getElem_toArray, List.getElem_cons_succ, List.getElem_cons_zero, List.setIfInBounds_toArray, List.set_cons_zero, List.set_cons_succ]
    refine G_takeA (i := 9) (v := ?_) rfl (by kernel_rfl) (by kernel_rfl) (by kernel_rfl) (by kernel_rfl) (fun _ _ _ h => h) (Or.inl ⟨by rfl, ?_⟩) (z1) (Or.inr trivial) ?_
    rotate_left
    · intro w hS
      go_simp
      try rfl
    try simp only [Act.put, List.getElem_toArray, List.getElem_cons_succ, List.getElem_cons_zero, List.setIfInBounds_toArray, List.set_cons_zero, List.set_cons_succ]
    refine G_takeA (i := 10) (v := ?_) rfl (by kernel_rfl) (by kernel_rfl) (by kernel_rfl) (by kernel_rfl) (fun _ _ _ h => h) (Or.inl ⟨by rfl, ?_⟩) (z1) (Or.inr trivial) ?_
    rotate_left
    · intro w hS
      go_simp
      try rfl
    try simp only [Act.put, List.getElem_toArray, List.getElem_cons_succ, List.getElem_cons_zero, List.setIfInBounds_toArray, List.set_cons_zero, List.set_cons_succ]
    refine G_takeA (i := 11) (v := ?_) rfl (by kernel_rfl) (by kernel_rfl) (by kernel_rfl) (by kernel_rfl) (fun _ _ _ h => h) (Or.inl ⟨by rfl, ?_⟩) (z1) (Or.inr trivial) ?_
    rotate_left
    · intro w hS
      go_simp
      try rfl
    try simp only [Act.put, List.getElem_toArray, List.getElem_cons_succ, List.getElem_cons_zero, List.setIfInBounds_toArray, List.set_cons_zero, List.set_cons_succ]
    refine G_takeA (i := 12) (v := ?_) rfl (by kernel_rfl) (by kernel_rfl) (by kernel_rfl) (by kernel_rfl) (fun _ _ _ h => h) (Or.inl ⟨by rfl, ?_⟩) (z1) (Or.inr trivial) ?_
    rotate_left
    · intro w hS
      go_simp
      try rfl
    try simp only [Act.put, List.getElem_toArray, List.getElem_cons_succ, List.getElem_cons_zero, List.setIfInBounds_toArray, List.set_cons_zero, List.set_cons_succ]
    refine G_takeA (i := 14) (v := ?_) rfl (by kernel_rfl) (by kernel_rfl) (by kernel_rfl) (by kernel_rfl) (fun _ _ _ h => h) (Or.inl ⟨by rfl, ?_⟩) (z1) (Or.inr trivial) ?_
    rotate_left
    · intro w hS
      go_simp
      try rfl
    try simp only [Act.put, List.getElem_toArray, List.getElem_cons_succ, List.getElem_cons_zero, List.setIfInBounds_toArray, List.set_cons_zero, List.set_cons_succ]
    refine G_one (i := 13) (by kernel_rfl) ?_
    refine wpOp_of_wpG rfl (by rfl) ?_
    simp only [List.getElem_toArray, List.getElem_cons_succ, List.getElem_cons_zero]
    go_simp
    first
      | refine ⟨⟨z1, Or.inr trivial⟩, ?_⟩
      | refine ⟨z1, ?_⟩
      | skip
    try simp only [Act.put, List.getElem_toArray, List.getElem_cons_succ, List.getElem_cons_zero, List.setIfInBounds_toArray, List.set_cons_zero, List.set_cons_succ]
    refine G_one (i := 15) (by kernel_rfl) ?_
    refine wpOp_of_wpG rfl (by rfl) ?_
    simp only [List.getElem_toArray, List.getElem_cons_succ, List.getElem_cons_zero]
    go_simp
    refine H2.out.mono ?_
    rintro e w3 ⟨rfl, k3⟩
    have x1 := (k3.cell (p := ⟨bw, 0, none⟩) (World.block_lt_of_cell? w2 _ z1)).trans z1
    have x2 := (k3.cell (p := ⟨c, 0, none⟩) (World.block_lt_of_cell? w2 _ z2)).trans z2
    have x3 := (k3.cell (p := ⟨v, 0, none⟩) (World.block_lt_of_cell? w2 _ z3)).trans z3
    first
      | refine ⟨⟨x1, Or.inr trivial⟩, ?_⟩
      | refine ⟨x1, ?_⟩
      | skip
    refine G_mono (T' := fun w' => w'.cell? ⟨bw, 0, none⟩ = some (.pointer (some ⟨c, 0, none⟩)) ∧ w'.cell? ⟨c, 0, none⟩ = some (.slice ax m kx) ∧ w'.cell? ⟨v, 0, none⟩ = some (.slice av m kv)) (S' := fun _ => True) (fun _ h => h.1) (fun _ h => h) _ _ _ _ ?_
    try simp only [Act.put, List.getElem_toArray, List.getElem_cons_succ, List.getElem_cons_zero, List.setIfInBounds_toArray, List.set_cons_zero, List.set_cons_succ]
    refine G_takeA (i := 16) (v := ?_) rfl (by kernel_rfl) (by kernel_rfl) (by kernel_rfl) (by kernel_rfl) (fun _ _ _ h => h) (Or.inl ⟨by rfl, ?_⟩) (⟨x1, x2, x3⟩) (Or.inr trivial) ?_
    rotate_left
    · intro w hS
      obtain ⟨q1, q2, q3⟩ := hS
      go_simp
      try rfl
    try simp only [Act.put, List.getElem_toArray, List.getElem_cons_succ, List.getElem_cons_zero, List.setIfInBounds_toArray, List.set_cons_zero, List.set_cons_succ]
    refine G_takeA (i := 17) (v := ?_) rfl (by kernel_rfl) (by kernel_rfl) (by kernel_rfl) (by kernel_rfl) (fun _ _ _ h => h) (Or.inl ⟨by rfl, ?_⟩) (⟨x1, x2, x3⟩) (Or.inr trivial) ?_
    rotate_left
    · intro w hS
      obtain ⟨q1, q2, q3⟩ := hS
      go_simp
      try rfl
    try simp only [Act.put, List.getElem_toArray, List.getElem_cons_succ, List.getElem_cons_zero, List.setIfInBounds_toArray, List.set_cons_zero, List.set_cons_succ]
    refine G_takeA (i := 18) (v := ?_) rfl (by kernel_rfl) (by kernel_rfl) (by kernel_rfl) (by kernel_rfl) (fun _ _ _ h => h) (Or.inl ⟨by rfl, ?_⟩) (⟨x1, x2, x3⟩) (Or.inr trivial) ?_
    rotate_left
    · intro w hS
      obtain ⟨q1, q2, q3⟩ := hS
      go_simp
      try rfl
    try simp only [Act.put, List.getElem_toArray, List.getElem_cons_succ, List.getElem_cons_zero, List.setIfInBounds_toArray, List.set_cons_zero, List.set_cons_succ]
    refine G_takeA (i := 19) (v := ?_) rfl (by kernel_rfl) (by kernel_rfl) (by kernel_rfl) (by kernel_rfl) (fun _ _ _ h => h) (Or.inl ⟨by rfl, ?_⟩) (⟨x1, x2, x3⟩) (Or.inr trivial) ?_
    rotate_left
    · intro w hS
      obtain ⟨q1, q2, q3⟩ := hS
      go_simp
      try rfl
    try simp only [Act.put, List.getElem_toArray, List.getElem_cons_succ, List.getElem_cons_zero, List.setIfInBounds_toArray, List.set_cons_zero, List.set_cons_succ]
    refine G_takeA (i := 20) (v := ?_) rfl (by kernel_rfl) (by kernel_rfl) (by kernel_rfl) (by kernel_rfl) (fun _ _ _ h => h) (Or.inl ⟨by rfl, ?_⟩) (⟨x1, x2, x3⟩) (Or.inr trivial) ?_
    rotate_left
    · intro w hS
      obtain ⟨q1, q2, q3⟩ := hS
      go_simp
      try rfl
    try simp only [Act.put, List.getElem_toArray, List.getElem_cons_succ, List.getElem_cons_zero, List.setIfInBounds_toArray, List.set_cons_zero, List.set_cons_succ]
    refine G_takeA (i := 21) (v := ?_) rfl (by kernel_rfl) (by kernel_rfl) (by kernel_rfl) (by kernel_rfl) (fun _ _ _ h => h) (Or.inl ⟨by rfl, ?_⟩) (⟨x1, x2, x3⟩) (Or.inr trivial) ?_
    rotate_left
    · intro w hS
      obtain ⟨q1, q2, q3⟩ := hS
      go_simp
      try rfl
    try simp only [Act.put, List.getElem_toArray, List.getElem_cons_succ, List.getElem_cons_zero, List.setIfInBounds_toArray, List.set_cons_zero, List.set_cons_succ]
    refine G_takeA (i := 24) (v := ?_) rfl (by kernel_rfl) (by kernel_rfl) (by kernel_rfl) (by kernel_rfl) (fun _ _ _ h => h) (Or.inl ⟨by rfl, ?_⟩) (⟨x1, x2, x3⟩) (Or.inr trivial) ?_
    rotate_left
    · intro w hS
      obtain ⟨q1, q2, q3⟩ := hS
      go_simp
      try rfl
    try simp only [Act.put, List.getElem_toArray, List.getElem_cons_succ, List.getElem_cons_zero, List.setIfInBounds_toArray, List.set_cons_zero, List.set_cons_succ]
    refine G_takeA (i := 25) (v := ?_) rfl (by kernel_rfl) (by kernel_rfl) (by kernel_rfl) (by kernel_rfl) (fun _ _ _ h => h) (Or.inl ⟨by rfl, ?_⟩) (⟨x1, x2, x3⟩) (Or.inr trivial) ?_
    rotate_left
    · intro w hS
      obtain ⟨q1, q2, q3⟩ := hS
      go_simp
      try rfl
    try simp only [Act.put, List.getElem_toArray, List.getElem_cons_succ, List.getElem_cons_zero, List.setIfInBounds_toArray, List.set_cons_zero, List.set_cons_succ]
    refine G_takeA (i := 26) (v := ?_) rfl (by kernel_rfl) (by kernel_rfl) (by kernel_rfl) (by kernel_rfl) (fun _ _ _ h => h) (Or.inl ⟨by rfl, ?_⟩) (⟨x1, x2, x3⟩) (Or.inr trivial) ?_
    rotate_left
    · intro w hS
      obtain ⟨q1, q2, q3⟩ := hS
      go_simp
      try rfl
    try simp only [Act.put, List.getElem_toArray, List.getElem_cons_succ, List.getElem_cons_zero, List.setIfInBounds_toArray, List.set_cons_zero, List.set_cons_succ]
    refine G_takeA (i := 22) (v := ?_) rfl (by kernel_rfl) (by kernel_rfl) (by kernel_rfl) (by kernel_rfl) (fun _ _ _ h => h) (Or.inl ⟨by rfl, ?_⟩) (⟨x1, x2, x3⟩) (Or.inr trivial) ?_
    rotate_left
    · intro w hS
      obtain ⟨q1, q2, q3⟩ := hS
      go_simp
      try rfl
    try simp only [Act.put, List.getElem_toArray, List.getElem_cons_succ, List.getElem_cons_zero, List.setIfInBounds_toArray, List.set_cons_zero, List.set_cons_succ]
    refine G_takeA (i := 27) (v := ?_) rfl (by kernel_rfl) (by kernel_rfl) (by kernel_rfl) (by kernel_rfl) (fun _ _ _ h => h) (Or.inl ⟨by rfl, ?_⟩) (⟨x1, x2, x3⟩) (Or.inr trivial) ?_
    rotate_left
    · intro w hS
      obtain ⟨q1, q2, q3⟩ := hS
      go_simp
      try rfl
    try simp only [Act.put, List.getElem_toArray, List.getElem_cons_succ, List.getElem_cons_zero, List.setIfInBounds_toArray, List.set_cons_zero, List.set_cons_succ]
    refine G_takeA (i := 23) (v := ?_) rfl (by kernel_rfl) (by kernel_rfl) (by kernel_rfl) (by kernel_rfl) (fun _ _ _ h => h) (Or.inl ⟨by rfl, ?_⟩) (⟨x1, x2, x3⟩) (Or.inr trivial) ?_
    rotate_left
    · intro w hS
      obtain ⟨q1, q2, q3⟩ := hS
      go_simp
      try rfl
    try simp only [Act.put, List.getElem_toArray, List.getElem_cons_succ, List.getElem_cons_zero, List.setIfInBounds_toArray, List.set_cons_zero, List.set_cons_succ]
    refine G_takeA (i := 28) (v := ?_) rfl (by kernel_rfl) (by kernel_rfl) (by kernel_rfl) (by kernel_rfl) (fun _ _ _ h => h) (Or.inl ⟨by rfl, ?_⟩) (⟨x1, x2, x3⟩) (Or.inr trivial) ?_
    rotate_left
    · intro w hS
      obtain ⟨q1, q2, q3⟩ := hS
      go_simp
      try rfl
    try simp only [Act.put, List.getElem_toArray, List.getElem_cons_succ, List.getElem_cons_zero, List.setIfInBounds_toArray, List.set_cons_zero, List.set_cons_succ]
    refine G_takeA (i := 29) (v := ?_) rfl (by kernel_rfl) (by kernel_rfl) (by kernel_rfl) (by kernel_rfl) (fun _ _ _ h => h) (Or.inl ⟨by rfl, ?_⟩) (⟨x1, x2, x3⟩) (Or.inr trivial) ?_
    rotate_left
    · intro w hS
      obtain ⟨q1, q2, q3⟩ := hS
      go_simp
      try rfl
    try simp only [Act.put, List.getElem_toArray, List.getElem_cons_succ, List.getElem_cons_zero, List.setIfInBounds_toArray, List.set_cons_zero, List.set_cons_succ]
    refine G_takeA (i := 30) (v := ?_) rfl (by kernel_rfl) (by kernel_rfl) (by kernel_rfl) (by kernel_rfl) (fun _ _ _ h => h) (Or.inl ⟨by rfl, ?_⟩) (⟨x1, x2, x3⟩) (Or.inr trivial) ?_
    rotate_left
    · intro w hS
      obtain ⟨q1, q2, q3⟩ := hS
      go_simp
      try rfl
    try simp only [Act.put, List.getElem_toArray, List.getElem_cons_succ, List.getElem_cons_zero, List.setIfInBounds_toArray, List.set_cons_zero, List.set_cons_succ]
    refine G_done (by kernel_rfl) ?_ _
    exact NoPanic.normal (HQ.out _ _ _ _ _ _ _ _ _ _ _ _ _ _ _ _ _ _ _ _ _ _ _ _ _ _ _ _ _ _ w2 w3 r2 k3)

end Go.Proofs.Ythlfgddhkffilaa.SWak
