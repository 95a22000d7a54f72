/- SideOnce: what its loops ask. -/
import Derived.Test.YthlfgddhkffilabSOR
import Derived.Test.YthlfgddhkffilabSo3
import Derived.Test.YthlfgddhkffilabHg
namespace Go.Proofs.Ythlfgddhkffilab.SOnce
open Go.RowKit W Kp Stl

noncomputable def r17C : Code := (Try.f3.body.bind (findR 17)).getD .skip
noncomputable def r23C : Code := (Try.f3.body.bind (findR 23)).getD .skip

set_option maxRecDepth 100000 in
set_option maxHeartbeats 2000000 in
theorem r17_wp {s1 s2 s3 s4 s5 s6 s7 s8 s11 s12 s14 s16 s17 s18 s19 s20 s21 s22 s23 s24 s25 s26 s27 s28 s29 s30 s31 s32 s33 s34 s35 s36 s37 s38 s39 s40 s41 s42 s43 s44 s45 s46 s47 s48 s49 s50 s51 s52 s53 s54 s55 s56 s57 s58 s59 s60 s61 s62 s63 s64 s65 s66 s67 s68 s69 s70 s71 s72 s73 s74 s75 s76 s77 s78 s79 s80 s81 s82 s83 s84 s85 s86 s87 s88 s89 s90 s91 s92 s93 s94 s95 s96 s97 s98 s99 s100 s101 s102 s103 s104 s105 s106 s107 s108 s109 s110 s111 s112 s113 s114 s115 s116 s117 s118 s119 s120 s121 s122 s123 s124 s125 s126 s127 s128 s129 s130 s131 s132 s133 s134 s135 s136 s137 s138 s139 s140 s141 s142 s143 s144 s145 s146 s147 s148 s149 s150 s151 s152 s153 s154 s155 s156 s157 s158 s159 s160 s161 s162 s163 s164 s165 s166 s167 s168 s169 s170 s171 s172 s173 s174 s175 s176 s177 s178 s179 s180 s181 s182 s183 s184 s185 s186 s187 : Value} {Q : Exit → Act → World → Prop} {a0 ea : Option Addr} {c0 d1 p eb bw c nr nx : Nat} {g z n1 n2 : Int} {w : World} (y0 : w.cell? ⟨p, 0, none⟩ = some (.slice ea nx d1)) (y1 : w.cell? ⟨eb, 0, none⟩ = some (.int .i64 g)) (y2 : w.cell? ⟨eb, 1, none⟩ = some (.int .i64 z)) (y3 : w.cell? ⟨bw, 0, none⟩ = some (.pointer (some ⟨c, 0, none⟩))) (C1 : ∀ w', Below w.heap.size w w' → Calls Try.prog 14 #[.slice ea nx d1, .agg #[.int .i64 g, .int .i64 z]] w' fun e w'' => e = .returned (.int .i64 n1) ∧ Below w'.heap.size w' w'') (C2 : ∀ w', Below w.heap.size w w' → Calls Try.prog 14 #[.slice a0 nr c0, .agg #[.int .i64 g, .int .i64 z]] w' fun e w'' => e = .returned (.int .i64 n2) ∧ Below w'.heap.size w' w'') (C3 : ∀ w', Below w.heap.size w w' → Calls Try.prog 13 #[.pointer (some ⟨c, 0, none⟩), .int .i64 g] w' fun e w'' => e = .returned (.bool true) ∧ w'' = w') (C4 : ∀ w', Below w.heap.size w w' → Calls Try.prog 13 #[.pointer (some ⟨c, 0, none⟩), .int .i64 z] w' fun e w'' => e = .returned (.bool true) ∧ w'' = w') (hn : n1 ≤ n2)
    (hQ : ∀ (v97 v98 v99 v100 v101 v102 v103 v104 v105 v106 v107 v108 v109 v110 v111 v112 v113 v114 v115 v116 v117 v118 v119 v120 v121 : Value) (w' : World), Below w.heap.size w w' → Q .normal ⟨#[.slice a0 nr c0, s1, s2, s3, s4, s5, s6, s7, s8, .pointer (some ⟨p, 0, none⟩), .pointer (some ⟨bw, 0, none⟩), s11, s12, .func (.func 14) #[] #[], s14, .pointer (some ⟨eb, 0, none⟩), s16, s17, s18, s19, s20, s21, s22, s23, s24, s25, s26, s27, s28, s29, s30, s31, s32, s33, s34, s35, s36, s37, s38, s39, s40, s41, s42, s43, s44, s45, s46, s47, s48, s49, s50, s51, s52, s53, s54, s55, s56, s57, s58, s59, s60, s61, s62, s63, s64, s65, s66, s67, s68, s69, s70, s71, s72, s73, s74, s75, s76, s77, s78, s79, s80, s81, s82, s83, s84, s85, s86, s87, s88, s89, s90, s91, s92, s93, s94, s95, s96, v97, v98, v99, v100, v101, v102, v103, v104, v105, v106, v107, v108, v109, v110, v111, v112, v113, v114, v115, v116, v117, v118, v119, v120, v121, .bool false, s123, s124, s125, s126, s127, s128, s129, s130, s131, s132, s133, s134, s135, s136, s137, s138, s139, s140, s141, s142, s143, s144, s145, s146, s147, s148, s149, s150, s151, s152, s153, s154, s155, s156, s157, s158, s159, s160, s161, s162, s163, s164, s165, s166, s167, s168, s169, s170, s171, s172, s173, s174, s175, s176, s177, s178, s179, s180, s181, s182, s183, s184, s185, s186, s187], []⟩ w') :
    Code.wp Try.prog r17C Q ⟨#[.slice a0 nr c0, s1, s2, s3, s4, s5, s6, s7, s8, .pointer (some ⟨p, 0, none⟩), .pointer (some ⟨bw, 0, none⟩), s11, s12, .func (.func 14) #[] #[], s14, .pointer (some ⟨eb, 0, none⟩), s16, s17, s18, s19, s20, s21, s22, s23, s24, s25, s26, s27, s28, s29, s30, s31, s32, s33, s34, s35, s36, s37, s38, s39, s40, s41, s42, s43, s44, s45, s46, s47, s48, s49, s50, s51, s52, s53, s54, s55, s56, s57, s58, s59, s60, s61, s62, s63, s64, s65, s66, s67, s68, s69, s70, s71, s72, s73, s74, s75, s76, s77, s78, s79, s80, s81, s82, s83, s84, s85, s86, s87, s88, s89, s90, s91, s92, s93, s94, s95, s96, s97, s98, s99, s100, s101, s102, s103, s104, s105, s106, s107, s108, s109, s110, s111, s112, s113, s114, s115, s116, s117, s118, s119, s120, s121, s122, s123, s124, s125, s126, s127, s128, s129, s130, s131, s132, s133, s134, s135, s136, s137, s138, s139, s140, s141, s142, s143, s144, s145, s146, s147, s148, s149, s150, s151, s152, s153, s154, s155, s156, s157, s158, s159, s160, s161, s162, s163, s164, s165, s166, s167, s168, s169, s170, s171, s172, s173, s174, s175, s176, s177, s178, s179, s180, s181, s182, s183, s184, s185, s186, s187], []⟩ w := by
  conv => arg 2; whnf
  refine wp_region_noPanic ?_
  refine wp_region_any (by kernel_rfl) ?_
  have HQ : Hid (∀ (v97 v98 v99 v100 v101 v102 v103 v104 v105 v106 v107 v108 v109 v110 v111 v112 v113 v114 v115 v116 v117 v118 v119 v120 v121 : Value) (w' : World), Below w.heap.size w w' → Q .normal ⟨#[.slice a0 nr c0, s1, s2, s3, s4, s5, s6, s7, s8, .pointer (some ⟨p, 0, none⟩), .pointer (some ⟨bw, 0, none⟩), s11, s12, .func (.func 14) #[] #[], s14, .pointer (some ⟨eb, 0, none⟩), s16, s17, s18, s19, s20, s21, s22, s23, s24, s25, s26, s27, s28, s29, s30, s31, s32, s33, s34, s35, s36, s37, s38, s39, s40, s41, s42, s43, s44, s45, s46, s47, s48, s49, s50, s51, s52, s53, s54, s55, s56, s57, s58, s59, s60, s61, s62, s63, s64, s65, s66, s67, s68, s69, s70, s71, s72, s73, s74, s75, s76, s77, s78, s79, s80, s81, s82, s83, s84, s85, s86, s87, s88, s89, s90, s91, s92, s93, s94, s95, s96, v97, v98, v99, v100, v101, v102, v103, v104, v105, v106, v107, v108, v109, v110, v111, v112, v113, v114, v115, v116, v117, v118, v119, v120, v121, .bool false, s123, s124, s125, s126, s127, s128, s129, s130, s131, s132, s133, s134, s135, s136, s137, s138, s139, s140, s141, s142, s143, s144, s145, s146, s147, s148, s149, s150, s151, s152, s153, s154, s155, s156, s157, s158, s159, s160, s161, s162, s163, s164, s165, s166, s167, s168, s169, s170, s171, s172, s173, s174, s175, s176, s177, s178, s179, s180, s181, s182, s183, s184, s185, s186, s187], []⟩ w') := hQ
  have H1 : Hid (∀ w', Below w.heap.size w w' → Calls Try.prog 14 #[.slice ea nx d1, .agg #[.int .i64 g, .int .i64 z]] w' fun e w'' => e = .returned (.int .i64 n1) ∧ Below w'.heap.size w' w'') := C1
  have H2 : Hid (∀ w', Below w.heap.size w w' → Calls Try.prog 14 #[.slice a0 nr c0, .agg #[.int .i64 g, .int .i64 z]] w' fun e w'' => e = .returned (.int .i64 n2) ∧ Below w'.heap.size w' w'') := C2
  have H3 : Hid (∀ w', Below w.heap.size w w' → Calls Try.prog 13 #[.pointer (some ⟨c, 0, none⟩), .int .i64 g] w' fun e w'' => e = .returned (.bool true) ∧ w'' = w') := C3
  have H4 : Hid (∀ w', Below w.heap.size w w' → Calls Try.prog 13 #[.pointer (some ⟨c, 0, none⟩), .int .i64 z] w' fun e w'' => e = .returned (.bool true) ∧ w'' = w') := C4
  have lp := World.block_lt_of_cell? w _ y0
  have le := World.block_lt_of_cell? w _ y1
  have lb := World.block_lt_of_cell? w _ y3
  dsimp only at lp le lb
  clear hQ C1 C2 C3 C4
  have hd : decide (n2 < n1) = false := decide_eq_false (by omega)
  have hbd := (Below.refl w.heap.size w).drew
  have hT0 : (fun w' => w'.cell? ⟨p, 0, none⟩ = some (.slice ea nx d1) ∧ w'.cell? ⟨eb, 0, none⟩ = some (.int .i64 g) ∧ w'.cell? ⟨eb, 1, none⟩ = some (.int .i64 z) ∧ w'.cell? ⟨bw, 0, none⟩ = some (.pointer (some ⟨c, 0, none⟩))) w.drew := ⟨y0, y1, y2, y3⟩
  refine any_of_G (T := fun w' => w'.cell? ⟨p, 0, none⟩ = some (.slice ea nx d1) ∧ w'.cell? ⟨eb, 0, none⟩ = some (.int .i64 g) ∧ w'.cell? ⟨eb, 1, none⟩ = some (.int .i64 z) ∧ w'.cell? ⟨bw, 0, none⟩ = some (.pointer (some ⟨c, 0, none⟩))) (S := fun _ => True) (St := []) _ _ _ _ ?_
  refine G_takeA (i := 0) (v := ?_) rfl (by kernel_rfl) (by kernel_rfl) (by kernel_rfl) (by kernel_rfl) (fun _ _ _ h => h) (Or.inl ⟨by rfl, ?_⟩) hT0 (Or.inr trivial) ?_
  rotate_left
  · intro w hS
    obtain ⟨q0, q1, q2, q3⟩ := hS
    go_simp
    try rfl
  try simp only [Act.put, List.getElem_toArray, List.getElem_cons_zero, List.setIfInBounds_toArray, List.set_cons_zero, List.set_cons_succ]
  refine G_takeA (i := 1) (v := ?_) rfl (by kernel_rfl) (by kernel_rfl) (by kernel_rfl) (by kernel_rfl) (fun _ _ _ h => h) (Or.inl ⟨by rfl, ?_⟩) hT0 (Or.inr trivial) ?_
  rotate_left
  · intro w hS
    obtain ⟨q0, q1, q2, q3⟩ := hS
    go_simp
    try rfl
  try simp only [Act.put, List.getElem_toArray, List.getElem_cons_succ, List.getElem_cons_zero, List.setIfInBounds_toArray, List.set_cons_zero, List.set_cons_succ]
  refine G_takeA (i := 2) (v := ?_) rfl (by kernel_rfl) (by kernel_rfl) (by kernel_rfl) (by kernel_rfl) (fun _ _ _ h => h) (Or.inl ⟨by rfl, ?_⟩) hT0 (Or.inr trivial) ?_
  rotate_left
  · intro w hS
    obtain ⟨q0, q1, q2, q3⟩ := hS
    go_simp
    try rfl
  try simp only [Act.put, List.getElem_toArray, List.getElem_cons_succ, List.getElem_cons_zero, List.setIfInBounds_toArray, List.set_cons_zero, List.set_cons_succ]
  refine G_takeA (i := 3) (v := ?_) rfl (by kernel_rfl) (by kernel_rfl) (by kernel_rfl) (by kernel_rfl) (fun _ _ _ h => h) (Or.inl ⟨by rfl, ?_⟩) hT0 (Or.inr trivial) ?_
  rotate_left
  · intro w hS
    obtain ⟨q0, q1, q2, q3⟩ := hS
    go_simp
    try rfl
  try simp only [Act.put, List.getElem_toArray, List.getElem_cons_succ, List.getElem_cons_zero, List.setIfInBounds_toArray, List.set_cons_zero, List.set_cons_succ]
  refine G_takeA (i := 4) (v := ?_) rfl (by kernel_rfl) (by kernel_rfl) (by kernel_rfl) (by kernel_rfl) (fun _ _ _ h => h) (Or.inl ⟨by rfl, ?_⟩) hT0 (Or.inr trivial) ?_
  rotate_left
  · intro w hS
    obtain ⟨q0, q1, q2, q3⟩ := hS
    go_simp
    try rfl
  try simp only [Act.put, List.getElem_toArray, List.getElem_cons_succ, List.getElem_cons_zero, List.setIfInBounds_toArray, List.set_cons_zero, List.set_cons_succ]
  refine G_takeA (i := 5) (v := ?_) rfl (by kernel_rfl) (by kernel_rfl) (by kernel_rfl) (by kernel_rfl) (fun _ _ _ h => h) (Or.inl ⟨by rfl, ?_⟩) hT0 (Or.inr trivial) ?_
  rotate_left
  · intro w hS
    obtain ⟨q0, q1, q2, q3⟩ := hS
    go_simp
    try rfl
  try simp only [Act.put, List.getElem_toArray, List.getElem_cons_succ, List.getElem_cons_zero, List.setIfInBounds_toArray, List.set_cons_zero, List.set_cons_succ]
  refine G_takeA (i := 7) (v := ?_) rfl (by kernel_rfl) (by kernel_rfl) (by kernel_rfl) (by kernel_rfl) (fun _ _ _ h => h) (Or.inl ⟨by rfl, ?_⟩) hT0 (Or.inr trivial) ?_
  rotate_left
  · intro w hS
    obtain ⟨q0, q1, q2, q3⟩ := hS
    go_simp
    try rfl
  try simp only [Act.put, List.getElem_toArray, List.getElem_cons_succ, List.getElem_cons_zero, List.setIfInBounds_toArray, List.set_cons_zero, List.set_cons_succ]
  refine G_takeA (i := 8) (v := ?_) rfl (by kernel_rfl) (by kernel_rfl) (by kernel_rfl) (by kernel_rfl) (fun _ _ _ h => h) (Or.inl ⟨by rfl, ?_⟩) hT0 (Or.inr trivial) ?_
  rotate_left
  · intro w hS
    obtain ⟨q0, q1, q2, q3⟩ := hS
    go_simp
    try rfl
  try simp only [Act.put, List.getElem_toArray, List.getElem_cons_succ, List.getElem_cons_zero, List.setIfInBounds_toArray, List.set_cons_zero, List.set_cons_succ]
  refine G_takeA (i := 9) (v := ?_) rfl (by kernel_rfl) (by kernel_rfl) (by kernel_rfl) (by kernel_rfl) (fun _ _ _ h => h) (Or.inl ⟨by rfl, ?_⟩) hT0 (Or.inr trivial) ?_
  rotate_left
  · intro w hS
    obtain ⟨q0, q1, q2, q3⟩ := hS
    go_simp
    try rfl
  try simp only [Act.put, List.getElem_toArray, List.getElem_cons_succ, List.getElem_cons_zero, List.setIfInBounds_toArray, List.set_cons_zero, List.set_cons_succ]
  refine G_one (i := 6) (by kernel_rfl) ?_
  refine wpOp_of_wpG rfl (by rfl) ?_
  simp only [List.getElem_toArray, List.getElem_cons_succ, List.getElem_cons_zero]
  go_simp
  refine (H1.out _ hbd).mono ?_
  rintro e w1 ⟨rfl, k1⟩
  have b1 : Below w.heap.size w w1 := hbd.trans (k1.mono hbd.size)
  have hT1 : (fun w' => w'.cell? ⟨p, 0, none⟩ = some (.slice ea nx d1) ∧ w'.cell? ⟨eb, 0, none⟩ = some (.int .i64 g) ∧ w'.cell? ⟨eb, 1, none⟩ = some (.int .i64 z) ∧ w'.cell? ⟨bw, 0, none⟩ = some (.pointer (some ⟨c, 0, none⟩))) w1 := ⟨(b1.cell (p := ⟨p, 0, none⟩) lp).trans y0, (b1.cell (p := ⟨eb, 0, none⟩) le).trans y1, (b1.cell (p := ⟨eb, 1, none⟩) le).trans y2, (b1.cell (p := ⟨bw, 0, none⟩) lb).trans y3⟩
  first
    | refine ⟨⟨hT1, Or.inr trivial⟩, ?_⟩
    | refine ⟨hT1, ?_⟩
    | refine ⟨hT1.1, hT1.2.1, hT1.2.2.1, hT1.2.2.2, ?_⟩
    | refine ⟨hT1.1, hT1.2.1, hT1.2.2.1, hT1.2.2.2.1, hT1.2.2.2.2, ?_⟩
  try simp only [Act.put, List.getElem_toArray, List.getElem_cons_succ, List.getElem_cons_zero, List.setIfInBounds_toArray, List.set_cons_zero, List.set_cons_succ]
  refine G_one (i := 10) (by kernel_rfl) ?_
  refine wpOp_of_wpG rfl (by rfl) ?_
  simp only [List.getElem_toArray, List.getElem_cons_succ, List.getElem_cons_zero]
  go_simp
  refine (H2.out _ b1).mono ?_
  rintro e w2 ⟨rfl, k2⟩
  have b2 : Below w.heap.size w w2 := b1.trans (k2.mono b1.size)
  have hT2 : (fun w' => w'.cell? ⟨p, 0, none⟩ = some (.slice ea nx d1) ∧ w'.cell? ⟨eb, 0, none⟩ = some (.int .i64 g) ∧ w'.cell? ⟨eb, 1, none⟩ = some (.int .i64 z) ∧ w'.cell? ⟨bw, 0, none⟩ = some (.pointer (some ⟨c, 0, none⟩))) w2 := ⟨(b2.cell (p := ⟨p, 0, none⟩) lp).trans y0, (b2.cell (p := ⟨eb, 0, none⟩) le).trans y1, (b2.cell (p := ⟨eb, 1, none⟩) le).trans y2, (b2.cell (p := ⟨bw, 0, none⟩) lb).trans y3⟩
  first
    | refine ⟨⟨hT2, Or.inr trivial⟩, ?_⟩
    | refine ⟨hT2, ?_⟩
    | refine ⟨hT2.1, hT2.2.1, hT2.2.2.1, hT2.2.2.2, ?_⟩
    | refine ⟨hT2.1, hT2.2.1, hT2.2.2.1, hT2.2.2.2.1, hT2.2.2.2.2, ?_⟩
  try simp only [Act.put, List.getElem_toArray, List.getElem_cons_succ, List.getElem_cons_zero, List.setIfInBounds_toArray, List.set_cons_zero, List.set_cons_succ]
  refine G_takeA (i := 11) (v := ?_) rfl (by kernel_rfl) (by kernel_rfl) (by kernel_rfl) (by kernel_rfl) (fun _ _ _ h => h) (Or.inl ⟨by rfl, ?_⟩) hT2 (Or.inr trivial) ?_
  rotate_left
  · intro w hS
    obtain ⟨q0, q1, q2, q3⟩ := hS
    go_simp
    try rfl
  try simp only [Act.put, List.getElem_toArray, List.getElem_cons_succ, List.getElem_cons_zero, List.setIfInBounds_toArray, List.set_cons_zero, List.set_cons_succ]
  try simp only [hd]
  refine G_takeA (i := 12) (v := ?_) rfl (by kernel_rfl) (by kernel_rfl) (by kernel_rfl) (by kernel_rfl) (fun _ _ _ h => h) (Or.inl ⟨by rfl, ?_⟩) hT2 (Or.inr trivial) ?_
  rotate_left
  · intro w hS
    obtain ⟨q0, q1, q2, q3⟩ := hS
    go_simp
    try rfl
  try simp only [Act.put, List.getElem_toArray, List.getElem_cons_succ, List.getElem_cons_zero, List.setIfInBounds_toArray, List.set_cons_zero, List.set_cons_succ]
  refine G_takeA (i := 13) (v := ?_) rfl (by kernel_rfl) (by kernel_rfl) (by kernel_rfl) (by kernel_rfl) (fun _ _ _ h => h) (Or.inl ⟨by rfl, ?_⟩) hT2 (Or.inr trivial) ?_
  rotate_left
  · intro w hS
    obtain ⟨q0, q1, q2, q3⟩ := hS
    go_simp
    try rfl
  try simp only [Act.put, List.getElem_toArray, List.getElem_cons_succ, List.getElem_cons_zero, List.setIfInBounds_toArray, List.set_cons_zero, List.set_cons_succ]
  refine G_takeA (i := 14) (v := ?_) rfl (by kernel_rfl) (by kernel_rfl) (by kernel_rfl) (by kernel_rfl) (fun _ _ _ h => h) (Or.inl ⟨by rfl, ?_⟩) hT2 (Or.inr trivial) ?_
  rotate_left
  · intro w hS
    obtain ⟨q0, q1, q2, q3⟩ := hS
    go_simp
    try rfl
  try simp only [Act.put, List.getElem_toArray, List.getElem_cons_succ, List.getElem_cons_zero, List.setIfInBounds_toArray, List.set_cons_zero, List.set_cons_succ]
  refine G_takeA (i := 15) (v := ?_) rfl (by kernel_rfl) (by kernel_rfl) (by kernel_rfl) (by kernel_rfl) (fun _ _ _ h => h) (Or.inl ⟨by rfl, ?_⟩) hT2 (Or.inr trivial) ?_
  rotate_left
  · intro w hS
    obtain ⟨q0, q1, q2, q3⟩ := hS
    go_simp
    try rfl
  try simp only [Act.put, List.getElem_toArray, List.getElem_cons_succ, List.getElem_cons_zero, List.setIfInBounds_toArray, List.set_cons_zero, List.set_cons_succ]
  refine G_one (i := 16) (by kernel_rfl) ?_
  refine wpOp_of_wpG rfl (by rfl) ?_
  simp only [List.getElem_toArray, List.getElem_cons_succ, List.getElem_cons_zero]
  go_simp
  refine (H3.out _ b2).mono ?_
  rintro e x16 ⟨rfl, hx16⟩
  have hx16 := hx16.symm
  subst hx16
  first
    | refine ⟨⟨hT2, Or.inr trivial⟩, ?_⟩
    | refine ⟨hT2, ?_⟩
    | refine ⟨hT2.1, hT2.2.1, hT2.2.2.1, hT2.2.2.2, ?_⟩
    | refine ⟨hT2.1, hT2.2.1, hT2.2.2.1, hT2.2.2.2.1, hT2.2.2.2.2, ?_⟩
  try simp only [Act.put, List.getElem_toArray, List.getElem_cons_succ, List.getElem_cons_zero, List.setIfInBounds_toArray, List.set_cons_zero, List.set_cons_succ]
  refine G_takeA (i := 17) (v := ?_) rfl (by kernel_rfl) (by kernel_rfl) (by kernel_rfl) (by kernel_rfl) (fun _ _ _ h => h) (Or.inl ⟨by rfl, ?_⟩) hT2 (Or.inr trivial) ?_
  rotate_left
  · intro w hS
    obtain ⟨q0, q1, q2, q3⟩ := hS
    go_simp
    try rfl
  try simp only [Act.put, List.getElem_toArray, List.getElem_cons_succ, List.getElem_cons_zero, List.setIfInBounds_toArray, List.set_cons_zero, List.set_cons_succ]
  refine G_takeA (i := 18) (v := ?_) rfl (by kernel_rfl) (by kernel_rfl) (by kernel_rfl) (by kernel_rfl) (fun _ _ _ h => h) (Or.inl ⟨by rfl, ?_⟩) hT2 (Or.inr trivial) ?_
  rotate_left
  · intro w hS
    obtain ⟨q0, q1, q2, q3⟩ := hS
    go_simp
    try rfl
  try simp only [Act.put, List.getElem_toArray, List.getElem_cons_succ, List.getElem_cons_zero, List.setIfInBounds_toArray, List.set_cons_zero, List.set_cons_succ]
  refine G_takeA (i := 19) (v := ?_) rfl (by kernel_rfl) (by kernel_rfl) (by kernel_rfl) (by kernel_rfl) (fun _ _ _ h => h) (Or.inl ⟨by rfl, ?_⟩) hT2 (Or.inr trivial) ?_
  rotate_left
  · intro w hS
    obtain ⟨q0, q1, q2, q3⟩ := hS
    go_simp
    try rfl
  try simp only [Act.put, List.getElem_toArray, List.getElem_cons_succ, List.getElem_cons_zero, List.setIfInBounds_toArray, List.set_cons_zero, List.set_cons_succ]
  refine G_takeA (i := 20) (v := ?_) rfl (by kernel_rfl) (by kernel_rfl) (by kernel_rfl) (by kernel_rfl) (fun _ _ _ h => h) (Or.inl ⟨by rfl, ?_⟩) hT2 (Or.inr trivial) ?_
  rotate_left
  · intro w hS
    obtain ⟨q0, q1, q2, q3⟩ := hS
    go_simp
    try rfl
  try simp only [Act.put, List.getElem_toArray, List.getElem_cons_succ, List.getElem_cons_zero, List.setIfInBounds_toArray, List.set_cons_zero, List.set_cons_succ]
  refine G_takeA (i := 21) (v := ?_) rfl (by kernel_rfl) (by kernel_rfl) (by kernel_rfl) (by kernel_rfl) (fun _ _ _ h => h) (Or.inl ⟨by rfl, ?_⟩) hT2 (Or.inr trivial) ?_
  rotate_left
  · intro w hS
    obtain ⟨q0, q1, q2, q3⟩ := hS
    go_simp
    try rfl
  try simp only [Act.put, List.getElem_toArray, List.getElem_cons_succ, List.getElem_cons_zero, List.setIfInBounds_toArray, List.set_cons_zero, List.set_cons_succ]
  refine G_takeA (i := 22) (v := ?_) rfl (by kernel_rfl) (by kernel_rfl) (by kernel_rfl) (by kernel_rfl) (fun _ _ _ h => h) (Or.inl ⟨by rfl, ?_⟩) hT2 (Or.inr trivial) ?_
  rotate_left
  · intro w hS
    obtain ⟨q0, q1, q2, q3⟩ := hS
    go_simp
    try rfl
  try simp only [Act.put, List.getElem_toArray, List.getElem_cons_succ, List.getElem_cons_zero, List.setIfInBounds_toArray, List.set_cons_zero, List.set_cons_succ]
  refine G_one (i := 23) (by kernel_rfl) ?_
  refine wpOp_of_wpG rfl (by rfl) ?_
  simp only [List.getElem_toArray, List.getElem_cons_succ, List.getElem_cons_zero]
  go_simp
  refine (H4.out _ b2).mono ?_
  rintro e x23 ⟨rfl, hx23⟩
  have hx23 := hx23.symm
  subst hx23
  first
    | refine ⟨⟨hT2, Or.inr trivial⟩, ?_⟩
    | refine ⟨hT2, ?_⟩
    | refine ⟨hT2.1, hT2.2.1, hT2.2.2.1, hT2.2.2.2, ?_⟩
    | refine ⟨hT2.1, hT2.2.1, hT2.2.2.1, hT2.2.2.2.1, hT2.2.2.2.2, ?_⟩
  try simp only [Act.put, List.getElem_toArray, List.getElem_cons_succ, List.getElem_cons_zero, List.setIfInBounds_toArray, List.set_cons_zero, List.set_cons_succ]
  refine G_takeA (i := 24) (v := ?_) rfl (by kernel_rfl) (by kernel_rfl) (by kernel_rfl) (by kernel_rfl) (fun _ _ _ h => h) (Or.inl ⟨by rfl, ?_⟩) hT2 (Or.inr trivial) ?_
  rotate_left
  · intro w hS
    obtain ⟨q0, q1, q2, q3⟩ := hS
    go_simp
    try rfl
  try simp only [Act.put, List.getElem_toArray, List.getElem_cons_succ, List.getElem_cons_zero, List.setIfInBounds_toArray, List.set_cons_zero, List.set_cons_succ]
  refine G_takeA (i := 25) (v := ?_) rfl (by kernel_rfl) (by kernel_rfl) (by kernel_rfl) (by kernel_rfl) (fun _ _ _ h => h) (Or.inl ⟨by rfl, ?_⟩) hT2 (Or.inr trivial) ?_
  rotate_left
  · intro w hS
    obtain ⟨q0, q1, q2, q3⟩ := hS
    go_simp
    try rfl
  try simp only [Act.put, List.getElem_toArray, List.getElem_cons_succ, List.getElem_cons_zero, List.setIfInBounds_toArray, List.set_cons_zero, List.set_cons_succ]
  refine G_done (by kernel_rfl) ?_ _
  exact NoPanic.normal (HQ.out _ _ _ _ _ _ _ _ _ _ _ _ _ _ _ _ _ _ _ _ _ _ _ _ _ _ b2)

set_option maxRecDepth 100000 in
set_option maxHeartbeats 2000000 in
theorem r23_wp {s2 s3 s4 s5 s6 s7 s8 s11 s12 s14 s15 s16 s18 s19 s20 s21 s22 s23 s24 s25 s26 s27 s28 s29 s30 s31 s32 s33 s34 s35 s36 s37 s38 s39 s40 s41 s42 s43 s44 s45 s46 s47 s48 s49 s50 s51 s52 s53 s54 s55 s56 s57 s58 s59 s60 s61 s62 s63 s64 s65 s66 s67 s68 s69 s70 s71 s72 s73 s74 s75 s76 s77 s78 s79 s80 s81 s82 s83 s84 s85 s86 s87 s88 s89 s90 s91 s92 s93 s94 s95 s96 s97 s98 s99 s100 s101 s102 s103 s104 s105 s106 s107 s108 s109 s110 s111 s112 s113 s114 s115 s116 s117 s118 s119 s120 s121 s122 s123 s124 s125 s126 s127 s128 s129 s130 s131 s132 s133 s134 s135 s136 s137 s138 s139 s140 s141 s142 s143 s144 s145 s146 s147 s148 s149 s150 s151 s152 s153 s154 s155 s156 s157 s158 s159 s160 s161 s162 s163 s164 s165 s166 s167 s168 s169 s170 s171 s172 s173 s174 s175 s176 s177 s178 s179 s180 s181 s182 s183 s184 s185 s186 s187 : Value} {Q : Exit → Act → World → Prop} {a0 a1 ea ez : Option Addr} {c0 c1 d1 d2 p eb bw c nr nq nx ny : Nat} {g z n1 n2 n3 n4 : Int} {w : World} (y0 : w.cell? ⟨p, 0, none⟩ = some (.slice ea nx d1)) (y1 : w.cell? ⟨p, 1, none⟩ = some (.slice ez ny d2)) (y2 : w.cell? ⟨eb, 0, none⟩ = some (.int .i64 g)) (y3 : w.cell? ⟨eb, 1, none⟩ = some (.int .i64 z)) (y4 : w.cell? ⟨bw, 0, none⟩ = some (.pointer (some ⟨c, 0, none⟩))) (C1 : ∀ w', Below w.heap.size w w' → Calls Try.prog 14 #[.slice ez ny d2, .agg #[.int .i64 g, .int .i64 z]] w' fun e w'' => e = .returned (.int .i64 n1) ∧ Below w'.heap.size w' w'') (C2 : ∀ w', Below w.heap.size w w' → Calls Try.prog 14 #[.slice ea nx d1, .agg #[.int .i64 g, .int .i64 z]] w' fun e w'' => e = .returned (.int .i64 n2) ∧ Below w'.heap.size w' w'') (C3 : ∀ w', Below w.heap.size w w' → Calls Try.prog 14 #[.slice a0 nr c0, .agg #[.int .i64 g, .int .i64 z]] w' fun e w'' => e = .returned (.int .i64 n3) ∧ Below w'.heap.size w' w'') (C4 : ∀ w', Below w.heap.size w w' → Calls Try.prog 14 #[.slice a1 nq c1, .agg #[.int .i64 g, .int .i64 z]] w' fun e w'' => e = .returned (.int .i64 n4) ∧ Below w'.heap.size w' w'') (C5 : ∀ w', Below w.heap.size w w' → Calls Try.prog 13 #[.pointer (some ⟨c, 0, none⟩), .int .i64 g] w' fun e w'' => e = .returned (.bool true) ∧ w'' = w') (hn : n1 + n2 ≤ n3 + n4) (k3 : n3 ≤ 100) (k4 : n4 ≤ 100) (i1 : 0 ≤ n1) (i2 : 0 ≤ n2) (i3 : 0 ≤ n3) (i4 : 0 ≤ n4)
    (hQ : ∀ (v139 v140 v141 v142 v143 v144 v145 v146 v147 v148 v149 v150 v151 v152 v153 v154 v155 v156 v157 v158 v159 v160 v161 v162 v163 v164 v165 v166 v167 v168 v169 : Value) (w' : World), Below w.heap.size w w' → Q .normal ⟨#[.slice a0 nr c0, .slice a1 nq c1, s2, s3, s4, s5, s6, s7, s8, .pointer (some ⟨p, 0, none⟩), .pointer (some ⟨bw, 0, none⟩), s11, s12, .func (.func 14) #[] #[], s14, s15, s16, .pointer (some ⟨eb, 0, none⟩), s18, s19, s20, s21, s22, s23, s24, s25, s26, s27, s28, s29, s30, s31, s32, s33, s34, s35, s36, s37, s38, s39, s40, s41, s42, s43, s44, s45, s46, s47, s48, s49, s50, s51, s52, s53, s54, s55, s56, s57, s58, s59, s60, s61, s62, s63, s64, s65, s66, s67, s68, s69, s70, s71, s72, s73, s74, s75, s76, s77, s78, s79, s80, s81, s82, s83, s84, s85, s86, s87, s88, s89, s90, s91, s92, s93, s94, s95, s96, s97, s98, s99, s100, s101, s102, s103, s104, s105, s106, s107, s108, s109, s110, s111, s112, s113, s114, s115, s116, s117, s118, s119, s120, s121, s122, s123, s124, s125, s126, s127, s128, s129, s130, s131, s132, s133, s134, s135, s136, s137, s138, v139, v140, v141, v142, v143, v144, v145, v146, v147, v148, v149, v150, v151, v152, v153, v154, v155, v156, v157, v158, v159, v160, v161, v162, v163, v164, v165, v166, v167, v168, v169, .bool false, s171, s172, s173, s174, s175, s176, s177, s178, s179, s180, s181, s182, s183, s184, s185, s186, s187], []⟩ w') :
    Code.wp Try.prog r23C Q ⟨#[.slice a0 nr c0, .slice a1 nq c1, s2, s3, s4, s5, s6, s7, s8, .pointer (some ⟨p, 0, none⟩), .pointer (some ⟨bw, 0, none⟩), s11, s12, .func (.func 14) #[] #[], s14, s15, s16, .pointer (some ⟨eb, 0, none⟩), s18, s19, s20, s21, s22, s23, s24, s25, s26, s27, s28, s29, s30, s31, s32, s33, s34, s35, s36, s37, s38, s39, s40, s41, s42, s43, s44, s45, s46, s47, s48, s49, s50, s51, s52, s53, s54, s55, s56, s57, s58, s59, s60, s61, s62, s63, s64, s65, s66, s67, s68, s69, s70, s71, s72, s73, s74, s75, s76, s77, s78, s79, s80, s81, s82, s83, s84, s85, s86, s87, s88, s89, s90, s91, s92, s93, s94, s95, s96, s97, s98, s99, s100, s101, s102, s103, s104, s105, s106, s107, s108, s109, s110, s111, s112, s113, s114, s115, s116, s117, s118, s119, s120, s121, s122, s123, s124, s125, s126, s127, s128, s129, s130, s131, s132, s133, s134, s135, s136, s137, s138, s139, s140, s141, s142, s143, s144, s145, s146, s147, s148, s149, s150, s151, s152, s153, s154, s155, s156, s157, s158, s159, s160, s161, s162, s163, s164, s165, s166, s167, s168, s169, s170, s171, s172, s173, s174, s175, s176, s177, s178, s179, s180, s181, s182, s183, s184, s185, s186, s187], []⟩ w := by
  conv => arg 2; whnf
  refine wp_region_noPanic ?_
  refine wp_region_any (by kernel_rfl) ?_
  have HQ : Hid (∀ (v139 v140 v141 v142 v143 v144 v145 v146 v147 v148 v149 v150 v151 v152 v153 v154 v155 v156 v157 v158 v159 v160 v161 v162 v163 v164 v165 v166 v167 v168 v169 : Value) (w' : World), Below w.heap.size w w' → Q .normal ⟨#[.slice a0 nr c0, .slice a1 nq c1, s2, s3, s4, s5, s6, s7, s8, .pointer (some ⟨p, 0, none⟩), .pointer (some ⟨bw, 0, none⟩), s11, s12, .func (.func 14) #[] #[], s14, s15, s16, .pointer (some ⟨eb, 0, none⟩), s18, s19, s20, s21, s22, s23, s24, s25, s26, s27, s28, s29, s30, s31, s32, s33, s34, s35, s36, s37, s38, s39, s40, s41, s42, s43, s44, s45, s46, s47, s48, s49, s50, s51, s52, s53, s54, s55, s56, s57, s58, s59, s60, s61, s62, s63, s64, s65, s66, s67, s68, s69, s70, s71, s72, s73, s74, s75, s76, s77, s78, s79, s80, s81, s82, s83, s84, s85, s86, s87, s88, s89, s90, s91, s92, s93, s94, s95, s96, s97, s98, s99, s100, s101, s102, s103, s104, s105, s106, s107, s108, s109, s110, s111, s112, s113, s114, s115, s116, s117, s118, s119, s120, s121, s122, s123, s124, s125, s126, s127, s128, s129, s130, s131, s132, s133, s134, s135, s136, s137, s138, v139, v140, v141, v142, v143, v144, v145, v146, v147, v148, v149, v150, v151, v152, v153, v154, v155, v156, v157, v158, v159, v160, v161, v162, v163, v164, v165, v166, v167, v168, v169, .bool false, s171, s172, s173, s174, s175, s176, s177, s178, s179, s180, s181, s182, s183, s184, s185, s186, s187], []⟩ w') := hQ
  have H1 : Hid (∀ w', Below w.heap.size w w' → Calls Try.prog 14 #[.slice ez ny d2, .agg #[.int .i64 g, .int .i64 z]] w' fun e w'' => e = .returned (.int .i64 n1) ∧ Below w'.heap.size w' w'') := C1
  have H2 : Hid (∀ w', Below w.heap.size w w' → Calls Try.prog 14 #[.slice ea nx d1, .agg #[.int .i64 g, .int .i64 z]] w' fun e w'' => e = .returned (.int .i64 n2) ∧ Below w'.heap.size w' w'') := C2
  have H3 : Hid (∀ w', Below w.heap.size w w' → Calls Try.prog 14 #[.slice a0 nr c0, .agg #[.int .i64 g, .int .i64 z]] w' fun e w'' => e = .returned (.int .i64 n3) ∧ Below w'.heap.size w' w'') := C3
  have H4 : Hid (∀ w', Below w.heap.size w w' → Calls Try.prog 14 #[.slice a1 nq c1, .agg #[.int .i64 g, .int .i64 z]] w' fun e w'' => e = .returned (.int .i64 n4) ∧ Below w'.heap.size w' w'') := C4
  have H5 : Hid (∀ w', Below w.heap.size w w' → Calls Try.prog 13 #[.pointer (some ⟨c, 0, none⟩), .int .i64 g] w' fun e w'' => e = .returned (.bool true) ∧ w'' = w') := C5
  have lp := World.block_lt_of_cell? w _ y0
  have le := World.block_lt_of_cell? w _ y2
  have lb := World.block_lt_of_cell? w _ y4
  dsimp only at lp le lb
  clear hQ C1 C2 C3 C4 C5
  have hd : decide (n3 + n4 < n1 + n2) = false := decide_eq_false (by omega)
  have k1 : n1 ≤ 200 := by omega
  have k2 : n2 ≤ 200 := by omega
  have hw1 : wrap64 (n1 + n2) = n1 + n2 := IntWalk.wrap64_in _ ⟨by omega, by omega⟩
  have hw2 : wrap64 (n3 + n4) = n3 + n4 := IntWalk.wrap64_in _ ⟨by omega, by omega⟩
  have hw3 : IntKind.i64.wrap (n1 + n2) = n1 + n2 := by rw [IntKind.wrap_i64]; omega
  have hw4 : IntKind.i64.wrap (n3 + n4) = n3 + n4 := by rw [IntKind.wrap_i64]; omega
  have hbd := (Below.refl w.heap.size w).drew
  have hT0 : (fun w' => w'.cell? ⟨p, 0, none⟩ = some (.slice ea nx d1) ∧ w'.cell? ⟨p, 1, none⟩ = some (.slice ez ny d2) ∧ w'.cell? ⟨eb, 0, none⟩ = some (.int .i64 g) ∧ w'.cell? ⟨eb, 1, none⟩ = some (.int .i64 z) ∧ w'.cell? ⟨bw, 0, none⟩ = some (.pointer (some ⟨c, 0, none⟩))) w.drew := ⟨y0, y1, y2, y3, y4⟩
  refine any_of_G (T := fun w' => w'.cell? ⟨p, 0, none⟩ = some (.slice ea nx d1) ∧ w'.cell? ⟨p, 1, none⟩ = some (.slice ez ny d2) ∧ w'.cell? ⟨eb, 0, none⟩ = some (.int .i64 g) ∧ w'.cell? ⟨eb, 1, none⟩ = some (.int .i64 z) ∧ w'.cell? ⟨bw, 0, none⟩ = some (.pointer (some ⟨c, 0, none⟩))) (S := fun _ => True) (St := []) _ _ _ _ ?_
  refine G_takeA (i := 0) (v := ?_) rfl (by kernel_rfl) (by kernel_rfl) (by kernel_rfl) (by kernel_rfl) (fun _ _ _ h => h) (Or.inl ⟨by rfl, ?_⟩) hT0 (Or.inr trivial) ?_
  rotate_left
  · intro w hS
    obtain ⟨q0, q1, q2, q3, q4⟩ := hS
    go_simp
    try rfl
  try simp only [Act.put, List.getElem_toArray, List.getElem_cons_zero, List.setIfInBounds_toArray, List.set_cons_zero, List.set_cons_succ]
  refine G_takeA (i := 1) (v := ?_) rfl (by kernel_rfl) (by kernel_rfl) (by kernel_rfl) (by kernel_rfl) (fun _ _ _ h => h) (Or.inl ⟨by rfl, ?_⟩) hT0 (Or.inr trivial) ?_
  rotate_left
  · intro w hS
    obtain ⟨q0, q1, q2, q3, q4⟩ := hS
    go_simp
    try rfl
  try simp only [Act.put, List.getElem_toArray, List.getElem_cons_succ, List.getElem_cons_zero, List.setIfInBounds_toArray, List.set_cons_zero, List.set_cons_succ]
  refine G_takeA (i := 2) (v := ?_) rfl (by kernel_rfl) (by kernel_rfl) (by kernel_rfl) (by kernel_rfl) (fun _ _ _ h => h) (Or.inl ⟨by rfl, ?_⟩) hT0 (Or.inr trivial) ?_
  rotate_left
  · intro w hS
    obtain ⟨q0, q1, q2, q3, q4⟩ := hS
    go_simp
    try rfl
  try simp only [Act.put, List.getElem_toArray, List.getElem_cons_succ, List.getElem_cons_zero, List.setIfInBounds_toArray, List.set_cons_zero, List.set_cons_succ]
  refine G_takeA (i := 3) (v := ?_) rfl (by kernel_rfl) (by kernel_rfl) (by kernel_rfl) (by kernel_rfl) (fun _ _ _ h => h) (Or.inl ⟨by rfl, ?_⟩) hT0 (Or.inr trivial) ?_
  rotate_left
  · intro w hS
    obtain ⟨q0, q1, q2, q3, q4⟩ := hS
    go_simp
    try rfl
  try simp only [Act.put, List.getElem_toArray, List.getElem_cons_succ, List.getElem_cons_zero, List.setIfInBounds_toArray, List.set_cons_zero, List.set_cons_succ]
  refine G_takeA (i := 4) (v := ?_) rfl (by kernel_rfl) (by kernel_rfl) (by kernel_rfl) (by kernel_rfl) (fun _ _ _ h => h) (Or.inl ⟨by rfl, ?_⟩) hT0 (Or.inr trivial) ?_
  rotate_left
  · intro w hS
    obtain ⟨q0, q1, q2, q3, q4⟩ := hS
    go_simp
    try rfl
  try simp only [Act.put, List.getElem_toArray, List.getElem_cons_succ, List.getElem_cons_zero, List.setIfInBounds_toArray, List.set_cons_zero, List.set_cons_succ]
  refine G_takeA (i := 5) (v := ?_) rfl (by kernel_rfl) (by kernel_rfl) (by kernel_rfl) (by kernel_rfl) (fun _ _ _ h => h) (Or.inl ⟨by rfl, ?_⟩) hT0 (Or.inr trivial) ?_
  rotate_left
  · intro w hS
    obtain ⟨q0, q1, q2, q3, q4⟩ := hS
    go_simp
    try rfl
  try simp only [Act.put, List.getElem_toArray, List.getElem_cons_succ, List.getElem_cons_zero, List.setIfInBounds_toArray, List.set_cons_zero, List.set_cons_succ]
  refine G_takeA (i := 7) (v := ?_) rfl (by kernel_rfl) (by kernel_rfl) (by kernel_rfl) (by kernel_rfl) (fun _ _ _ h => h) (Or.inl ⟨by rfl, ?_⟩) hT0 (Or.inr trivial) ?_
  rotate_left
  · intro w hS
    obtain ⟨q0, q1, q2, q3, q4⟩ := hS
    go_simp
    try rfl
  try simp only [Act.put, List.getElem_toArray, List.getElem_cons_succ, List.getElem_cons_zero, List.setIfInBounds_toArray, List.set_cons_zero, List.set_cons_succ]
  refine G_takeA (i := 8) (v := ?_) rfl (by kernel_rfl) (by kernel_rfl) (by kernel_rfl) (by kernel_rfl) (fun _ _ _ h => h) (Or.inl ⟨by rfl, ?_⟩) hT0 (Or.inr trivial) ?_
  rotate_left
  · intro w hS
    obtain ⟨q0, q1, q2, q3, q4⟩ := hS
    go_simp
    try rfl
  try simp only [Act.put, List.getElem_toArray, List.getElem_cons_succ, List.getElem_cons_zero, List.setIfInBounds_toArray, List.set_cons_zero, List.set_cons_succ]
  refine G_takeA (i := 9) (v := ?_) rfl (by kernel_rfl) (by kernel_rfl) (by kernel_rfl) (by kernel_rfl) (fun _ _ _ h => h) (Or.inl ⟨by rfl, ?_⟩) hT0 (Or.inr trivial) ?_
  rotate_left
  · intro w hS
    obtain ⟨q0, q1, q2, q3, q4⟩ := hS
    go_simp
    try rfl
  try simp only [Act.put, List.getElem_toArray, List.getElem_cons_succ, List.getElem_cons_zero, List.setIfInBounds_toArray, List.set_cons_zero, List.set_cons_succ]
  refine G_takeA (i := 10) (v := ?_) rfl (by kernel_rfl) (by kernel_rfl) (by kernel_rfl) (by kernel_rfl) (fun _ _ _ h => h) (Or.inl ⟨by rfl, ?_⟩) hT0 (Or.inr trivial) ?_
  rotate_left
  · intro w hS
    obtain ⟨q0, q1, q2, q3, q4⟩ := hS
    go_simp
    try rfl
  try simp only [Act.put, List.getElem_toArray, List.getElem_cons_succ, List.getElem_cons_zero, List.setIfInBounds_toArray, List.set_cons_zero, List.set_cons_succ]
  refine G_takeA (i := 11) (v := ?_) rfl (by kernel_rfl) (by kernel_rfl) (by kernel_rfl) (by kernel_rfl) (fun _ _ _ h => h) (Or.inl ⟨by rfl, ?_⟩) hT0 (Or.inr trivial) ?_
  rotate_left
  · intro w hS
    obtain ⟨q0, q1, q2, q3, q4⟩ := hS
    go_simp
    try rfl
  try simp only [Act.put, List.getElem_toArray, List.getElem_cons_succ, List.getElem_cons_zero, List.setIfInBounds_toArray, List.set_cons_zero, List.set_cons_succ]
  refine G_takeA (i := 12) (v := ?_) rfl (by kernel_rfl) (by kernel_rfl) (by kernel_rfl) (by kernel_rfl) (fun _ _ _ h => h) (Or.inl ⟨by rfl, ?_⟩) hT0 (Or.inr trivial) ?_
  rotate_left
  · intro w hS
    obtain ⟨q0, q1, q2, q3, q4⟩ := hS
    go_simp
    try rfl
  try simp only [Act.put, List.getElem_toArray, List.getElem_cons_succ, List.getElem_cons_zero, List.setIfInBounds_toArray, List.set_cons_zero, List.set_cons_succ]
  refine G_takeA (i := 15) (v := ?_) rfl (by kernel_rfl) (by kernel_rfl) (by kernel_rfl) (by kernel_rfl) (fun _ _ _ h => h) (Or.inl ⟨by rfl, ?_⟩) hT0 (Or.inr trivial) ?_
  rotate_left
  · intro w hS
    obtain ⟨q0, q1, q2, q3, q4⟩ := hS
    go_simp
    try rfl
  try simp only [Act.put, List.getElem_toArray, List.getElem_cons_succ, List.getElem_cons_zero, List.setIfInBounds_toArray, List.set_cons_zero, List.set_cons_succ]
  refine G_takeA (i := 16) (v := ?_) rfl (by kernel_rfl) (by kernel_rfl) (by kernel_rfl) (by kernel_rfl) (fun _ _ _ h => h) (Or.inl ⟨by rfl, ?_⟩) hT0 (Or.inr trivial) ?_
  rotate_left
  · intro w hS
    obtain ⟨q0, q1, q2, q3, q4⟩ := hS
    go_simp
    try rfl
  try simp only [Act.put, List.getElem_toArray, List.getElem_cons_succ, List.getElem_cons_zero, List.setIfInBounds_toArray, List.set_cons_zero, List.set_cons_succ]
  refine G_takeA (i := 17) (v := ?_) rfl (by kernel_rfl) (by kernel_rfl) (by kernel_rfl) (by kernel_rfl) (fun _ _ _ h => h) (Or.inl ⟨by rfl, ?_⟩) hT0 (Or.inr trivial) ?_
  rotate_left
  · intro w hS
    obtain ⟨q0, q1, q2, q3, q4⟩ := hS
    go_simp
    try rfl
  try simp only [Act.put, List.getElem_toArray, List.getElem_cons_succ, List.getElem_cons_zero, List.setIfInBounds_toArray, List.set_cons_zero, List.set_cons_succ]
  refine G_takeA (i := 19) (v := ?_) rfl (by kernel_rfl) (by kernel_rfl) (by kernel_rfl) (by kernel_rfl) (fun _ _ _ h => h) (Or.inl ⟨by rfl, ?_⟩) hT0 (Or.inr trivial) ?_
  rotate_left
  · intro w hS
    obtain ⟨q0, q1, q2, q3, q4⟩ := hS
    go_simp
    try rfl
  try simp only [Act.put, List.getElem_toArray, List.getElem_cons_succ, List.getElem_cons_zero, List.setIfInBounds_toArray, List.set_cons_zero, List.set_cons_succ]
  refine G_takeA (i := 20) (v := ?_) rfl (by kernel_rfl) (by kernel_rfl) (by kernel_rfl) (by kernel_rfl) (fun _ _ _ h => h) (Or.inl ⟨by rfl, ?_⟩) hT0 (Or.inr trivial) ?_
  rotate_left
  · intro w hS
    obtain ⟨q0, q1, q2, q3, q4⟩ := hS
    go_simp
    try rfl
  try simp only [Act.put, List.getElem_toArray, List.getElem_cons_succ, List.getElem_cons_zero, List.setIfInBounds_toArray, List.set_cons_zero, List.set_cons_succ]
  refine G_takeA (i := 21) (v := ?_) rfl (by kernel_rfl) (by kernel_rfl) (by kernel_rfl) (by kernel_rfl) (fun _ _ _ h => h) (Or.inl ⟨by rfl, ?_⟩) hT0 (Or.inr trivial) ?_
  rotate_left
  · intro w hS
    obtain ⟨q0, q1, q2, q3, q4⟩ := hS
    go_simp
    try rfl
  try simp only [Act.put, List.getElem_toArray, List.getElem_cons_succ, List.getElem_cons_zero, List.setIfInBounds_toArray, List.set_cons_zero, List.set_cons_succ]
  refine G_one (i := 6) (by kernel_rfl) ?_
  refine wpOp_of_wpG rfl (by rfl) ?_
  simp only [List.getElem_toArray, List.getElem_cons_succ, List.getElem_cons_zero]
  go_simp
  refine (H1.out _ hbd).mono ?_
  rintro e w1 ⟨rfl, k1⟩
  have b1 : Below w.heap.size w w1 := hbd.trans (k1.mono hbd.size)
  have hT1 : (fun w' => w'.cell? ⟨p, 0, none⟩ = some (.slice ea nx d1) ∧ w'.cell? ⟨p, 1, none⟩ = some (.slice ez ny d2) ∧ w'.cell? ⟨eb, 0, none⟩ = some (.int .i64 g) ∧ w'.cell? ⟨eb, 1, none⟩ = some (.int .i64 z) ∧ w'.cell? ⟨bw, 0, none⟩ = some (.pointer (some ⟨c, 0, none⟩))) w1 := ⟨(b1.cell (p := ⟨p, 0, none⟩) lp).trans y0, (b1.cell (p := ⟨p, 1, none⟩) lp).trans y1, (b1.cell (p := ⟨eb, 0, none⟩) le).trans y2, (b1.cell (p := ⟨eb, 1, none⟩) le).trans y3, (b1.cell (p := ⟨bw, 0, none⟩) lb).trans y4⟩
  first
    | refine ⟨⟨hT1, Or.inr trivial⟩, ?_⟩
    | refine ⟨hT1, ?_⟩
    | refine ⟨hT1.1, hT1.2.1, hT1.2.2.1, hT1.2.2.2, ?_⟩
    | refine ⟨hT1.1, hT1.2.1, hT1.2.2.1, hT1.2.2.2.1, hT1.2.2.2.2, ?_⟩
  try simp only [Act.put, List.getElem_toArray, List.getElem_cons_succ, List.getElem_cons_zero, List.setIfInBounds_toArray, List.set_cons_zero, List.set_cons_succ]
  refine G_one (i := 13) (by kernel_rfl) ?_
  refine wpOp_of_wpG rfl (by rfl) ?_
  simp only [List.getElem_toArray, List.getElem_cons_succ, List.getElem_cons_zero]
  go_simp
  refine (H2.out _ b1).mono ?_
  rintro e w2 ⟨rfl, k2⟩
  have b2 : Below w.heap.size w w2 := b1.trans (k2.mono b1.size)
  have hT2 : (fun w' => w'.cell? ⟨p, 0, none⟩ = some (.slice ea nx d1) ∧ w'.cell? ⟨p, 1, none⟩ = some (.slice ez ny d2) ∧ w'.cell? ⟨eb, 0, none⟩ = some (.int .i64 g) ∧ w'.cell? ⟨eb, 1, none⟩ = some (.int .i64 z) ∧ w'.cell? ⟨bw, 0, none⟩ = some (.pointer (some ⟨c, 0, none⟩))) w2 := ⟨(b2.cell (p := ⟨p, 0, none⟩) lp).trans y0, (b2.cell (p := ⟨p, 1, none⟩) lp).trans y1, (b2.cell (p := ⟨eb, 0, none⟩) le).trans y2, (b2.cell (p := ⟨eb, 1, none⟩) le).trans y3, (b2.cell (p := ⟨bw, 0, none⟩) lb).trans y4⟩
  first
    | refine ⟨⟨hT2, Or.inr trivial⟩, ?_⟩
    | refine ⟨hT2, ?_⟩
    | refine ⟨hT2.1, hT2.2.1, hT2.2.2.1, hT2.2.2.2, ?_⟩
    | refine ⟨hT2.1, hT2.2.1, hT2.2.2.1, hT2.2.2.2.1, hT2.2.2.2.2, ?_⟩
  try simp only [Act.put, List.getElem_toArray, List.getElem_cons_succ, List.getElem_cons_zero, List.setIfInBounds_toArray, List.set_cons_zero, List.set_cons_succ]
  refine G_takeA (i := 14) (v := ?_) rfl (by kernel_rfl) (by kernel_rfl) (by kernel_rfl) (by kernel_rfl) (fun _ _ _ h => h) (Or.inl ⟨by rfl, ?_⟩) hT2 (Or.inr trivial) ?_
  rotate_left
  · intro w hS
    obtain ⟨q0, q1, q2, q3, q4⟩ := hS
    go_simp
    try rfl
  try simp only [Act.put, List.getElem_toArray, List.getElem_cons_succ, List.getElem_cons_zero, List.setIfInBounds_toArray, List.set_cons_zero, List.set_cons_succ]
  refine G_one (i := 18) (by kernel_rfl) ?_
  refine wpOp_of_wpG rfl (by rfl) ?_
  simp only [List.getElem_toArray, List.getElem_cons_succ, List.getElem_cons_zero]
  go_simp
  refine (H3.out _ b2).mono ?_
  rintro e w3 ⟨rfl, k3⟩
  have b3 : Below w.heap.size w w3 := b2.trans (k3.mono b2.size)
  have hT3 : (fun w' => w'.cell? ⟨p, 0, none⟩ = some (.slice ea nx d1) ∧ w'.cell? ⟨p, 1, none⟩ = some (.slice ez ny d2) ∧ w'.cell? ⟨eb, 0, none⟩ = some (.int .i64 g) ∧ w'.cell? ⟨eb, 1, none⟩ = some (.int .i64 z) ∧ w'.cell? ⟨bw, 0, none⟩ = some (.pointer (some ⟨c, 0, none⟩))) w3 := ⟨(b3.cell (p := ⟨p, 0, none⟩) lp).trans y0, (b3.cell (p := ⟨p, 1, none⟩) lp).trans y1, (b3.cell (p := ⟨eb, 0, none⟩) le).trans y2, (b3.cell (p := ⟨eb, 1, none⟩) le).trans y3, (b3.cell (p := ⟨bw, 0, none⟩) lb).trans y4⟩
  first
    | refine ⟨⟨hT3, Or.inr trivial⟩, ?_⟩
    | refine ⟨hT3, ?_⟩
    | refine ⟨hT3.1, hT3.2.1, hT3.2.2.1, hT3.2.2.2, ?_⟩
    | refine ⟨hT3.1, hT3.2.1, hT3.2.2.1, hT3.2.2.2.1, hT3.2.2.2.2, ?_⟩
  try simp only [Act.put, List.getElem_toArray, List.getElem_cons_succ, List.getElem_cons_zero, List.setIfInBounds_toArray, List.set_cons_zero, List.set_cons_succ]
  refine G_one (i := 22) (by kernel_rfl) ?_
  refine wpOp_of_wpG rfl (by rfl) ?_
  simp only [List.getElem_toArray, List.getElem_cons_succ, List.getElem_cons_zero]
  go_simp
  refine (H4.out _ b3).mono ?_
  rintro e w4 ⟨rfl, k4⟩
  have b4 : Below w.heap.size w w4 := b3.trans (k4.mono b3.size)
  have hT4 : (fun w' => w'.cell? ⟨p, 0, none⟩ = some (.slice ea nx d1) ∧ w'.cell? ⟨p, 1, none⟩ = some (.slice ez ny d2) ∧ w'.cell? ⟨eb, 0, none⟩ = some (.int .i64 g) ∧ w'.cell? ⟨eb, 1, none⟩ = some (.int .i64 z) ∧ w'.cell? ⟨bw, 0, none⟩ = some (.pointer (some ⟨c, 0, none⟩))) w4 := ⟨(b4.cell (p := ⟨p, 0, none⟩) lp).trans y0, (b4.cell (p := ⟨p, 1, none⟩) lp).trans y1, (b4.cell (p := ⟨eb, 0, none⟩) le).trans y2, (b4.cell (p := ⟨eb, 1, none⟩) le).trans y3, (b4.cell (p := ⟨bw, 0, none⟩) lb).trans y4⟩
  first
    | refine ⟨⟨hT4, Or.inr trivial⟩, ?_⟩
    | refine ⟨hT4, ?_⟩
    | refine ⟨hT4.1, hT4.2.1, hT4.2.2.1, hT4.2.2.2, ?_⟩
    | refine ⟨hT4.1, hT4.2.1, hT4.2.2.1, hT4.2.2.2.1, hT4.2.2.2.2, ?_⟩
  try simp only [Act.put, List.getElem_toArray, List.getElem_cons_succ, List.getElem_cons_zero, List.setIfInBounds_toArray, List.set_cons_zero, List.set_cons_succ]
  try simp only [hw1, hw3]
  refine G_takeA (i := 23) (v := ?_) rfl (by kernel_rfl) (by kernel_rfl) (by kernel_rfl) (by kernel_rfl) (fun _ _ _ h => h) (Or.inl ⟨by rfl, ?_⟩) hT4 (Or.inr trivial) ?_
  rotate_left
  · intro w hS
    obtain ⟨q0, q1, q2, q3, q4⟩ := hS
    go_simp
    try rfl
  try simp only [Act.put, List.getElem_toArray, List.getElem_cons_succ, List.getElem_cons_zero, List.setIfInBounds_toArray, List.set_cons_zero, List.set_cons_succ]
  try simp only [hw2, hw4]
  refine G_takeA (i := 24) (v := ?_) rfl (by kernel_rfl) (by kernel_rfl) (by kernel_rfl) (by kernel_rfl) (fun _ _ _ h => h) (Or.inl ⟨by rfl, ?_⟩) hT4 (Or.inr trivial) ?_
  rotate_left
  · intro w hS
    obtain ⟨q0, q1, q2, q3, q4⟩ := hS
    go_simp
    try rfl
  try simp only [Act.put, List.getElem_toArray, List.getElem_cons_succ, List.getElem_cons_zero, List.setIfInBounds_toArray, List.set_cons_zero, List.set_cons_succ]
  try simp only [hw1, hw2, hw3, hw4, gt_iff_lt, hd]
  refine G_takeA (i := 25) (v := ?_) rfl (by kernel_rfl) (by kernel_rfl) (by kernel_rfl) (by kernel_rfl) (fun _ _ _ h => h) (Or.inl ⟨by rfl, ?_⟩) hT4 (Or.inr trivial) ?_
  rotate_left
  · intro w hS
    obtain ⟨q0, q1, q2, q3, q4⟩ := hS
    go_simp
    try rfl
  try simp only [Act.put, List.getElem_toArray, List.getElem_cons_succ, List.getElem_cons_zero, List.setIfInBounds_toArray, List.set_cons_zero, List.set_cons_succ]
  refine G_takeA (i := 26) (v := ?_) rfl (by kernel_rfl) (by kernel_rfl) (by kernel_rfl) (by kernel_rfl) (fun _ _ _ h => h) (Or.inl ⟨by rfl, ?_⟩) hT4 (Or.inr trivial) ?_
  rotate_left
  · intro w hS
    obtain ⟨q0, q1, q2, q3, q4⟩ := hS
    go_simp
    try rfl
  try simp only [Act.put, List.getElem_toArray, List.getElem_cons_succ, List.getElem_cons_zero, List.setIfInBounds_toArray, List.set_cons_zero, List.set_cons_succ]
  refine G_takeA (i := 27) (v := ?_) rfl (by kernel_rfl) (by kernel_rfl) (by kernel_rfl) (by kernel_rfl) (fun _ _ _ h => h) (Or.inl ⟨by rfl, ?_⟩) hT4 (Or.inr trivial) ?_
  rotate_left
  · intro w hS
    obtain ⟨q0, q1, q2, q3, q4⟩ := hS
    go_simp
    try rfl
  try simp only [Act.put, List.getElem_toArray, List.getElem_cons_succ, List.getElem_cons_zero, List.setIfInBounds_toArray, List.set_cons_zero, List.set_cons_succ]
  refine G_takeA (i := 28) (v := ?_) rfl (by kernel_rfl) (by kernel_rfl) (by kernel_rfl) (by kernel_rfl) (fun _ _ _ h => h) (Or.inl ⟨by rfl, ?_⟩) hT4 (Or.inr trivial) ?_
  rotate_left
  · intro w hS
    obtain ⟨q0, q1, q2, q3, q4⟩ := hS
    go_simp
    try rfl
  try simp only [Act.put, List.getElem_toArray, List.getElem_cons_succ, List.getElem_cons_zero, List.setIfInBounds_toArray, List.set_cons_zero, List.set_cons_succ]
  refine G_one (i := 29) (by kernel_rfl) ?_
  refine wpOp_of_wpG rfl (by rfl) ?_
  simp only [List.getElem_toArray, List.getElem_cons_succ, List.getElem_cons_zero]
  go_simp
  refine (H5.out _ b4).mono ?_
  rintro e x29 ⟨rfl, hx29⟩
  have hx29 := hx29.symm
  subst hx29
  first
    | refine ⟨⟨hT4, Or.inr trivial⟩, ?_⟩
    | refine ⟨hT4, ?_⟩
    | refine ⟨hT4.1, hT4.2.1, hT4.2.2.1, hT4.2.2.2, ?_⟩
    | refine ⟨hT4.1, hT4.2.1, hT4.2.2.1, hT4.2.2.2.1, hT4.2.2.2.2, ?_⟩
  try simp only [Act.put, List.getElem_toArray, List.getElem_cons_succ, List.getElem_cons_zero, List.setIfInBounds_toArray, List.set_cons_zero, List.set_cons_succ]
  refine G_takeA (i := 30) (v := ?_) rfl (by kernel_rfl) (by kernel_rfl) (by kernel_rfl) (by kernel_rfl) (fun _ _ _ h => h) (Or.inl ⟨by rfl, ?_⟩) hT4 (Or.inr trivial) ?_
  rotate_left
  · intro w hS
    obtain ⟨q0, q1, q2, q3, q4⟩ := hS
    go_simp
    try rfl
  try simp only [Act.put, List.getElem_toArray, List.getElem_cons_succ, List.getElem_cons_zero, List.setIfInBounds_toArray, List.set_cons_zero, List.set_cons_succ]
  refine G_takeA (i := 31) (v := ?_) rfl (by kernel_rfl) (by kernel_rfl) (by kernel_rfl) (by kernel_rfl) (fun _ _ _ h => h) (Or.inl ⟨by rfl, ?_⟩) hT4 (Or.inr trivial) ?_
  rotate_left
  · intro w hS
    obtain ⟨q0, q1, q2, q3, q4⟩ := hS
    go_simp
    try rfl
  try simp only [Act.put, List.getElem_toArray, List.getElem_cons_succ, List.getElem_cons_zero, List.setIfInBounds_toArray, List.set_cons_zero, List.set_cons_succ]
  refine G_done (by kernel_rfl) ?_ _
  exact NoPanic.normal (HQ.out _ _ _ _ _ _ _ _ _ _ _ _ _ _ _ _ _ _ _ _ _ _ _ _ _ _ _ _ _ _ _ _ b4)

end Go.Proofs.Ythlfgddhkffilab.SOnce
