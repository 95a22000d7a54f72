/- SideDoes: what waits without one. -/
import Derived.Test.YthlfgddhkffilaaSDc0
import Derived.Test.YthlfgddhkffilaaSw3
import Derived.Test.YthlfgddhkffilaaHg
namespace Go.Proofs.Ythlfgddhkffilaa.SDo
open Go.RowKit W Kp Stl

/-- A region itself. -/
def findR (n : Nat) : Code → Option Code
  | .region m o dr => match m == n with
    | true => some (.region m o dr)
    | false => none
  | .seq a b => match findR n a with
    | some c => some c
    | none => findR n b
  | .cond _ a b => match findR n a with
    | some c => some c
    | none => findR n b
  | .block _ c => findR n c
  | .loop c => findR n c
  | .scope c => findR n c
  | _ => none
noncomputable def r30C : Code := (findR 30 bodyC).getD .skip

/-- Cells of a part of a row. -/
theorem part_cells {w : World} {b o : Nat} {l : List En} (h : ∀ i, i < l.length → w.cell? ⟨b, o + i * 2, none⟩ = some (.int .i64 (l.getD i (0, 0)).1) ∧ w.cell? ⟨b, o + i * 2 + 1, none⟩ = some (.int .i64 (l.getD i (0, 0)).2)) (hb : b < w.heap.size) : Lp w (some ⟨b, o, none⟩) l := fun _ => ⟨b, o, rfl, hb, h⟩

set_option maxRecDepth 100000 in
set_option maxHeartbeats 2000000 in
theorem r30_wp {s0 s1 s2 s3 s4 s6 s7 s8 s10 s11 s12 s14 s15 s16 s17 s18 s19 s20 s21 s22 s23 s24 s25 s26 s27 s28 s29 s30 s31 s32 s33 s34 s35 s36 s37 s38 s39 s40 s41 s42 s43 s44 s45 s46 s47 s48 s49 s50 s51 s52 s53 s54 s55 s56 s57 s58 s59 s60 s61 s62 s63 s64 s65 s66 s67 s68 s69 s70 s71 s72 s73 s74 s75 s76 s77 s78 s79 s80 s81 s82 s83 s84 s85 s86 s87 s88 s89 s90 s91 s92 s93 s94 s95 s96 s97 s98 s99 s100 s101 s102 s103 s104 s105 s106 s107 s108 s109 s110 s111 s112 s113 s114 s115 s116 s117 s118 s119 s120 s121 s122 s123 s124 s125 s126 s127 s128 s129 s130 s131 s132 s133 s134 s135 s136 s137 s138 s139 s140 s141 s142 s143 s144 s145 s146 s147 s148 s149 s150 s151 s152 s153 s154 s155 s156 s157 s158 s159 s160 s161 s162 s163 s164 s165 s166 s167 s168 s169 s170 s171 s172 s173 s174 s175 s176 s177 s178 s179 s180 s181 s182 s183 s184 s185 s186 s187 s188 s189 s190 s191 s192 s193 s194 s195 s196 s197 s198 s199 : Value} {Q : Exit → Act → World → Prop} {b k i : Nat} {q : List En} {w : World} (hil : i < q.length) (hqk : q.length ≤ k) (lq : q.length ≤ 300) (hb : b < w.heap.size) (hc : ∀ i, i < q.length → w.cell? ⟨b, 0 + i * 2, none⟩ = some (.int .i64 (q.getD i (0, 0)).1) ∧ w.cell? ⟨b, 0 + i * 2 + 1, none⟩ = some (.int .i64 (q.getD i (0, 0)).2))
    (hQ : ∀ (v108 v109 v110 v111 v112 v113 v114 v115 v116 v117 : Value) (aN : Option Addr) (cN : Nat) (w' : World), w'.ownsRow w.heap.size 84 2 (.slice aN (q.take i ++ q.drop (i + 1)).length cN) (q.take i ++ q.drop (i + 1)).length (ev (q.take i ++ q.drop (i + 1))) → Below w.heap.size w w' → Q .normal ⟨#[s0, s1, s2, s3, s4, .slice aN (q.take i ++ q.drop (i + 1)).length cN, s6, s7, s8, .int .i64 i, s10, s11, s12, .slice none 0 0, s14, s15, s16, s17, s18, s19, s20, s21, s22, s23, s24, s25, s26, s27, s28, s29, s30, s31, s32, s33, s34, s35, s36, s37, s38, s39, s40, s41, s42, s43, s44, s45, s46, s47, s48, s49, s50, s51, s52, s53, s54, s55, s56, s57, s58, s59, s60, s61, s62, s63, s64, s65, s66, s67, s68, s69, s70, s71, s72, s73, s74, s75, s76, s77, s78, s79, s80, s81, s82, s83, s84, s85, s86, s87, s88, s89, s90, s91, s92, s93, s94, s95, s96, s97, s98, s99, s100, s101, s102, s103, s104, s105, s106, s107, v108, v109, v110, v111, v112, v113, v114, v115, v116, v117, s118, s119, s120, s121, s122, s123, s124, s125, s126, s127, s128, s129, s130, s131, s132, s133, s134, s135, s136, s137, s138, s139, s140, s141, s142, s143, s144, s145, s146, s147, s148, s149, s150, s151, s152, s153, s154, s155, s156, s157, s158, s159, s160, s161, s162, s163, s164, s165, s166, s167, s168, s169, s170, s171, s172, s173, s174, s175, s176, s177, s178, s179, s180, s181, s182, s183, s184, s185, s186, s187, s188, s189, s190, s191, s192, s193, s194, s195, s196, s197, s198, s199], []⟩ w') :
    Code.wp Try.prog r30C Q ⟨#[s0, s1, s2, s3, s4, .slice (some ⟨b, 0, none⟩) q.length k, s6, s7, s8, .int .i64 i, s10, s11, s12, .slice none 0 0, s14, s15, s16, s17, s18, s19, s20, s21, s22, s23, s24, s25, s26, s27, s28, s29, s30, s31, s32, s33, s34, s35, s36, s37, s38, s39, s40, s41, s42, s43, s44, s45, s46, s47, s48, s49, s50, s51, s52, s53, s54, s55, s56, s57, s58, s59, s60, s61, s62, s63, s64, s65, s66, s67, s68, s69, s70, s71, s72, s73, s74, s75, s76, s77, s78, s79, s80, s81, s82, s83, s84, s85, s86, s87, s88, s89, s90, s91, s92, s93, s94, s95, s96, s97, s98, s99, s100, s101, s102, s103, s104, s105, s106, s107, s108, s109, s110, s111, s112, s113, s114, s115, s116, s117, s118, s119, s120, s121, s122, s123, s124, s125, s126, s127, s128, s129, s130, s131, s132, s133, s134, s135, s136, s137, s138, s139, s140, s141, s142, s143, s144, s145, s146, s147, s148, s149, s150, s151, s152, s153, s154, s155, s156, s157, s158, s159, s160, s161, s162, s163, s164, s165, s166, s167, s168, s169, s170, s171, s172, s173, s174, s175, s176, s177, s178, s179, s180, s181, s182, s183, s184, s185, s186, s187, s188, s189, s190, s191, s192, s193, s194, s195, s196, s197, s198, s199], []⟩ w := by
  conv => arg 2; whnf
  refine wp_region_noPanic ?_
  refine wp_region_any (by kernel_rfl) ?_
  obtain ⟨i0, hi, hz0, hz1, hz2⟩ := info_parts infoEn
  have HQ : Hid (∀ (v108 v109 v110 v111 v112 v113 v114 v115 v116 v117 : Value) (aN : Option Addr) (cN : Nat) (w' : World), w'.ownsRow w.heap.size 84 2 (.slice aN (q.take i ++ q.drop (i + 1)).length cN) (q.take i ++ q.drop (i + 1)).length (ev (q.take i ++ q.drop (i + 1))) → Below w.heap.size w w' → Q .normal ⟨#[s0, s1, s2, s3, s4, .slice aN (q.take i ++ q.drop (i + 1)).length cN, s6, s7, s8, .int .i64 i, s10, s11, s12, .slice none 0 0, s14, s15, s16, s17, s18, s19, s20, s21, s22, s23, s24, s25, s26, s27, s28, s29, s30, s31, s32, s33, s34, s35, s36, s37, s38, s39, s40, s41, s42, s43, s44, s45, s46, s47, s48, s49, s50, s51, s52, s53, s54, s55, s56, s57, s58, s59, s60, s61, s62, s63, s64, s65, s66, s67, s68, s69, s70, s71, s72, s73, s74, s75, s76, s77, s78, s79, s80, s81, s82, s83, s84, s85, s86, s87, s88, s89, s90, s91, s92, s93, s94, s95, s96, s97, s98, s99, s100, s101, s102, s103, s104, s105, s106, s107, v108, v109, v110, v111, v112, v113, v114, v115, v116, v117, s118, s119, s120, s121, s122, s123, s124, s125, s126, s127, s128, s129, s130, s131, s132, s133, s134, s135, s136, s137, s138, s139, s140, s141, s142, s143, s144, s145, s146, s147, s148, s149, s150, s151, s152, s153, s154, s155, s156, s157, s158, s159, s160, s161, s162, s163, s164, s165, s166, s167, s168, s169, s170, s171, s172, s173, s174, s175, s176, s177, s178, s179, s180, s181, s182, s183, s184, s185, s186, s187, s188, s189, s190, s191, s192, s193, s194, s195, s196, s197, s198, s199], []⟩ w') := hQ
  have l1 : Lp w (some ⟨b, 0, none⟩) (q.take i) := part_cells (fun j hj => by
    rw [List.length_take] at hj
    have e : (q.take i).getD j (0, 0) = q.getD j (0, 0) := by simp [show j < i by omega]
    rw [e]
    exact hc j (by omega)) hb
  have l2 : Lp w (some ⟨b, (i + 1) * 2, none⟩) (q.drop (i + 1)) := part_cells (fun j hj => by
    rw [List.length_drop] at hj
    have e : (q.drop (i + 1)).getD j (0, 0) = q.getD (i + 1 + j) (0, 0) := by simp [List.getElem?_drop]
    rw [e]
    have h := hc (i + 1 + j) (by omega)
    rw [show 0 + (i + 1 + j) * 2 = (i + 1) * 2 + j * 2 by omega] at h
    exact h) hb
  have L1 : Hid (Lp w (some ⟨b, 0, none⟩) (q.take i)) := l1
  have L2 : Hid (Lp w (some ⟨b, (i + 1) * 2, none⟩) (q.drop (i + 1))) := l2
  have hbd := (Below.refl w.heap.size w).drew
  have i1 : (0 : Int) ≤ (i : Int) := by omega
  have i2 : (i : Int) < (q.length : Int) := by omega
  have i3 : (i : Int) ≤ (k : Int) := by omega
  have i4 : (q.length : Int) ≤ (k : Int) := by omega
  have i5 : (i : Int) + 1 ≤ (q.length : Int) := by omega
  have i6 : ((i : Int) + 1).toNat = i + 1 := by omega
  have i7 : (0 : Int) ≤ (i : Int) + 1 := by omega
  have w1 : IntKind.i64.wrap ((i : Int) + 1) = (i : Int) + 1 := by rw [IntKind.wrap_i64]; omega
  clear hQ l1 l2 hc
  refine any_of_G (T := fun _ => True) (S := fun _ => True) (St := []) _ _ _ _ ?_
  refine G_takeA (i := 0) (v := ?_) rfl (by kernel_rfl) (by kernel_rfl) (by kernel_rfl) (by kernel_rfl) (fun _ _ _ h => h) (Or.inl ⟨by rfl, ?_⟩) trivial (Or.inr trivial) ?_
  rotate_left
  · intro w hS
    go_simp
    try rfl
  try simp only [Act.put, List.getElem_toArray, List.getElem_cons_zero, List.setIfInBounds_toArray, List.set_cons_zero, List.set_cons_succ]
  refine G_takeA (i := 1) (v := ?_) rfl (by kernel_rfl) (by kernel_rfl) (by kernel_rfl) (by kernel_rfl) (fun _ _ _ h => h) (Or.inl ⟨by rfl, ?_⟩) trivial (Or.inr trivial) ?_
  rotate_left
  · intro w hS
    go_simp
    try rfl
  try simp only [Act.put, List.getElem_toArray, List.getElem_cons_succ, List.getElem_cons_zero, List.setIfInBounds_toArray, List.set_cons_zero, List.set_cons_succ]
  refine G_takeA (i := 2) (v := ?_) rfl (by kernel_rfl) (by kernel_rfl) (by kernel_rfl) (by kernel_rfl) (fun _ _ _ h => h) (Or.inl ⟨by rfl, ?_⟩) trivial (Or.inr trivial) ?_
  rotate_left
  · intro w hS
    go_simp
    try rfl
  try simp only [Act.put, List.getElem_toArray, List.getElem_cons_succ, List.getElem_cons_zero, List.setIfInBounds_toArray, List.set_cons_zero, List.set_cons_succ]
  refine G_takeA (i := 3) (v := ?_) rfl (by kernel_rfl) (by kernel_rfl) (by kernel_rfl) (by kernel_rfl) (fun _ _ _ h => h) (Or.inl ⟨by rfl, ?_⟩) trivial (Or.inr trivial) ?_
  rotate_left
  · intro w hS
    go_simp
    try rfl
  try simp only [Act.put, List.getElem_toArray, List.getElem_cons_succ, List.getElem_cons_zero, List.setIfInBounds_toArray, List.set_cons_zero, List.set_cons_succ]
  refine G_takeA (i := 5) (v := ?_) rfl (by kernel_rfl) (by kernel_rfl) (by kernel_rfl) (by kernel_rfl) (fun _ _ _ h => h) (Or.inl ⟨by rfl, ?_⟩) trivial (Or.inr trivial) ?_
  rotate_left
  · intro w hS
    go_simp
    try rfl
  try simp only [Act.put, List.getElem_toArray, List.getElem_cons_succ, List.getElem_cons_zero, List.setIfInBounds_toArray, List.set_cons_zero, List.set_cons_succ]
  refine G_takeA (i := 6) (v := ?_) rfl (by kernel_rfl) (by kernel_rfl) (by kernel_rfl) (by kernel_rfl) (fun _ _ _ h => h) (Or.inl ⟨by rfl, ?_⟩) trivial (Or.inr trivial) ?_
  rotate_left
  · intro w hS
    go_simp
    try rfl
  try simp only [Act.put, List.getElem_toArray, List.getElem_cons_succ, List.getElem_cons_zero, List.setIfInBounds_toArray, List.set_cons_zero, List.set_cons_succ]
  refine G_takeA (i := 7) (v := ?_) rfl (by kernel_rfl) (by kernel_rfl) (by kernel_rfl) (by kernel_rfl) (fun _ _ _ h => h) (Or.inl ⟨by rfl, ?_⟩) trivial (Or.inr trivial) ?_
  rotate_left
  · intro w hS
    go_simp
    try rfl
  try simp only [Act.put, List.getElem_toArray, List.getElem_cons_succ, List.getElem_cons_zero, List.setIfInBounds_toArray, List.set_cons_zero, List.set_cons_succ]
  refine G_takeA (i := 8) (v := ?_) rfl (by kernel_rfl) (by kernel_rfl) (by kernel_rfl) (by kernel_rfl) (fun _ _ _ h => h) (Or.inl ⟨by rfl, ?_⟩) trivial (Or.inr trivial) ?_
  rotate_left
  · intro w hS
    go_simp
    try rfl
  try simp only [Act.put, List.getElem_toArray, List.getElem_cons_succ, List.getElem_cons_zero, List.setIfInBounds_toArray, List.set_cons_zero, List.set_cons_succ]
  refine G_one (i := 4) (by kernel_rfl) ?_
  refine wpOp_of_wpG rfl (by rfl) ?_
  refine wp_append_src _ (.tmp 108) (.tmp 111) 80 rfl w.heap.size 84 i0 (.agg #[.int .i64 0, .int .i64 0]) 2 16 Try.underlying80 hi hz0 hz1 hz2 rfl (by decide) (.slice none 0 0) 0 ([]) (by simp [Act.eval]) (World.ownsRow_nil _ _ _ _) (some ⟨b, 0, none⟩) i k (ev (q.take i)) (by simp [Act.eval]) (by rw [ev_length, List.length_take]; omega) (fun e => by cases e) ((L1.out.below hbd).cells) (ev_one _) (by unfold maxLen; omega) (by omega) (hbd.size) ?_
  intro aA cA wA hoA hgA _
  rw [Nat.zero_add, List.nil_append] at hoA
  have bA : Below w.heap.size w wA := hbd.grown hgA hbd.size (fun k e => by simp [Value.ownBlock] at e)
  refine ⟨⟨trivial, Or.inr trivial⟩, ?_⟩
  rw [Nat.zero_add]
  try simp only [Act.put, List.getElem_toArray, List.getElem_cons_succ, List.getElem_cons_zero, List.setIfInBounds_toArray, List.set_cons_zero, List.set_cons_succ]
  have hlen : (q.take i ++ q.drop (i + 1)).length = i + (q.length - (i + 1)) := by simp; omega
  have HF := HQ.out
  rw [hlen, ev_append] at HF
  have HF : Hid (_) := HF
  by_cases hki : k = i + 1
  · have L3 : Hid (Lp w (some ⟨b, 0, none⟩) (q.drop (i + 1))) := fun h => by simp at h; omega
    refine G_one (i := 9) (by kernel_rfl) ?_
    refine wpOp_of_wpG rfl (by rfl) ?_
    refine wp_append_src _ (.tmp 112) (.tmp 116) 80 rfl w.heap.size 84 i0 (.agg #[.int .i64 0, .int .i64 0]) 2 16 Try.underlying80 hi hz0 hz1 hz2 rfl (by decide) (.slice aA i cA) i (ev (q.take i)) (by simp [Act.eval]) (hoA) (some ⟨b, 0, none⟩) (q.length - (i + 1)) 0 (ev (q.drop (i + 1))) (by simp [Act.eval, hki]) (by rw [ev_length, List.length_drop]) (fun e => by cases e) ((L3.out.below bA).cells) (ev_one _) (by unfold maxLen; omega) (by omega) (bA.size) ?_
    intro aB cB wB hoB hgB _
    have bB : Below w.heap.size w wB := bA.grown hgB bA.size (fun k e => (row_lt hoA k e.symm).1)
    refine ⟨⟨trivial, Or.inr trivial⟩, ?_⟩
    try simp only [Act.put, List.getElem_toArray, List.getElem_cons_succ, List.getElem_cons_zero, List.setIfInBounds_toArray, List.set_cons_zero, List.set_cons_succ]
    refine G_takeA (i := 10) (v := ?_) rfl (by kernel_rfl) (by kernel_rfl) (by kernel_rfl) (by kernel_rfl) (fun _ _ _ h => h) (Or.inl ⟨by rfl, ?_⟩) trivial (Or.inr trivial) ?_
    rotate_left
    · intro w hS
      go_simp
      try rfl
    try simp only [Act.put, List.getElem_toArray, List.getElem_cons_succ, List.getElem_cons_zero, List.setIfInBounds_toArray, List.set_cons_zero, List.set_cons_succ]
    refine G_done (by kernel_rfl) ?_ _
    exact NoPanic.normal (HF.out _ _ _ _ _ _ _ _ _ _ aB cB wB hoB bB)
  · skip
    refine G_one (i := 9) (by kernel_rfl) ?_
    refine wpOp_of_wpG rfl (by rfl) ?_
    refine wp_append_src _ (.tmp 112) (.tmp 116) 80 rfl w.heap.size 84 i0 (.agg #[.int .i64 0, .int .i64 0]) 2 16 Try.underlying80 hi hz0 hz1 hz2 rfl (by decide) (.slice aA i cA) i (ev (q.take i)) (by simp [Act.eval]) (hoA) (some ⟨b, (i + 1) * 2, none⟩) (q.length - (i + 1)) (k - (i + 1)) (ev (q.drop (i + 1))) (by simp [Act.eval, hki]) (by rw [ev_length, List.length_drop]) (fun e => by cases e) ((L2.out.below bA).cells) (ev_one _) (by unfold maxLen; omega) (by omega) (bA.size) ?_
    intro aB cB wB hoB hgB _
    have bB : Below w.heap.size w wB := bA.grown hgB bA.size (fun k e => (row_lt hoA k e.symm).1)
    refine ⟨⟨trivial, Or.inr trivial⟩, ?_⟩
    try simp only [Act.put, List.getElem_toArray, List.getElem_cons_succ, List.getElem_cons_zero, List.setIfInBounds_toArray, List.set_cons_zero, List.set_cons_succ]
    refine G_takeA (i := 10) (v := ?_) rfl (by kernel_rfl) (by kernel_rfl) (by kernel_rfl) (by kernel_rfl) (fun _ _ _ h => h) (Or.inl ⟨by rfl, ?_⟩) trivial (Or.inr trivial) ?_
    rotate_left
    · intro w hS
      go_simp
      try rfl
    try simp only [Act.put, List.getElem_toArray, List.getElem_cons_succ, List.getElem_cons_zero, List.setIfInBounds_toArray, List.set_cons_zero, List.set_cons_succ]
    refine G_done (by kernel_rfl) ?_ _
    exact NoPanic.normal (HF.out _ _ _ _ _ _ _ _ _ _ aB cB wB hoB bB)

end Go.Proofs.Ythlfgddhkffilaa.SDo
