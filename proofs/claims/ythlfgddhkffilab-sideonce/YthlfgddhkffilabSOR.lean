/- SideOnce: parts of its code; its region that lays a Side's lists. -/
import Derived.Test.YthlfgddhkffilabSo2
import Derived.Test.YthlfgddhkffilabSw3
import Derived.Deep.DeepCutAuto
namespace Go.Proofs.Ythlfgddhkffilab.SOnce
open Go.RowKit W Kp Stl

/-- A region itself. -/
def findR (n : Nat) : Code → Option Code
  | .region m o dr => match m == n with
    | true => some (.region m o dr)
    | false => none
  | .seq a b => match findR n a with
    | some c => some c
    | none => findR n b
  | .cond _ a b => match findR n a with
    | some c => some c
    | none => findR n b
  | .block _ c => findR n c
  | .loop c => findR n c
  | .scope c => findR n c
  | _ => none
noncomputable def r6C : Code := (Try.f3.body.bind (findR 6)).getD .skip
noncomputable def r8C : Code := (Try.f3.body.bind (findR 8)).getD .skip

set_option maxRecDepth 100000 in
set_option maxHeartbeats 2000000 in
theorem r6_wp {s2 s3 s4 s5 s6 s7 s8 s10 s11 s12 s13 s14 s15 s16 s17 s18 s19 s20 s21 s22 s23 s24 s25 s26 s27 s28 s29 s30 s31 s32 s33 s34 s35 s36 s37 s38 s39 s40 s41 s42 s43 s44 s45 s46 s47 s48 s49 s50 s51 s52 s53 s54 s55 s56 s57 s58 s59 s60 s61 s62 s63 s64 s65 s66 s67 s68 s69 s70 s71 s72 s73 s74 s75 s76 s77 s78 s79 s80 s81 s82 s83 s84 s85 s86 s87 s88 s89 s90 s91 s92 s93 s94 s95 s96 s97 s98 s99 s100 s101 s102 s103 s104 s105 s106 s107 s108 s109 s110 s111 s112 s113 s114 s115 s116 s117 s118 s119 s120 s121 s122 s123 s124 s125 s126 s127 s128 s129 s130 s131 s132 s133 s134 s135 s136 s137 s138 s139 s140 s141 s142 s143 s144 s145 s146 s147 s148 s149 s150 s151 s152 s153 s154 s155 s156 s157 s158 s159 s160 s161 s162 s163 s164 s165 s166 s167 s168 s169 s170 s171 s172 s173 s174 s175 s176 s177 s178 s179 s180 s181 s182 s183 s184 s185 s186 s187 : Value} {Q : Exit → Act → World → Prop} {a0 a1 : Option Addr} {c0 c1 p : Nat} {r q : List En} {w : World} (h0 : Li w a0 r c0) (h1 : Li w a1 q c1) (g0 : r.length ≤ 60) (g1 : q.length ≤ 60) (hw : w.heap[p]? = some (.cells #[.slice none 0 0, .slice none 0 0] 29 (0, 0)))
    (hQ : ∀ (v35 v36 v37 v38 v39 v40 v41 v42 v43 v44 v45 v46 v47 v48 v49 v50 v51 v52 : Value) (aR aQ : Option Addr) (cR cQ : Nat) (w' : World), w'.heap[p]? = some (.cells #[.slice aR r.length cR, .slice aQ q.length cQ] 29 (0, 0)) → w'.ownsRow w.heap.size 39 2 (.slice aR r.length cR) r.length (ev r) → w'.ownsRow w.heap.size 39 2 (.slice aQ q.length cQ) q.length (ev q) → Fr (fun k => k = p) w w' → Q .normal ⟨#[.slice a0 r.length c0, .slice a1 q.length c1, s2, s3, s4, s5, s6, s7, s8, .pointer (some ⟨p, 0, none⟩), s10, s11, s12, s13, s14, s15, s16, s17, s18, s19, s20, s21, s22, s23, s24, s25, s26, s27, s28, s29, s30, s31, s32, s33, s34, v35, v36, v37, v38, v39, v40, v41, v42, v43, v44, v45, v46, v47, v48, v49, v50, v51, v52, s53, s54, s55, s56, s57, s58, s59, s60, s61, s62, s63, s64, s65, s66, s67, s68, s69, s70, s71, s72, s73, s74, s75, s76, s77, s78, s79, s80, s81, s82, s83, s84, s85, s86, s87, s88, s89, s90, s91, s92, s93, s94, s95, s96, s97, s98, s99, s100, s101, s102, s103, s104, s105, s106, s107, s108, s109, s110, s111, s112, s113, s114, s115, s116, s117, s118, s119, s120, s121, s122, s123, s124, s125, s126, s127, s128, s129, s130, s131, s132, s133, s134, s135, s136, s137, s138, s139, s140, s141, s142, s143, s144, s145, s146, s147, s148, s149, s150, s151, s152, s153, s154, s155, s156, s157, s158, s159, s160, s161, s162, s163, s164, s165, s166, s167, s168, s169, s170, s171, s172, s173, s174, s175, s176, s177, s178, s179, s180, s181, s182, s183, s184, s185, s186, s187], []⟩ w') :
    Code.wp Try.prog r6C Q ⟨#[.slice a0 r.length c0, .slice a1 q.length c1, s2, s3, s4, s5, s6, s7, s8, .pointer (some ⟨p, 0, none⟩), s10, s11, s12, s13, s14, s15, s16, s17, s18, s19, s20, s21, s22, s23, s24, s25, s26, s27, s28, s29, s30, s31, s32, s33, s34, s35, s36, s37, s38, s39, s40, s41, s42, s43, s44, s45, s46, s47, s48, s49, s50, s51, s52, s53, s54, s55, s56, s57, s58, s59, s60, s61, s62, s63, s64, s65, s66, s67, s68, s69, s70, s71, s72, s73, s74, s75, s76, s77, s78, s79, s80, s81, s82, s83, s84, s85, s86, s87, s88, s89, s90, s91, s92, s93, s94, s95, s96, s97, s98, s99, s100, s101, s102, s103, s104, s105, s106, s107, s108, s109, s110, s111, s112, s113, s114, s115, s116, s117, s118, s119, s120, s121, s122, s123, s124, s125, s126, s127, s128, s129, s130, s131, s132, s133, s134, s135, s136, s137, s138, s139, s140, s141, s142, s143, s144, s145, s146, s147, s148, s149, s150, s151, s152, s153, s154, s155, s156, s157, s158, s159, s160, s161, s162, s163, s164, s165, s166, s167, s168, s169, s170, s171, s172, s173, s174, s175, s176, s177, s178, s179, s180, s181, s182, s183, s184, s185, s186, s187], []⟩ w := by
  conv => arg 2; whnf
  refine wp_region_noPanic ?_
  obtain ⟨i0, hi, hz0, hz1, hz2⟩ := info_parts infoEn
  have H0 : Hid (Li w a0 r c0) := h0
  have H1 : Hid (Li w a1 q c1) := h1
  have HQ : Hid (∀ (v35 v36 v37 v38 v39 v40 v41 v42 v43 v44 v45 v46 v47 v48 v49 v50 v51 v52 : Value) (aR aQ : Option Addr) (cR cQ : Nat) (w' : World), w'.heap[p]? = some (.cells #[.slice aR r.length cR, .slice aQ q.length cQ] 29 (0, 0)) → w'.ownsRow w.heap.size 39 2 (.slice aR r.length cR) r.length (ev r) → w'.ownsRow w.heap.size 39 2 (.slice aQ q.length cQ) q.length (ev q) → Fr (fun k => k = p) w w' → Q .normal ⟨#[.slice a0 r.length c0, .slice a1 q.length c1, s2, s3, s4, s5, s6, s7, s8, .pointer (some ⟨p, 0, none⟩), s10, s11, s12, s13, s14, s15, s16, s17, s18, s19, s20, s21, s22, s23, s24, s25, s26, s27, s28, s29, s30, s31, s32, s33, s34, v35, v36, v37, v38, v39, v40, v41, v42, v43, v44, v45, v46, v47, v48, v49, v50, v51, v52, s53, s54, s55, s56, s57, s58, s59, s60, s61, s62, s63, s64, s65, s66, s67, s68, s69, s70, s71, s72, s73, s74, s75, s76, s77, s78, s79, s80, s81, s82, s83, s84, s85, s86, s87, s88, s89, s90, s91, s92, s93, s94, s95, s96, s97, s98, s99, s100, s101, s102, s103, s104, s105, s106, s107, s108, s109, s110, s111, s112, s113, s114, s115, s116, s117, s118, s119, s120, s121, s122, s123, s124, s125, s126, s127, s128, s129, s130, s131, s132, s133, s134, s135, s136, s137, s138, s139, s140, s141, s142, s143, s144, s145, s146, s147, s148, s149, s150, s151, s152, s153, s154, s155, s156, s157, s158, s159, s160, s161, s162, s163, s164, s165, s166, s167, s168, s169, s170, s171, s172, s173, s174, s175, s176, s177, s178, s179, s180, s181, s182, s183, s184, s185, s186, s187], []⟩ w') := hQ
  have HW : Hid (w.heap[p]? = some (.cells #[.slice none 0 0, .slice none 0 0] 29 (0, 0))) := hw
  have y0 : w.cell? ⟨p, 0, none⟩ = some (.slice none 0 0) := by simp [World.cell?, hw]
  have y1 : w.cell? ⟨p, 1, none⟩ = some (.slice none 0 0) := by simp [World.cell?, hw]
  have f0 : w.frozen? ⟨p, 0, none⟩ = false := by simp [World.frozen?, hw]
  have f1 : w.frozen? ⟨p, 1, none⟩ = false := by simp [World.frozen?, hw]
  have lp := lt_of_some hw
  clear hQ h0 h1 hw
  go_region_law (first
    | (have hx := hgA; refine step_append_src _ rfl (.tmp 46) (.tmp 47) 22 rfl w.heap.size 39 i0 (.agg #[.int .i64 0, .int .i64 0]) 2 16 Try.underlying22 hi hz0 hz1 hz2 rfl (by decide) (.slice none 0 0) 0 [] (by simp [Act.eval]) (World.ownsRow_nil _ _ _ _) a1 q.length c1 (ev q) (by simp [Act.eval]) (ev_length q) H1.out.nil (H1.out.lp.below bA).cells (ev_one q) (by unfold maxLen; omega) (by omega) bA.size ?_; intro aQ cQ wB hoB hgB _; rw [Nat.zero_add, List.nil_append] at hoB; have bB : Below w.heap.size w wB := bA.grown hgB bA.size (fun k e => by simp [Value.ownBlock] at e); have z0 := (bB.cell (p := ⟨p, 0, none⟩) lp).trans y0; have z1 := (bB.cell (p := ⟨p, 1, none⟩) lp).trans y1; have k0 := (bB.frozen (p := ⟨p, 0, none⟩) lp).trans f0; have k1 := (bB.frozen (p := ⟨p, 1, none⟩) lp).trans f1)
    | (refine step_append_src _ rfl (.tmp 40) (.tmp 41) 22 rfl w.heap.size 39 i0 (.agg #[.int .i64 0, .int .i64 0]) 2 16 Try.underlying22 hi hz0 hz1 hz2 rfl (by decide) (.slice none 0 0) 0 [] (by simp [Act.eval]) (World.ownsRow_nil _ _ _ _) a0 r.length c0 (ev r) (by simp [Act.eval]) (ev_length r) H0.out.nil (H0.out.lp.below (Below.refl w.heap.size w).drew).cells (ev_one r) (by unfold maxLen; omega) (by omega) (Nat.le_refl _) ?_; intro aR cR wA hoA hgA _; rw [Nat.zero_add, List.nil_append] at hoA; have bA : Below w.heap.size w wA := ((Below.refl w.heap.size w).drew).grown hgA (Nat.le_refl _) (fun k e => by simp [Value.ownBlock] at e); have z0 := (bA.cell (p := ⟨p, 0, none⟩) lp).trans y0; have z1 := (bA.cell (p := ⟨p, 1, none⟩) lp).trans y1))
  all_goals
    have oA := row_keep (w' := wB) hoA (fun k e => hgB.block k (row_lt hoA k e).2 (by simp [Value.ownBlock]))
    have hpB := (bB.block p lp).trans HW.out
    have kk : ∀ k, k ≠ p → ((wB.setCell ⟨p, 0, none⟩ (.slice aR r.length cR)).setCell ⟨p, 1, none⟩ (.slice aQ q.length cQ)).heap[k]? = wB.heap[k]? := fun k hk => (Below.heap_setCell _ _ _ _ hk).trans (Below.heap_setCell _ _ _ _ hk)
    have t2 := row_keep (w' := (wB.setCell ⟨p, 0, none⟩ (.slice aR r.length cR)).setCell ⟨p, 1, none⟩ (.slice aQ q.length cQ)) oA (fun k e => kk k (by have := (row_lt oA k e).1; omega))
    have t3 := row_keep (w' := (wB.setCell ⟨p, 0, none⟩ (.slice aR r.length cR)).setCell ⟨p, 1, none⟩ (.slice aQ q.length cQ)) hoB (fun k e => kk k (by have := (row_lt hoB k e).1; omega))
    have t4 : Fr (fun k => k = p) w ((wB.setCell ⟨p, 0, none⟩ (.slice aR r.length cR)).setCell ⟨p, 1, none⟩ (.slice aQ q.length cQ)) := ((Fr.of (X := fun k => k = p) bB).set p 0 _ rfl).set p 1 _ rfl
    refine NoPanic.normal (HQ.out _ _ _ _ _ _ _ _ _ _ _ _ _ _ _ _ _ _ _ _ _ _ _ (set_two hpB) t2 t3 t4)

end Go.Proofs.Ythlfgddhkffilab.SOnce
