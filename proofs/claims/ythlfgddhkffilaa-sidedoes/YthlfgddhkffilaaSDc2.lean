/- SideDoes: one more waits. -/
import Derived.Test.YthlfgddhkffilaaSDc0
import Derived.Deep.RegionLawGrows
import Derived.Deep.AppendLies
namespace Go.Proofs.Ythlfgddhkffilaa.SDo
open Go.RowKit W Kp Stl

set_option maxRecDepth 100000 in
set_option maxHeartbeats 4000000 in
theorem case2_wp {s0 s1 s2 s6 s9 s10 s11 s12 s13 s14 s15 s16 s17 s18 s19 s20 s21 s22 s23 s24 s25 s26 s27 s28 s29 s30 s31 s32 s33 s34 s35 s36 s37 s38 s39 s40 s41 s42 s43 s44 s45 s46 s47 s48 s49 s50 s51 s52 s53 s54 s55 s56 s57 s58 s59 s60 s61 s62 s63 s64 s65 s66 s67 s68 s69 s70 s71 s72 s73 s74 s75 s76 s77 s78 s79 s80 s81 s82 s83 s84 s85 s86 s87 s88 s89 s90 s91 s92 s93 s94 s95 s96 s97 s98 s99 s100 s101 s102 s103 s104 s105 s106 s107 s108 s109 s110 s111 s112 s113 s114 s115 s116 s117 s118 s119 s120 s121 s122 s123 s124 s125 s126 s127 s128 s129 s130 s131 s132 s133 s134 s135 s136 s137 s138 s139 s140 s141 s142 s143 s144 s145 s146 s147 s148 s149 s150 s151 s152 s153 s154 s155 s156 s157 s158 s159 s160 s161 s162 s163 s164 s165 s166 s167 s168 s169 s170 s171 s172 s173 s174 s175 s176 s177 s178 s179 s180 s181 s182 s183 s184 s185 s186 s187 s188 s189 s190 s191 s192 s193 s194 s195 s196 s197 s198 s199 : Value} {Q : Exit → Act → World → Prop} {B p eb k0 k1 k2 k3 : Nat} {a0 a1 a2 a3 : Option Addr} {g z : Int} {r q : List En} {w1 w : World} (h : Sst B w1 w p (.slice a0 r.length k0) (.slice a1 q.length k1) (.slice a2 r.length k2) (.slice a3 q.length k3) r q r q) (hB : B ≤ w.heap.size) (he : w.heap[eb]? = some (.cells #[.int .i64 2, .int .i64 g, .int .i64 z] 86 (0, 0))) (lq : q.length ≤ 300)
    (hQ : ∀ (v8 v9 v10 v11 v12 v13 v39 v40 v41 v42 v43 v44 v45 v46 v47 v48 v49 v50 v51 v52 v53 v54 v55 v56 v57 v58 v59 v60 v61 v62 v63 v64 v65 v66 v67 v68 v69 v70 v71 v72 v73 v74 v75 v76 v77 v78 v79 v80 v81 v82 v83 v84 v85 v86 v87 v88 v89 v90 v91 v92 v93 v94 v95 v96 v97 v98 v99 v100 v101 v102 v103 v104 v105 v106 v107 v108 v109 v110 v111 v112 v113 v114 v115 v116 v117 v118 v119 v120 v121 v122 v123 v124 v125 v126 v127 v128 v129 v130 v131 v132 v133 v134 v135 v136 v137 v138 v139 v140 v141 : Value) (p' : Nat) (b0 b1 b2 b3 : Option Addr) (m0 m1 m2 m3 : Nat) (l0 l1 : List En) (w' : World), Sst B w1 w' p' (.slice b0 l0.length m0) (.slice b1 l1.length m1) (.slice b2 l0.length m2) (.slice b3 l1.length m3) l0 l1 l0 l1 → w'.heap[eb]? = some (.cells #[.int .i64 2, .int .i64 g, .int .i64 z] 86 (0, 0)) → l0.length ≤ r.length + 1 → l1.length ≤ q.length + 1 → Q .normal ⟨#[s0, s1, s2, .pointer (some ⟨p', 0, none⟩), .slice b2 l0.length m2, .slice b3 l1.length m3, s6, .pointer (some ⟨eb, 0, none⟩), v8, v9, v10, v11, v12, v13, s14, s15, s16, s17, s18, s19, s20, s21, s22, s23, s24, s25, s26, s27, s28, s29, s30, s31, s32, s33, s34, s35, s36, s37, s38, v39, v40, v41, v42, v43, v44, v45, v46, v47, v48, v49, v50, v51, v52, v53, v54, v55, v56, v57, v58, v59, v60, v61, v62, v63, v64, v65, v66, v67, v68, v69, v70, v71, v72, v73, v74, v75, v76, v77, v78, v79, v80, v81, v82, v83, v84, v85, v86, v87, v88, v89, v90, v91, v92, v93, v94, v95, v96, v97, v98, v99, v100, v101, v102, v103, v104, v105, v106, v107, v108, v109, v110, v111, v112, v113, v114, v115, v116, v117, v118, v119, v120, v121, v122, v123, v124, v125, v126, v127, v128, v129, v130, v131, v132, v133, v134, v135, v136, v137, v138, v139, v140, v141, s142, s143, s144, s145, s146, s147, s148, s149, s150, s151, s152, s153, s154, s155, s156, s157, s158, s159, s160, s161, s162, s163, s164, s165, s166, s167, s168, s169, s170, s171, s172, s173, s174, s175, s176, s177, s178, s179, s180, s181, s182, s183, s184, s185, s186, s187, s188, s189, s190, s191, s192, s193, s194, s195, s196, s197, s198, s199], []⟩ w') :
    Code.wp Try.prog swC Q ⟨#[s0, s1, s2, .pointer (some ⟨p, 0, none⟩), .slice a2 r.length k2, .slice a3 q.length k3, s6, .pointer (some ⟨eb, 0, none⟩), .bool (fulB (r.length + q.length)), s9, s10, s11, s12, s13, s14, s15, s16, s17, s18, s19, s20, s21, s22, s23, s24, s25, s26, s27, s28, s29, s30, s31, s32, s33, s34, s35, s36, s37, s38, s39, s40, s41, s42, s43, s44, s45, s46, s47, s48, s49, s50, s51, s52, s53, s54, s55, s56, s57, s58, s59, s60, s61, s62, s63, s64, s65, s66, s67, s68, s69, s70, s71, s72, s73, s74, s75, s76, s77, s78, s79, s80, s81, s82, s83, s84, s85, s86, s87, s88, s89, s90, s91, s92, s93, s94, s95, s96, s97, s98, s99, s100, s101, s102, s103, s104, s105, s106, s107, s108, s109, s110, s111, s112, s113, s114, s115, s116, s117, s118, s119, s120, s121, s122, s123, s124, s125, s126, s127, s128, s129, s130, s131, s132, s133, s134, s135, s136, s137, s138, s139, s140, s141, s142, s143, s144, s145, s146, s147, s148, s149, s150, s151, s152, s153, s154, s155, s156, s157, s158, s159, s160, s161, s162, s163, s164, s165, s166, s167, s168, s169, s170, s171, s172, s173, s174, s175, s176, s177, s178, s179, s180, s181, s182, s183, s184, s185, s186, s187, s188, s189, s190, s191, s192, s193, s194, s195, s196, s197, s198, s199], []⟩ w := by
  conv => arg 2; whnf
  have HQ : Hid (∀ (v8 v9 v10 v11 v12 v13 v39 v40 v41 v42 v43 v44 v45 v46 v47 v48 v49 v50 v51 v52 v53 v54 v55 v56 v57 v58 v59 v60 v61 v62 v63 v64 v65 v66 v67 v68 v69 v70 v71 v72 v73 v74 v75 v76 v77 v78 v79 v80 v81 v82 v83 v84 v85 v86 v87 v88 v89 v90 v91 v92 v93 v94 v95 v96 v97 v98 v99 v100 v101 v102 v103 v104 v105 v106 v107 v108 v109 v110 v111 v112 v113 v114 v115 v116 v117 v118 v119 v120 v121 v122 v123 v124 v125 v126 v127 v128 v129 v130 v131 v132 v133 v134 v135 v136 v137 v138 v139 v140 v141 : Value) (p' : Nat) (b0 b1 b2 b3 : Option Addr) (m0 m1 m2 m3 : Nat) (l0 l1 : List En) (w' : World), Sst B w1 w' p' (.slice b0 l0.length m0) (.slice b1 l1.length m1) (.slice b2 l0.length m2) (.slice b3 l1.length m3) l0 l1 l0 l1 → w'.heap[eb]? = some (.cells #[.int .i64 2, .int .i64 g, .int .i64 z] 86 (0, 0)) → l0.length ≤ r.length + 1 → l1.length ≤ q.length + 1 → Q .normal ⟨#[s0, s1, s2, .pointer (some ⟨p', 0, none⟩), .slice b2 l0.length m2, .slice b3 l1.length m3, s6, .pointer (some ⟨eb, 0, none⟩), v8, v9, v10, v11, v12, v13, s14, s15, s16, s17, s18, s19, s20, s21, s22, s23, s24, s25, s26, s27, s28, s29, s30, s31, s32, s33, s34, s35, s36, s37, s38, v39, v40, v41, v42, v43, v44, v45, v46, v47, v48, v49, v50, v51, v52, v53, v54, v55, v56, v57, v58, v59, v60, v61, v62, v63, v64, v65, v66, v67, v68, v69, v70, v71, v72, v73, v74, v75, v76, v77, v78, v79, v80, v81, v82, v83, v84, v85, v86, v87, v88, v89, v90, v91, v92, v93, v94, v95, v96, v97, v98, v99, v100, v101, v102, v103, v104, v105, v106, v107, v108, v109, v110, v111, v112, v113, v114, v115, v116, v117, v118, v119, v120, v121, v122, v123, v124, v125, v126, v127, v128, v129, v130, v131, v132, v133, v134, v135, v136, v137, v138, v139, v140, v141, s142, s143, s144, s145, s146, s147, s148, s149, s150, s151, s152, s153, s154, s155, s156, s157, s158, s159, s160, s161, s162, s163, s164, s165, s166, s167, s168, s169, s170, s171, s172, s173, s174, s175, s176, s177, s178, s179, s180, s181, s182, s183, s184, s185, s186, s187, s188, s189, s190, s191, s192, s193, s194, s195, s196, s197, s198, s199], []⟩ w') := hQ
  have H : Hid (Sst B w1 w p (.slice a0 r.length k0) (.slice a1 q.length k1) (.slice a2 r.length k2) (.slice a3 q.length k3) r q r q) := h
  have HE : Hid (w.heap[eb]? = some (.cells #[.int .i64 2, .int .i64 g, .int .i64 z] 86 (0, 0))) := he
  obtain ⟨i0, hi, hz0, hz1, hz2⟩ := info_parts infoEn
  have c0 : w.cell? ⟨eb, 0, none⟩ = some (.int .i64 2) := by simp [World.cell?, he]
  have c1 : w.cell? ⟨eb, 1, none⟩ = some (.int .i64 g) := by simp [World.cell?, he]
  have c2 : w.cell? ⟨eb, 2, none⟩ = some (.int .i64 z) := by simp [World.cell?, he]
  have d0 : w.cell? ⟨p, 1, none⟩ = some (.slice a1 q.length k1) := by simp [World.cell?, h.blk]
  have f0 : w.frozen? ⟨p, 1, none⟩ = false := by simp [World.frozen?, h.blk]
  have lp := lt_of_some h.blk
  have le := lt_of_some he
  have hnp : some p ≠ (Value.slice a1 q.length k1).ownBlock := fun e => row_np h.blk h.r1 p e rfl
  clear hQ h he
  by_cases hf : 24 ≤ r.length + q.length
  · rw [fulB_yes hf]
    clear c1 c2 d0 f0 hnp
    go_wp2_with fail
    exact HQ.out _ _ _ _ _ _ _ _ _ _ _ _ _ _ _ _ _ _ _ _ _ _ _ _ _ _ _ _ _ _ _ _ _ _ _ _ _ _ _ _ _ _ _ _ _ _ _ _ _ _ _ _ _ _ _ _ _ _ _ _ _ _ _ _ _ _ _ _ _ _ _ _ _ _ _ _ _ _ _ _ _ _ _ _ _ _ _ _ _ _ _ _ _ _ _ _ _ _ _ _ _ _ _ _ _ _ _ _ _ p a0 a1 a2 a3 k0 k1 k2 k3 r q w H.out HE.out (by omega) (by omega)
  · rw [fulB_no hf]
    have hbd := ((Below.refl w.heap.size w).alloc (Nat.le_refl _) (.cells #[.int .i64 g, .int .i64 z] 84)).drew
    have HSd : Hid ((w.alloc (.cells #[.int .i64 g, .int .i64 z] 84)).drew.ownsRow B 84 2 (.slice a1 q.length k1) q.length (ev q)) := row_keep (row_alloc H.out.r1 _) (fun _ _ => rfl)
    go_upto_region 33 with fail
    refine wp_region_noPanic ?_
    go_region_law (refine step_append_lies _ rfl (.tmp 126) (.tmp 129) 80 rfl B 84 i0 (.agg #[.int .i64 0, .int .i64 0]) 2 16 Try.underlying80 hi hz0 hz1 hz2 rfl (by decide) (.slice a1 q.length k1) q.length (ev q) (by simp [Act.eval]) HSd.out ⟨w.heap.size, 0, none⟩ 1 1 [.int .i64 g, .int .i64 z] (by simp [Act.eval]) rfl ?_ ?_ (by decide) (by unfold maxLen; omega) (by omega) (by simp; omega) _ rfl ?_; (intro j u hj; match j, hj with | 0, hj => (simp at hj; subst hj; simp [Addr.add]) | 1, hj => (simp at hj; subst hj; simp [Addr.add])); (intro u hu; simp at hu; rcases hu with hu | hu <;> (subst hu; rfl)); intro b4 cap4 w4 hown4 hgrow4 hat4 hlt4; have d4 := hgrow4.cell (a := ⟨p, 1, none⟩) (v := .slice a1 q.length k1) ((hbd.cell (p := ⟨p, 1, none⟩) lp).trans d0) hnp; have f4 : w4.frozen? ⟨p, 1, none⟩ = false := (World.frozen?_of_block (a := ⟨p, 1, none⟩) (hgrow4.block _ (Nat.lt_of_lt_of_le lp hbd.size) hnp)).trans ((hbd.frozen (p := ⟨p, 1, none⟩) lp).trans f0))
    all_goals
      have hSa := H.out.below hB hbd
      have hEa := (hbd.block eb le).trans HE.out
      have hsz4 := hgrow4.size
      have hS4 := hSa.grow1 (l := q ++ [(g, z)]) (u := .slice (some ⟨b4, 0, none⟩) (q ++ [(g, z)]).length cap4) (by simp; omega) hgrow4 (by rw [ev_append]; simpa [ev] using hown4) (fun k e => by
        simp [Value.ownBlock] at e
        rcases hat4 with h | h
        · exact Or.inl (by rw [e]; exact h.symm)
        · exact Or.inr (by simp at h; simp; omega))
      have hE4 := (Below.heap_setCell w4 ⟨p, 1, none⟩ (.slice (some ⟨b4, 0, none⟩) (q ++ [(g, z)]).length cap4) eb (step_ne hSa.blk hEa)).trans ((hgrow4.block eb (lt_of_some hEa) (step_nr hSa.r1 hEa)).trans hEa)
      have hB4 : B ≤ (w4.setCell ⟨p, 1, none⟩ (.slice (some ⟨b4, 0, none⟩) (q ++ [(g, z)]).length cap4)).heap.size := by
        have : (w4.setCell ⟨p, 1, none⟩ (.slice (some ⟨b4, 0, none⟩) (q ++ [(g, z)]).length cap4)).heap.size = w4.heap.size := by simp [World.setCell]
        simp at hsz4
        omega
      have hr3 := hS4.r3
      rw [show (q ++ [(g, z)]).length = q.length + 1 by simp] at hS4 hE4 hB4 hr3
      have HS4 : Hid (Sst B w1 (w4.setCell ⟨p, 1, none⟩ (.slice (some ⟨b4, 0, none⟩) (q.length + 1) cap4)) p (.slice a0 r.length k0) (.slice (some ⟨b4, 0, none⟩) (q.length + 1) cap4) (.slice a2 r.length k2) (.slice a3 q.length k3) r (q ++ [(g, z)]) r q) := hS4
      have HE4 : Hid ((w4.setCell ⟨p, 1, none⟩ (.slice (some ⟨b4, 0, none⟩) (q.length + 1) cap4)).heap[eb]? = some (.cells #[.int .i64 2, .int .i64 g, .int .i64 z] 86 (0, 0))) := hE4
      have HRo : Hid ((w4.setCell ⟨p, 1, none⟩ (.slice (some ⟨b4, 0, none⟩) (q.length + 1) cap4)).ownsRow B 84 2 (.slice a3 q.length k3) q.length (ev q)) := hr3
      have y1 : (w4.setCell ⟨p, 1, none⟩ (.slice (some ⟨b4, 0, none⟩) (q.length + 1) cap4)).cell? ⟨eb, 1, none⟩ = some (.int .i64 g) := by simp [World.cell?, hE4]
      have y2 : (w4.setCell ⟨p, 1, none⟩ (.slice (some ⟨b4, 0, none⟩) (q.length + 1) cap4)).cell? ⟨eb, 2, none⟩ = some (.int .i64 z) := by simp [World.cell?, hE4]
      refine NoPanic.normal ?_
      clear hown4 hgrow4 hat4 hlt4 d4 f4 hSa hEa hsz4 hS4 hE4 c0 c1 c2 d0 f0 hbd HSd hr3
      generalize w4.setCell ⟨p, 1, none⟩ (.slice (some ⟨b4, 0, none⟩) (q.length + 1) cap4) = w5 at HS4 HE4 HRo y1 y2 hB4 ⊢
      go_wp2_with (at_builtin; refine wpList_append_own_at _ rfl _ _ 80 rfl B 84 i0 (.agg #[.int .i64 0, .int .i64 0]) 2 16 Try.underlying80 hi hz0 hz1 hz2 rfl (by decide) (.slice a3 q.length k3) q.length (ev q) rfl (row_alloc HRo.out _) ⟨w5.heap.size, 0, none⟩ 1 1 [.int .i64 g, .int .i64 z] rfl rfl ?_ ?_ ?_ ?_ ?_ ?_; (intro j u hj; match j, hj with | 0, hj => (simp at hj; subst hj; simp [Addr.add]) | 1, hj => (simp at hj; subst hj; simp [Addr.add])); (intro u hu; simp at hu; rcases hu with hu | hu <;> (subst hu; rfl)); (unfold maxLen; omega); omega; (simp; omega); intro v' w6 hown6 hgrow6 _ hloc6; obtain ⟨b6, cap6, ev6⟩ := row_shape hown6 (Nat.succ_pos _); subst ev6)
      have hba := (Below.refl w5.heap.size w5).alloc (Nat.le_refl _) (.cells #[.int .i64 g, .int .i64 z] 84)
      have hSa := HS4.out.below hB4 hba
      have hEa := (hba.block eb (lt_of_some HE4.out)).trans HE4.out
      have hbl6 : some b6 = (Value.slice a3 q.length k3).ownBlock ∨ b6 = w5.heap.size + 1 := hloc6.imp id (fun e => by simpa [Value.ownBlock] using e)
      have hS6 := hSa.grow3 (l := q ++ [(g, z)]) (u := .slice (some ⟨b6, 0, none⟩) (q ++ [(g, z)]).length cap6) (by simp; omega) hgrow6 (by rw [ev_append]; simpa [ev] using hown6) (fun k e => by
        simp [Value.ownBlock] at e
        rcases hbl6 with h | h
        · exact Or.inl (by rw [e]; exact h)
        · exact Or.inr (by simp; omega))
      have hE6 := (hgrow6.block eb (lt_of_some hEa) (step_nr hSa.r3 hEa)).trans hEa
      rw [show q.length + 1 = (q ++ [(g, z)]).length by simp] at hS6
      have HS6 : Hid (Sst B w1 w6 p (.slice a0 r.length k0) (.slice (some ⟨b4, 0, none⟩) (q ++ [(g, z)]).length cap4) (.slice a2 r.length k2) (.slice (some ⟨b6, 0, none⟩) (q ++ [(g, z)]).length cap6) r (q ++ [(g, z)]) r (q ++ [(g, z)])) := hS6
      have HE6 : Hid (w6.heap[eb]? = some (.cells #[.int .i64 2, .int .i64 g, .int .i64 z] 86 (0, 0))) := hE6
      clear hown6 hgrow6 hloc6 hba hSa hEa hbl6 hS6 hE6 y1 y2 HS4 HE4 HRo
      go_wp2_with fail
      rw [show q.length + 1 = (q ++ [(g, z)]).length by simp]
      exact HQ.out _ _ _ _ _ _ _ _ _ _ _ _ _ _ _ _ _ _ _ _ _ _ _ _ _ _ _ _ _ _ _ _ _ _ _ _ _ _ _ _ _ _ _ _ _ _ _ _ _ _ _ _ _ _ _ _ _ _ _ _ _ _ _ _ _ _ _ _ _ _ _ _ _ _ _ _ _ _ _ _ _ _ _ _ _ _ _ _ _ _ _ _ _ _ _ _ _ _ _ _ _ _ _ _ _ _ _ _ _ p a0 (some ⟨b4, 0, none⟩) a2 (some ⟨b6, 0, none⟩) k0 cap4 k2 cap6 r (q ++ [(g, z)]) w6 HS6.out HE6.out (by omega) (by simp)

end Go.Proofs.Ythlfgddhkffilaa.SDo
