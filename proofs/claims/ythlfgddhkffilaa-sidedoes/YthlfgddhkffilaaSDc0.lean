/- SideDoes: one more is registered. -/
import Derived.Test.YthlfgddhkffilaaSDt
namespace Go.Proofs.Ythlfgddhkffilaa.SDo
open Go.RowKit W Kp Stl

theorem step_ne {w : World} {p eb : Nat} {x y d g z : Value} (hp : w.heap[p]? = some (.cells #[x, y] 82 (0, 0))) (he : w.heap[eb]? = some (.cells #[d, g, z] 86 (0, 0))) : eb ≠ p := fun e => by rw [e, hp] at he; simp at he
theorem step_nr {w : World} {b n eb : Nat} {v d g z : Value} {l : List Value} (hr : w.ownsRow b 84 2 v n l) (he : w.heap[eb]? = some (.cells #[d, g, z] 86 (0, 0))) : some eb ≠ v.ownBlock := fun e => by
  obtain ⟨cur, hc⟩ := row_type hr eb e
  rw [he] at hc
  simp at hc

set_option maxRecDepth 100000 in
set_option maxHeartbeats 4000000 in
theorem case0_wp {s0 s1 s2 s6 s9 s10 s11 s12 s13 s14 s15 s16 s17 s18 s19 s20 s21 s22 s23 s24 s25 s26 s27 s28 s29 s30 s31 s32 s33 s34 s35 s36 s37 s38 s39 s40 s41 s42 s43 s44 s45 s46 s47 s48 s49 s50 s51 s52 s53 s54 s55 s56 s57 s58 s59 s60 s61 s62 s63 s64 s65 s66 s67 s68 s69 s70 s71 s72 s73 s74 s75 s76 s77 s78 s79 s80 s81 s82 s83 s84 s85 s86 s87 s88 s89 s90 s91 s92 s93 s94 s95 s96 s97 s98 s99 s100 s101 s102 s103 s104 s105 s106 s107 s108 s109 s110 s111 s112 s113 s114 s115 s116 s117 s118 s119 s120 s121 s122 s123 s124 s125 s126 s127 s128 s129 s130 s131 s132 s133 s134 s135 s136 s137 s138 s139 s140 s141 s142 s143 s144 s145 s146 s147 s148 s149 s150 s151 s152 s153 s154 s155 s156 s157 s158 s159 s160 s161 s162 s163 s164 s165 s166 s167 s168 s169 s170 s171 s172 s173 s174 s175 s176 s177 s178 s179 s180 s181 s182 s183 s184 s185 s186 s187 s188 s189 s190 s191 s192 s193 s194 s195 s196 s197 s198 s199 : Value} {Q : Exit → Act → World → Prop} {B p eb k0 k1 k2 k3 : Nat} {a0 a1 a2 a3 : Option Addr} {g z : Int} {r q : List En} {w1 w : World} (h : Sst B w1 w p (.slice a0 r.length k0) (.slice a1 q.length k1) (.slice a2 r.length k2) (.slice a3 q.length k3) r q r q) (hB : B ≤ w.heap.size) (he : w.heap[eb]? = some (.cells #[.int .i64 0, .int .i64 g, .int .i64 z] 86 (0, 0))) (lr : r.length ≤ 300) (lq : q.length ≤ 300)
    (hQ : ∀ (v8 v9 v10 v11 v12 v13 v39 v40 v41 v42 v43 v44 v45 v46 v47 v48 v49 v50 v51 v52 v53 v54 v55 v56 v57 v58 v59 v60 v61 v62 v63 v64 v65 v66 v67 v68 v69 v70 v71 v72 v73 v74 v75 v76 v77 v78 v79 v80 v81 v82 v83 v84 v85 v86 v87 v88 v89 v90 v91 v92 v93 v94 v95 v96 v97 v98 v99 v100 v101 v102 v103 v104 v105 v106 v107 v108 v109 v110 v111 v112 v113 v114 v115 v116 v117 v118 v119 v120 v121 v122 v123 v124 v125 v126 v127 v128 v129 v130 v131 v132 v133 v134 v135 v136 v137 v138 v139 v140 v141 : Value) (p' : Nat) (b0 b1 b2 b3 : Option Addr) (m0 m1 m2 m3 : Nat) (l0 l1 : List En) (w' : World), Sst B w1 w' p' (.slice b0 l0.length m0) (.slice b1 l1.length m1) (.slice b2 l0.length m2) (.slice b3 l1.length m3) l0 l1 l0 l1 → w'.heap[eb]? = some (.cells #[.int .i64 0, .int .i64 g, .int .i64 z] 86 (0, 0)) → l0.length ≤ r.length + 1 → l1.length ≤ q.length + 1 → Q .normal ⟨#[s0, s1, s2, .pointer (some ⟨p', 0, none⟩), .slice b2 l0.length m2, .slice b3 l1.length m3, s6, .pointer (some ⟨eb, 0, none⟩), v8, v9, v10, v11, v12, v13, s14, s15, s16, s17, s18, s19, s20, s21, s22, s23, s24, s25, s26, s27, s28, s29, s30, s31, s32, s33, s34, s35, s36, s37, s38, v39, v40, v41, v42, v43, v44, v45, v46, v47, v48, v49, v50, v51, v52, v53, v54, v55, v56, v57, v58, v59, v60, v61, v62, v63, v64, v65, v66, v67, v68, v69, v70, v71, v72, v73, v74, v75, v76, v77, v78, v79, v80, v81, v82, v83, v84, v85, v86, v87, v88, v89, v90, v91, v92, v93, v94, v95, v96, v97, v98, v99, v100, v101, v102, v103, v104, v105, v106, v107, v108, v109, v110, v111, v112, v113, v114, v115, v116, v117, v118, v119, v120, v121, v122, v123, v124, v125, v126, v127, v128, v129, v130, v131, v132, v133, v134, v135, v136, v137, v138, v139, v140, v141, s142, s143, s144, s145, s146, s147, s148, s149, s150, s151, s152, s153, s154, s155, s156, s157, s158, s159, s160, s161, s162, s163, s164, s165, s166, s167, s168, s169, s170, s171, s172, s173, s174, s175, s176, s177, s178, s179, s180, s181, s182, s183, s184, s185, s186, s187, s188, s189, s190, s191, s192, s193, s194, s195, s196, s197, s198, s199], []⟩ w') :
    Code.wp Try.prog swC Q ⟨#[s0, s1, s2, .pointer (some ⟨p, 0, none⟩), .slice a2 r.length k2, .slice a3 q.length k3, s6, .pointer (some ⟨eb, 0, none⟩), .bool (fulB (r.length + q.length)), s9, s10, s11, s12, s13, s14, s15, s16, s17, s18, s19, s20, s21, s22, s23, s24, s25, s26, s27, s28, s29, s30, s31, s32, s33, s34, s35, s36, s37, s38, s39, s40, s41, s42, s43, s44, s45, s46, s47, s48, s49, s50, s51, s52, s53, s54, s55, s56, s57, s58, s59, s60, s61, s62, s63, s64, s65, s66, s67, s68, s69, s70, s71, s72, s73, s74, s75, s76, s77, s78, s79, s80, s81, s82, s83, s84, s85, s86, s87, s88, s89, s90, s91, s92, s93, s94, s95, s96, s97, s98, s99, s100, s101, s102, s103, s104, s105, s106, s107, s108, s109, s110, s111, s112, s113, s114, s115, s116, s117, s118, s119, s120, s121, s122, s123, s124, s125, s126, s127, s128, s129, s130, s131, s132, s133, s134, s135, s136, s137, s138, s139, s140, s141, s142, s143, s144, s145, s146, s147, s148, s149, s150, s151, s152, s153, s154, s155, s156, s157, s158, s159, s160, s161, s162, s163, s164, s165, s166, s167, s168, s169, s170, s171, s172, s173, s174, s175, s176, s177, s178, s179, s180, s181, s182, s183, s184, s185, s186, s187, s188, s189, s190, s191, s192, s193, s194, s195, s196, s197, s198, s199], []⟩ w := by
  conv => arg 2; whnf
  have HQ : Hid (∀ (v8 v9 v10 v11 v12 v13 v39 v40 v41 v42 v43 v44 v45 v46 v47 v48 v49 v50 v51 v52 v53 v54 v55 v56 v57 v58 v59 v60 v61 v62 v63 v64 v65 v66 v67 v68 v69 v70 v71 v72 v73 v74 v75 v76 v77 v78 v79 v80 v81 v82 v83 v84 v85 v86 v87 v88 v89 v90 v91 v92 v93 v94 v95 v96 v97 v98 v99 v100 v101 v102 v103 v104 v105 v106 v107 v108 v109 v110 v111 v112 v113 v114 v115 v116 v117 v118 v119 v120 v121 v122 v123 v124 v125 v126 v127 v128 v129 v130 v131 v132 v133 v134 v135 v136 v137 v138 v139 v140 v141 : Value) (p' : Nat) (b0 b1 b2 b3 : Option Addr) (m0 m1 m2 m3 : Nat) (l0 l1 : List En) (w' : World), Sst B w1 w' p' (.slice b0 l0.length m0) (.slice b1 l1.length m1) (.slice b2 l0.length m2) (.slice b3 l1.length m3) l0 l1 l0 l1 → w'.heap[eb]? = some (.cells #[.int .i64 0, .int .i64 g, .int .i64 z] 86 (0, 0)) → l0.length ≤ r.length + 1 → l1.length ≤ q.length + 1 → Q .normal ⟨#[s0, s1, s2, .pointer (some ⟨p', 0, none⟩), .slice b2 l0.length m2, .slice b3 l1.length m3, s6, .pointer (some ⟨eb, 0, none⟩), v8, v9, v10, v11, v12, v13, s14, s15, s16, s17, s18, s19, s20, s21, s22, s23, s24, s25, s26, s27, s28, s29, s30, s31, s32, s33, s34, s35, s36, s37, s38, v39, v40, v41, v42, v43, v44, v45, v46, v47, v48, v49, v50, v51, v52, v53, v54, v55, v56, v57, v58, v59, v60, v61, v62, v63, v64, v65, v66, v67, v68, v69, v70, v71, v72, v73, v74, v75, v76, v77, v78, v79, v80, v81, v82, v83, v84, v85, v86, v87, v88, v89, v90, v91, v92, v93, v94, v95, v96, v97, v98, v99, v100, v101, v102, v103, v104, v105, v106, v107, v108, v109, v110, v111, v112, v113, v114, v115, v116, v117, v118, v119, v120, v121, v122, v123, v124, v125, v126, v127, v128, v129, v130, v131, v132, v133, v134, v135, v136, v137, v138, v139, v140, v141, s142, s143, s144, s145, s146, s147, s148, s149, s150, s151, s152, s153, s154, s155, s156, s157, s158, s159, s160, s161, s162, s163, s164, s165, s166, s167, s168, s169, s170, s171, s172, s173, s174, s175, s176, s177, s178, s179, s180, s181, s182, s183, s184, s185, s186, s187, s188, s189, s190, s191, s192, s193, s194, s195, s196, s197, s198, s199], []⟩ w') := hQ
  have H : Hid (Sst B w1 w p (.slice a0 r.length k0) (.slice a1 q.length k1) (.slice a2 r.length k2) (.slice a3 q.length k3) r q r q) := h
  have HE : Hid (w.heap[eb]? = some (.cells #[.int .i64 0, .int .i64 g, .int .i64 z] 86 (0, 0))) := he
  obtain ⟨i0, hi, hz0, hz1, hz2⟩ := info_parts infoEn
  have c0 : w.cell? ⟨eb, 0, none⟩ = some (.int .i64 0) := by simp [World.cell?, he]
  have c1 : w.cell? ⟨eb, 1, none⟩ = some (.int .i64 g) := by simp [World.cell?, he]
  have c2 : w.cell? ⟨eb, 2, none⟩ = some (.int .i64 z) := by simp [World.cell?, he]
  have le := lt_of_some he
  have P := reg_any w p a0 a1 k0 k1 r q g z ⟨h.blk, row_base h.r0 (fun _ _ => Nat.zero_le _), row_base h.r1 (fun _ _ => Nat.zero_le _)⟩ (by omega) (by omega)
  clear hQ h he
  by_cases hf : 24 ≤ r.length + q.length
  · rw [fulB_yes hf] at P ⊢
    go_wp2_with fail
    refine P.mono ?_
    clear P
    rintro e w2 ⟨rfl, h2⟩
    have hb2 : Below w.heap.size w w2 := by
      rcases h2 with h2 | h2
      · exact h2.2
      · exact absurd hf h2.1
    have HS : Hid (Sst B w1 w2 p (.slice a0 r.length k0) (.slice a1 q.length k1) (.slice a2 r.length k2) (.slice a3 q.length k3) r q r q) := H.out.below hB hb2
    have HE2 : Hid (w2.heap[eb]? = some (.cells #[.int .i64 0, .int .i64 g, .int .i64 z] 86 (0, 0))) := (hb2.block eb le).trans HE.out
    clear h2 hb2 c0 c1 c2
    go_wp2_with fail
    exact HQ.out _ _ _ _ _ _ _ _ _ _ _ _ _ _ _ _ _ _ _ _ _ _ _ _ _ _ _ _ _ _ _ _ _ _ _ _ _ _ _ _ _ _ _ _ _ _ _ _ _ _ _ _ _ _ _ _ _ _ _ _ _ _ _ _ _ _ _ _ _ _ _ _ _ _ _ _ _ _ _ _ _ _ _ _ _ _ _ _ _ _ _ _ _ _ _ _ _ _ _ _ _ _ _ _ _ _ _ _ _ p a0 a1 a2 a3 k0 k1 k2 k3 r q w2 HS.out HE2.out (by omega) (by omega)
  · rw [fulB_no hf] at P ⊢
    go_wp2_with fail
    refine P.mono ?_
    clear P
    rintro e w2 ⟨rfl, h2⟩
    obtain ⟨b1, m1, hsd, hb1, hfr⟩ : ∃ b1 c1, Sds w2 p (some ⟨b1, 0, none⟩) c1 a1 k1 (r ++ [(g, z)]) q ∧ w.heap.size ≤ b1 ∧ Fr (fun k => k = p) w w2 := by
      rcases h2 with h2 | h2
      · exact absurd h2.1 hf
      · exact h2.2
    have hS2 := H.out.repl0 hB hfr hsd.blk hsd.r0 (fun k e => by simp [Value.ownBlock] at e; omega)
    have hE2 := (hfr.block eb le (step_ne H.out.blk HE.out)).trans HE.out
    have y1 : w2.cell? ⟨eb, 1, none⟩ = some (.int .i64 g) := by simp [World.cell?, hE2]
    have y2 : w2.cell? ⟨eb, 2, none⟩ = some (.int .i64 z) := by simp [World.cell?, hE2]
    have hB2 : B ≤ w2.heap.size := Nat.le_trans hB hfr.size
    have HS2 : Hid (Sst B w1 w2 p (.slice (some ⟨b1, 0, none⟩) (r ++ [(g, z)]).length m1) (.slice a1 q.length k1) (.slice a2 r.length k2) (.slice a3 q.length k3) (r ++ [(g, z)]) q r q) := hS2
    have HE2 : Hid (w2.heap[eb]? = some (.cells #[.int .i64 0, .int .i64 g, .int .i64 z] 86 (0, 0))) := hE2
    have HRo : Hid (w2.ownsRow B 84 2 (.slice a2 r.length k2) r.length (ev r)) := hS2.r2
    clear h2 hsd hfr c0 c1 c2 hS2 hE2 H HE
    go_wp2_with (at_builtin; refine wpList_append_own_at _ rfl _ _ 80 rfl B 84 i0 (.agg #[.int .i64 0, .int .i64 0]) 2 16 Try.underlying80 hi hz0 hz1 hz2 rfl (by decide) (.slice a2 r.length k2) r.length (ev r) rfl (row_alloc HRo.out _) ⟨w2.heap.size, 0, none⟩ 1 1 [.int .i64 g, .int .i64 z] rfl rfl ?_ ?_ ?_ ?_ ?_ ?_; (intro j u hj; match j, hj with | 0, hj => (simp at hj; subst hj; simp [Addr.add]) | 1, hj => (simp at hj; subst hj; simp [Addr.add])); (intro u hu; simp at hu; rcases hu with hu | hu <;> (subst hu; rfl)); (unfold maxLen; omega); omega; (simp; omega); intro v' w4 hown4 hgrow4 _ hloc4; obtain ⟨b4, cap4, ev4⟩ := row_shape hown4 (Nat.succ_pos _); subst ev4)
    have hba := (Below.refl w2.heap.size w2).alloc (Nat.le_refl _) (.cells #[.int .i64 g, .int .i64 z] 84)
    have hSa := HS2.out.below hB2 hba
    have hEa := (hba.block eb (lt_of_some HE2.out)).trans HE2.out
    have hbl4 : some b4 = (Value.slice a2 r.length k2).ownBlock ∨ b4 = w2.heap.size + 1 := hloc4.imp id (fun e => by simpa [Value.ownBlock] using e)
    have hS4 := hSa.grow2 (l := r ++ [(g, z)]) (u := .slice (some ⟨b4, 0, none⟩) (r ++ [(g, z)]).length cap4) (by simp; omega) hgrow4 (by rw [ev_append]; simpa [ev] using hown4) (fun k e => by
      simp [Value.ownBlock] at e
      rcases hbl4 with h | h
      · exact Or.inl (by rw [e]; exact h)
      · exact Or.inr (by simp; omega))
    have hE4 := (hgrow4.block eb (lt_of_some hEa) (step_nr hSa.r2 hEa)).trans hEa
    have HS4 : Hid (Sst B w1 w4 p (.slice (some ⟨b1, 0, none⟩) (r ++ [(g, z)]).length m1) (.slice a1 q.length k1) (.slice (some ⟨b4, 0, none⟩) (r ++ [(g, z)]).length cap4) (.slice a3 q.length k3) (r ++ [(g, z)]) q (r ++ [(g, z)]) q) := hS4
    have HE4 : Hid (w4.heap[eb]? = some (.cells #[.int .i64 0, .int .i64 g, .int .i64 z] 86 (0, 0))) := hE4
    clear hown4 hgrow4 hloc4 hba hSa hEa hbl4 hS4 hE4 y1 y2 HS2 HE2 HRo
    go_wp2_with fail
    rw [show r.length + 1 = (r ++ [(g, z)]).length by simp]
    exact HQ.out _ _ _ _ _ _ _ _ _ _ _ _ _ _ _ _ _ _ _ _ _ _ _ _ _ _ _ _ _ _ _ _ _ _ _ _ _ _ _ _ _ _ _ _ _ _ _ _ _ _ _ _ _ _ _ _ _ _ _ _ _ _ _ _ _ _ _ _ _ _ _ _ _ _ _ _ _ _ _ _ _ _ _ _ _ _ _ _ _ _ _ _ _ _ _ _ _ _ _ _ _ _ _ _ _ _ _ _ _ p (some ⟨b1, 0, none⟩) a1 (some ⟨b4, 0, none⟩) a3 m1 k1 cap4 k3 (r ++ [(g, z)]) q w4 HS4.out HE4.out (by simp) (by omega)

end Go.Proofs.Ythlfgddhkffilaa.SDo
