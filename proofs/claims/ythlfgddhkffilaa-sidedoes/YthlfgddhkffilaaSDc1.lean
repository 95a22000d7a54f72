/- SideDoes: one that waits goes. -/
import Derived.Test.YthlfgddhkffilaaSDr30
namespace Go.Proofs.Ythlfgddhkffilaa.SDo
open Go.RowKit W Kp Stl

/-- The first from m on that is of a guardian, or none. -/
def At1 (q : List En) (g : Int) (m : Nat) (a : Int) : Prop :=
  (a = -1 ∧ ∀ i, m ≤ i → i < q.length → ¬ (q.getD i (0, 0)).1 = g) ∨ ∃ i : Nat, a = i ∧ m ≤ i ∧ i < q.length ∧ (q.getD i (0, 0)).1 = g ∧ ∀ j, m ≤ j → j < i → ¬ (q.getD j (0, 0)).1 = g
theorem At1.start (q : List En) (g : Int) : At1 q g q.length (-1) := Or.inl ⟨rfl, fun i h1 h2 => by omega⟩
theorem At1.yes {q : List En} {g : Int} {j : Nat} (h : j < q.length) (e : (q.getD j (0, 0)).1 = g) : At1 q g j j := Or.inr ⟨j, rfl, Nat.le_refl _, h, e, fun k h1 h2 => by omega⟩
theorem At1.no {q : List En} {g a : Int} {j : Nat} (h : At1 q g (j + 1) a) (e : ¬ (q.getD j (0, 0)).1 = g) : At1 q g j a := by
  rcases h with ⟨h1, h2⟩ | ⟨i, h1, h2, h3, h4, h5⟩
  · exact Or.inl ⟨h1, fun i a b => by
      by_cases c : i = j
      · rw [c]; exact e
      · exact h2 i (by omega) b⟩
  · exact Or.inr ⟨i, h1, by omega, h3, h4, fun k a b => by
      by_cases c : k = j
      · rw [c]; exact e
      · exact h5 k (by omega) b⟩
theorem At1.none {q : List En} {g a : Int} (h : At1 q g 0 a) (e : ∀ x ∈ q, ¬ x.1 = g) : a = -1 := by
  rcases h with ⟨h1, _⟩ | ⟨i, _, _, h3, h4, _⟩
  · exact h1
  · exact absurd h4 (e _ (by rw [List.getD_eq_getElem?_getD, List.getElem?_eq_getElem h3]; exact List.getElem_mem _))
theorem At1.some {q : List En} {g a : Int} {i : Nat} (h : At1 q g 0 a) (hi : i < q.length) (e : (q.getD i (0, 0)).1 = g) (hf : ∀ x ∈ q.take i, ¬ x.1 = g) : a = i := by
  rcases h with ⟨_, h2⟩ | ⟨j, h1, _, h3, h4, h5⟩
  · exact absurd e (h2 i (Nat.zero_le _) hi)
  · rw [h1]
    have : j = i := by
      rcases Nat.lt_trichotomy j i with c | c | c
      · refine absurd h4 (hf _ ?_)
        rw [List.getD_eq_getElem?_getD, List.getElem?_eq_getElem h3]
        rw [List.mem_take_iff_getElem]
        exact ⟨j, by omega, rfl⟩
      · exact c
      · exact absurd e (h5 i (Nat.zero_le _) c)
    rw [this]

set_option maxRecDepth 100000 in
set_option maxHeartbeats 4000000 in
theorem case1_wp {s0 s1 s2 s6 s9 s10 s11 s12 s13 s14 s15 s16 s17 s18 s19 s20 s21 s22 s23 s24 s25 s26 s27 s28 s29 s30 s31 s32 s33 s34 s35 s36 s37 s38 s39 s40 s41 s42 s43 s44 s45 s46 s47 s48 s49 s50 s51 s52 s53 s54 s55 s56 s57 s58 s59 s60 s61 s62 s63 s64 s65 s66 s67 s68 s69 s70 s71 s72 s73 s74 s75 s76 s77 s78 s79 s80 s81 s82 s83 s84 s85 s86 s87 s88 s89 s90 s91 s92 s93 s94 s95 s96 s97 s98 s99 s100 s101 s102 s103 s104 s105 s106 s107 s108 s109 s110 s111 s112 s113 s114 s115 s116 s117 s118 s119 s120 s121 s122 s123 s124 s125 s126 s127 s128 s129 s130 s131 s132 s133 s134 s135 s136 s137 s138 s139 s140 s141 s142 s143 s144 s145 s146 s147 s148 s149 s150 s151 s152 s153 s154 s155 s156 s157 s158 s159 s160 s161 s162 s163 s164 s165 s166 s167 s168 s169 s170 s171 s172 s173 s174 s175 s176 s177 s178 s179 s180 s181 s182 s183 s184 s185 s186 s187 s188 s189 s190 s191 s192 s193 s194 s195 s196 s197 s198 s199 : Value} {Q : Exit → Act → World → Prop} {B p eb k0 k1 k2 k3 : Nat} {a0 a1 a2 a3 : Option Addr} {g z : Int} {r q : List En} {w1 w : World} (h : Sst B w1 w p (.slice a0 r.length k0) (.slice a1 q.length k1) (.slice a2 r.length k2) (.slice a3 q.length k3) r q r q) (hB : B ≤ w.heap.size) (he : w.heap[eb]? = some (.cells #[.int .i64 1, .int .i64 g, .int .i64 z] 86 (0, 0))) (lq : q.length ≤ 300)
    (hQ : ∀ (v8 v9 v10 v11 v12 v13 v39 v40 v41 v42 v43 v44 v45 v46 v47 v48 v49 v50 v51 v52 v53 v54 v55 v56 v57 v58 v59 v60 v61 v62 v63 v64 v65 v66 v67 v68 v69 v70 v71 v72 v73 v74 v75 v76 v77 v78 v79 v80 v81 v82 v83 v84 v85 v86 v87 v88 v89 v90 v91 v92 v93 v94 v95 v96 v97 v98 v99 v100 v101 v102 v103 v104 v105 v106 v107 v108 v109 v110 v111 v112 v113 v114 v115 v116 v117 v118 v119 v120 v121 v122 v123 v124 v125 v126 v127 v128 v129 v130 v131 v132 v133 v134 v135 v136 v137 v138 v139 v140 v141 : Value) (p' : Nat) (b0 b1 b2 b3 : Option Addr) (m0 m1 m2 m3 : Nat) (l0 l1 : List En) (w' : World), Sst B w1 w' p' (.slice b0 l0.length m0) (.slice b1 l1.length m1) (.slice b2 l0.length m2) (.slice b3 l1.length m3) l0 l1 l0 l1 → w'.heap[eb]? = some (.cells #[.int .i64 1, .int .i64 g, .int .i64 z] 86 (0, 0)) → l0.length ≤ r.length + 1 → l1.length ≤ q.length + 1 → Q .normal ⟨#[s0, s1, s2, .pointer (some ⟨p', 0, none⟩), .slice b2 l0.length m2, .slice b3 l1.length m3, s6, .pointer (some ⟨eb, 0, none⟩), v8, v9, v10, v11, v12, v13, s14, s15, s16, s17, s18, s19, s20, s21, s22, s23, s24, s25, s26, s27, s28, s29, s30, s31, s32, s33, s34, s35, s36, s37, s38, v39, v40, v41, v42, v43, v44, v45, v46, v47, v48, v49, v50, v51, v52, v53, v54, v55, v56, v57, v58, v59, v60, v61, v62, v63, v64, v65, v66, v67, v68, v69, v70, v71, v72, v73, v74, v75, v76, v77, v78, v79, v80, v81, v82, v83, v84, v85, v86, v87, v88, v89, v90, v91, v92, v93, v94, v95, v96, v97, v98, v99, v100, v101, v102, v103, v104, v105, v106, v107, v108, v109, v110, v111, v112, v113, v114, v115, v116, v117, v118, v119, v120, v121, v122, v123, v124, v125, v126, v127, v128, v129, v130, v131, v132, v133, v134, v135, v136, v137, v138, v139, v140, v141, s142, s143, s144, s145, s146, s147, s148, s149, s150, s151, s152, s153, s154, s155, s156, s157, s158, s159, s160, s161, s162, s163, s164, s165, s166, s167, s168, s169, s170, s171, s172, s173, s174, s175, s176, s177, s178, s179, s180, s181, s182, s183, s184, s185, s186, s187, s188, s189, s190, s191, s192, s193, s194, s195, s196, s197, s198, s199], []⟩ w') :
    Code.wp Try.prog swC Q ⟨#[s0, s1, s2, .pointer (some ⟨p, 0, none⟩), .slice a2 r.length k2, .slice a3 q.length k3, s6, .pointer (some ⟨eb, 0, none⟩), .bool (fulB (r.length + q.length)), s9, s10, s11, s12, s13, s14, s15, s16, s17, s18, s19, s20, s21, s22, s23, s24, s25, s26, s27, s28, s29, s30, s31, s32, s33, s34, s35, s36, s37, s38, s39, s40, s41, s42, s43, s44, s45, s46, s47, s48, s49, s50, s51, s52, s53, s54, s55, s56, s57, s58, s59, s60, s61, s62, s63, s64, s65, s66, s67, s68, s69, s70, s71, s72, s73, s74, s75, s76, s77, s78, s79, s80, s81, s82, s83, s84, s85, s86, s87, s88, s89, s90, s91, s92, s93, s94, s95, s96, s97, s98, s99, s100, s101, s102, s103, s104, s105, s106, s107, s108, s109, s110, s111, s112, s113, s114, s115, s116, s117, s118, s119, s120, s121, s122, s123, s124, s125, s126, s127, s128, s129, s130, s131, s132, s133, s134, s135, s136, s137, s138, s139, s140, s141, s142, s143, s144, s145, s146, s147, s148, s149, s150, s151, s152, s153, s154, s155, s156, s157, s158, s159, s160, s161, s162, s163, s164, s165, s166, s167, s168, s169, s170, s171, s172, s173, s174, s175, s176, s177, s178, s179, s180, s181, s182, s183, s184, s185, s186, s187, s188, s189, s190, s191, s192, s193, s194, s195, s196, s197, s198, s199], []⟩ w := by
  conv => arg 2; whnf
  have HQ : Hid (∀ (v8 v9 v10 v11 v12 v13 v39 v40 v41 v42 v43 v44 v45 v46 v47 v48 v49 v50 v51 v52 v53 v54 v55 v56 v57 v58 v59 v60 v61 v62 v63 v64 v65 v66 v67 v68 v69 v70 v71 v72 v73 v74 v75 v76 v77 v78 v79 v80 v81 v82 v83 v84 v85 v86 v87 v88 v89 v90 v91 v92 v93 v94 v95 v96 v97 v98 v99 v100 v101 v102 v103 v104 v105 v106 v107 v108 v109 v110 v111 v112 v113 v114 v115 v116 v117 v118 v119 v120 v121 v122 v123 v124 v125 v126 v127 v128 v129 v130 v131 v132 v133 v134 v135 v136 v137 v138 v139 v140 v141 : Value) (p' : Nat) (b0 b1 b2 b3 : Option Addr) (m0 m1 m2 m3 : Nat) (l0 l1 : List En) (w' : World), Sst B w1 w' p' (.slice b0 l0.length m0) (.slice b1 l1.length m1) (.slice b2 l0.length m2) (.slice b3 l1.length m3) l0 l1 l0 l1 → w'.heap[eb]? = some (.cells #[.int .i64 1, .int .i64 g, .int .i64 z] 86 (0, 0)) → l0.length ≤ r.length + 1 → l1.length ≤ q.length + 1 → Q .normal ⟨#[s0, s1, s2, .pointer (some ⟨p', 0, none⟩), .slice b2 l0.length m2, .slice b3 l1.length m3, s6, .pointer (some ⟨eb, 0, none⟩), v8, v9, v10, v11, v12, v13, s14, s15, s16, s17, s18, s19, s20, s21, s22, s23, s24, s25, s26, s27, s28, s29, s30, s31, s32, s33, s34, s35, s36, s37, s38, v39, v40, v41, v42, v43, v44, v45, v46, v47, v48, v49, v50, v51, v52, v53, v54, v55, v56, v57, v58, v59, v60, v61, v62, v63, v64, v65, v66, v67, v68, v69, v70, v71, v72, v73, v74, v75, v76, v77, v78, v79, v80, v81, v82, v83, v84, v85, v86, v87, v88, v89, v90, v91, v92, v93, v94, v95, v96, v97, v98, v99, v100, v101, v102, v103, v104, v105, v106, v107, v108, v109, v110, v111, v112, v113, v114, v115, v116, v117, v118, v119, v120, v121, v122, v123, v124, v125, v126, v127, v128, v129, v130, v131, v132, v133, v134, v135, v136, v137, v138, v139, v140, v141, s142, s143, s144, s145, s146, s147, s148, s149, s150, s151, s152, s153, s154, s155, s156, s157, s158, s159, s160, s161, s162, s163, s164, s165, s166, s167, s168, s169, s170, s171, s172, s173, s174, s175, s176, s177, s178, s179, s180, s181, s182, s183, s184, s185, s186, s187, s188, s189, s190, s191, s192, s193, s194, s195, s196, s197, s198, s199], []⟩ w') := hQ
  have H : Hid (Sst B w1 w p (.slice a0 r.length k0) (.slice a1 q.length k1) (.slice a2 r.length k2) (.slice a3 q.length k3) r q r q) := h
  have HE : Hid (w.heap[eb]? = some (.cells #[.int .i64 1, .int .i64 g, .int .i64 z] 86 (0, 0))) := he
  have c0 : w.cell? ⟨eb, 0, none⟩ = some (.int .i64 1) := by simp [World.cell?, he]
  have c1 : w.cell? ⟨eb, 1, none⟩ = some (.int .i64 g) := by simp [World.cell?, he]
  have le := lt_of_some he
  have L3 : Hid (Lp w a3 q) := row_pairs h.r3
  clear hQ h he
  go_wp2_with fail
  go_loopw [9, 10] (fun av kv wr => ∃ (a k : Int) (m : Nat), k + 1 = m ∧ m ≤ q.length ∧ kv = .int .i64 k ∧ av = .int .i64 a ∧ Hid (At1 q g m a) ∧ Below w.heap.size w wr) (fun _ kv _ => (intOf kv + 1).toNat)
  case atStart => exact ⟨-1, (q.length : Int) - 1, q.length, by omega, Nat.le_refl _, by go_num, rfl, At1.start q g, Below.refl _ _⟩
  case round =>
    obtain ⟨a, k, m, hkm, hm, rfl, rfl, HA, hb⟩ := hrel
    have y1 := (hb.cell (p := ⟨eb, 1, none⟩) le).trans c1
    by_cases hk : 0 ≤ k
    · obtain ⟨j, rfl⟩ : ∃ j : Nat, k = j := ⟨k.toNat, by omega⟩
      obtain rfl : m = j + 1 := by omega
      obtain ⟨b0, o0, e0, hb0, hc⟩ := L3.out.below hb (by omega)
      obtain ⟨x1, _⟩ := hc j (by omega)
      clear hc
      subst e0
      have j1 : (j : Int) < (q.length : Int) := by omega
      by_cases hg : (q.getD j (0, 0)).1 = g
      · have HN : Hid (At1 q g j j) := At1.yes (by omega) hg
        rw [hg] at x1
        go_wp2_with fail
        go_region_held3 (fun w' => w'.cell? ⟨b0, o0 + j * 2, none⟩ = some (.int .i64 g) ∧ w'.cell? ⟨eb, 1, none⟩ = some (.int .i64 g)) (go_keep) (fail)
        have hbd := hb.drew
        clear x1 y1 hb
        go_wp2_with fail
        go_roundw
        case rel => exact ⟨j, (j : Int) - 1, j, by omega, by omega, by go_num, rfl, HN, hbd⟩
        case measure => simp [intOf]
      · have HN : Hid (At1 q g j a) := At1.no HA.out hg
        generalize (q.getD j (0, 0)).1 = g2 at x1 hg
        go_wp2_with fail
        go_region_held3 (fun w' => w'.cell? ⟨b0, o0 + j * 2, none⟩ = some (.int .i64 g2) ∧ w'.cell? ⟨eb, 1, none⟩ = some (.int .i64 g)) (go_keep) (fail)
        have hbd := hb.drew
        clear x1 y1 hb
        go_wp2_with fail
        go_roundw
        case rel => exact ⟨a, (j : Int) - 1, j, by omega, by omega, by go_num, rfl, HN, hbd⟩
        case measure => simp [intOf]
    · obtain rfl : m = 0 := by omega
      have hS := H.out.below hB hb
      have hEb := (hb.block eb le).trans HE.out
      have hBr : B ≤ wr.heap.size := Nat.le_trans hB hb.size
      go_wp2_with fail
      refine (pop_any wr p a0 a1 k0 k1 r q g ⟨hS.blk, row_base hS.r0 (fun _ _ => Nat.zero_le _), row_base hS.r1 (fun _ _ => Nat.zero_le _)⟩ (by omega)).mono ?_
      rintro e w2 (⟨rfl, hno, hb2⟩ | ⟨i, b1, m1, rfl, hil, hig, hfi, hsd, hfn, hfr⟩)
      · have ha := HA.out.none hno
        subst ha
        have HS2 : Hid (Sst B w1 w2 p (.slice a0 r.length k0) (.slice a1 q.length k1) (.slice a2 r.length k2) (.slice a3 q.length k3) r q r q) := hS.below hBr hb2
        have HE2 : Hid (w2.heap[eb]? = some (.cells #[.int .i64 1, .int .i64 g, .int .i64 z] 86 (0, 0))) := (hb2.block eb (lt_of_some hEb)).trans hEb
        clear hno hb2 hS hEb y1 HA
        go_wp2_with fail
        exact HQ.out _ _ _ _ _ _ _ _ _ _ _ _ _ _ _ _ _ _ _ _ _ _ _ _ _ _ _ _ _ _ _ _ _ _ _ _ _ _ _ _ _ _ _ _ _ _ _ _ _ _ _ _ _ _ _ _ _ _ _ _ _ _ _ _ _ _ _ _ _ _ _ _ _ _ _ _ _ _ _ _ _ _ _ _ _ _ _ _ _ _ _ _ _ _ _ _ _ _ _ _ _ _ _ _ _ _ _ _ _ p a0 a1 a2 a3 k0 k1 k2 k3 r q w2 HS2.out HE2.out (by omega) (by omega)
      · have ha := HA.out.some hil hig hfi
        subst ha
        have hS2 := hS.repl1 hBr (l := q.take i ++ q.drop (i + 1)) hfr hsd.blk hsd.q0 (fun k e => by
          cases b1 with
          | none => simp [Value.ownBlock] at e
          | some zz => simp [Value.ownBlock] at e; rw [e]; exact hfn zz rfl)
        have hE2 := (hfr.block eb (lt_of_some hEb) (step_ne hS.blk hEb)).trans hEb
        have hB2 : B ≤ w2.heap.size := Nat.le_trans hBr hfr.size
        obtain ⟨b3, hb3e⟩ : ∃ b3, a3 = Option.some ⟨b3, 0, none⟩ := by
          rcases hS2.r3.2 with ⟨hv, h0⟩ | ⟨g', cap', cur, hv, _⟩
          · omega
          · simp at hv; exact ⟨g', hv.1⟩
        subst hb3e
        obtain ⟨b3', o3', e3', hb3l, hc3⟩ := row_pairs hS2.r3 (by omega)
        cases e3'
        have hk3 : q.length ≤ k3 := by
          rcases hS2.r3.2 with ⟨hv, h0⟩ | ⟨g', cap', cur, hv, _, _, hc4, _⟩
          · omega
          · simp at hv; rw [hv.2]; exact hc4
        have x2 := (hc3 i hil).2
        generalize hzz : (q.getD i (0, 0)).2 = z2 at x2
        have HC3 : Hid (∀ i, i < q.length → w2.cell? ⟨b3, 0 + i * 2, none⟩ = some (.int .i64 (q.getD i (0, 0)).1) ∧ w2.cell? ⟨b3, 0 + i * 2 + 1, none⟩ = some (.int .i64 (q.getD i (0, 0)).2)) := hc3
        have HS2 : Hid (Sst B w1 w2 p (.slice a0 r.length k0) (.slice b1 (q.take i ++ q.drop (i + 1)).length m1) (.slice a2 r.length k2) (.slice (some ⟨b3, 0, none⟩) q.length k3) r (q.take i ++ q.drop (i + 1)) r q) := hS2
        have HE2 : Hid (w2.heap[eb]? = some (.cells #[.int .i64 1, .int .i64 g, .int .i64 z] 86 (0, 0))) := hE2
        have i1 : (0 : Int) ≤ (i : Int) := by omega
        have i2 : (i : Int) < (q.length : Int) := by omega
        have x3 : w2.cell? ⟨b3, i * 2 + 1, none⟩ = some (.int .i64 z2) := by rw [Nat.zero_add] at x2; exact x2
        clear hS2 hE2 hc3 hsd hfn hfr hS hEb y1 HA hig hfi x2
        go_upto_region 30 with fail
        refine r30_wp hil hk3 lq hb3l HC3.out ?_
        intro v108 v109 v110 v111 v112 v113 v114 v115 v116 v117 aN cN w3 ho3 hb3
        have HS3 : Hid (Sst B w1 w3 p (.slice a0 r.length k0) (.slice b1 (q.take i ++ q.drop (i + 1)).length m1) (.slice a2 r.length k2) (.slice aN (q.take i ++ q.drop (i + 1)).length cN) r (q.take i ++ q.drop (i + 1)) r (q.take i ++ q.drop (i + 1))) := HS2.out.new3 hB2 hb3 ho3
        have HE3 : Hid (w3.heap[eb]? = some (.cells #[.int .i64 1, .int .i64 g, .int .i64 z] 86 (0, 0))) := (hb3.block eb (lt_of_some HE2.out)).trans HE2.out
        have hll : (q.take i ++ q.drop (i + 1)).length ≤ q.length := by simp; omega
        clear ho3 hb3 x3 HS2 HE2 HC3
        generalize q.take i ++ q.drop (i + 1) = l at HS3 hll ⊢
        go_wp2_with fail
        exact HQ.out _ _ _ _ _ _ _ _ _ _ _ _ _ _ _ _ _ _ _ _ _ _ _ _ _ _ _ _ _ _ _ _ _ _ _ _ _ _ _ _ _ _ _ _ _ _ _ _ _ _ _ _ _ _ _ _ _ _ _ _ _ _ _ _ _ _ _ _ _ _ _ _ _ _ _ _ _ _ _ _ _ _ _ _ _ _ _ _ _ _ _ _ _ _ _ _ _ _ _ _ _ _ _ _ _ _ _ _ _ p a0 b1 a2 aN k0 m1 k2 cN r l w3 HS3.out HE3.out (by omega) (by omega)

end Go.Proofs.Ythlfgddhkffilaa.SDo
