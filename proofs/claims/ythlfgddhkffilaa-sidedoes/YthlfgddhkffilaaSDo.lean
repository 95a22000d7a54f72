/- SideDoes: its walk. -/
import Derived.Test.YthlfgddhkffilaaSDsw
namespace Go.Proofs.Ythlfgddhkffilaa.SDo
open Go.RowKit W Kp Stl

set_option maxRecDepth 100000 in
set_option maxHeartbeats 4000000 in
theorem walk (a : Option Addr) (c : Nat) (l : List S3) (w : World) (hl : Lt w a l) :
    Calls Try.prog 12 #[.slice a l.length c] w fun e w' => e = .returned (.bool true) ∧ Below w.heap.size w w' := by
  have HL : Hid (Lt w a l) := hl
  clear hl
  by_cases hlen : 200 < l.length
  · go_enter Try.func12, Try.ntmps12
    go_wp2_with fail
    refine (sideBegun_any w).mono ?_
    rintro e w1 ⟨rfl, hb1⟩
    have h2 : (200 : Int) < (l.length : Int) := by omega
    go_wp2_with fail
    go_ret
    exact ⟨rfl, hb1⟩
  · go_enter Try.func12, Try.ntmps12
    go_wp2_with fail
    refine (sideBegun_any w).mono ?_
    rintro e w1 ⟨rfl, hb1⟩
    have h2 : ¬ ((200 : Int) < (l.length : Int)) := by omega
    have hba := (Below.refl w1.heap.size w1).alloc (Nat.le_refl _) (.cells #[.slice none 0 0, .slice none 0 0] 82)
    have kp0 := heap_alloc_new w1 (.cells #[.slice none 0 0, .slice none 0 0] 82)
    have HS0 : Hid (Sst w1.heap.size w1 (w1.alloc (.cells #[.slice none 0 0, .slice none 0 0] 82)) w1.heap.size (.slice none 0 0) (.slice none 0 0) (.slice none 0 0) (.slice none 0 0) [] [] [] []) := by
      have nn : Dj (.slice none 0 0) (.slice none 0 0) := fun k e => by simp [Value.ownBlock] at e
      exact ⟨kp0, World.ownsRow_nil _ _ _ _, World.ownsRow_nil _ _ _ _, World.ownsRow_nil _ _ _ _, World.ownsRow_nil _ _ _ _, nn, nn, nn, nn, nn, nn, Nat.le_refl _, hba⟩
    clear hba kp0
    go_wp2_with fail
    go_loopw [3, 4, 5, 6] (fun sv rv qv iv wr => ∃ (j p k0 k1 k2 k3 : Nat) (a0 a1 a2 a3 : Option Addr) (r q : List En), j ≤ l.length ∧ iv = .int .i64 j ∧ sv = .pointer (some ⟨p, 0, none⟩) ∧ rv = .slice a2 r.length k2 ∧ qv = .slice a3 q.length k3 ∧ Hid (Sst w1.heap.size w1 wr p (.slice a0 r.length k0) (.slice a1 q.length k1) (.slice a2 r.length k2) (.slice a3 q.length k3) r q r q) ∧ r.length ≤ j ∧ q.length ≤ j) (fun _ _ _ iv _ => l.length - (intOf iv).toNat)
    case atStart => exact ⟨0, w1.heap.size, 0, 0, 0, 0, none, none, none, none, [], [], Nat.zero_le _, rfl, rfl, rfl, rfl, HS0, Nat.le_refl _, Nat.le_refl _⟩
    case round =>
      clear HS0
      obtain ⟨j, p, k0, k1, k2, k3, a0, a1, a2, a3, r, q, hj, rfl, rfl, rfl, rfl, HS, hr, hq⟩ := hrel
      have hB := HS.out.hb.size
      by_cases hlt : j < l.length
      · obtain ⟨b0, o0, e0, hb0, hc⟩ := HL.out (by omega)
        obtain ⟨x1, x2, x3⟩ := hc j hlt
        clear hc
        have hbw : Below w.heap.size w wr := hb1.trans (HS.out.hb.mono hb1.size)
        have y1 := (hbw.cell (p := ⟨b0, o0 + j * 3, none⟩) hb0).trans x1
        have y2 := (hbw.cell (p := ⟨b0, o0 + j * 3 + 1, none⟩) hb0).trans x2
        have y3 := (hbw.cell (p := ⟨b0, o0 + j * 3 + 2, none⟩) hb0).trans x3
        generalize (l.getD j (0, 0, 0)).1 = d at y1
        generalize (l.getD j (0, 0, 0)).2.1 = g at y2
        generalize (l.getD j (0, 0, 0)).2.2 = z at y3
        subst e0
        clear x1 x2 x3 hbw
        have j0 : (0 : Int) ≤ (j : Int) := by omega
        have j1 : (j : Int) < (l.length : Int) := by omega
        have hba := (Below.refl wr.heap.size wr).alloc (Nat.le_refl _) (.cells #[.int .i64 d, .int .i64 g, .int .i64 z] 86)
        have HSa : Hid (Sst w1.heap.size w1 (wr.alloc (.cells #[.int .i64 d, .int .i64 g, .int .i64 z] 86)) p (.slice a0 r.length k0) (.slice a1 q.length k1) (.slice a2 r.length k2) (.slice a3 q.length k3) r q r q) := HS.out.below hB hba
        have HEa : Hid ((wr.alloc (.cells #[.int .i64 d, .int .i64 g, .int .i64 z] 86)).heap[wr.heap.size]? = some (.cells #[.int .i64 d, .int .i64 g, .int .i64 z] 86 (0, 0))) := heap_alloc_new _ _
        have hBa : w1.heap.size ≤ (wr.alloc (.cells #[.int .i64 d, .int .i64 g, .int .i64 z] 86)).heap.size := Nat.le_trans hB hba.size
        have hfe := (ful_eq (n0 := r.length) (n1 := q.length) (by omega) (by omega)).out
        have hfe2 : decide ((24 : Int) ≤ (r.length : Int) + (q.length : Int)) = fulB (r.length + q.length) := by rw [← hfe, show IntKind.i64.wrap ((r.length : Int) + (q.length : Int)) = (r.length : Int) + q.length by rw [IntKind.wrap_i64]; omega]
        clear hba HS
        go_upto_region 11 with fail
        iterate 26 go_step
        refine sw_any HSa.out hBa HEa.out (by omega) (by omega) ?_
        intro v8 v9 v10 v11 v12 v13 v39 v40 v41 v42 v43 v44 v45 v46 v47 v48 v49 v50 v51 v52 v53 v54 v55 v56 v57 v58 v59 v60 v61 v62 v63 v64 v65 v66 v67 v68 v69 v70 v71 v72 v73 v74 v75 v76 v77 v78 v79 v80 v81 v82 v83 v84 v85 v86 v87 v88 v89 v90 v91 v92 v93 v94 v95 v96 v97 v98 v99 v100 v101 v102 v103 v104 v105 v106 v107 v108 v109 v110 v111 v112 v113 v114 v115 v116 v117 v118 v119 v120 v121 v122 v123 v124 v125 v126 v127 v128 v129 v130 v131 v132 v133 v134 v135 v136 v137 v138 v139 v140 v141 p' c0 c1 c2 c3 m0 m1 m2 m3 l0 l1 w2 hS2 hE2 hl0 hl1
        have HS2 : Hid (Sst w1.heap.size w1 w2 p' (.slice c0 l0.length m0) (.slice c1 l1.length m1) (.slice c2 l0.length m2) (.slice c3 l1.length m3) l0 l1 l0 l1) := hS2
        have HE2 : Hid (w2.heap[wr.heap.size]? = some (.cells #[.int .i64 d, .int .i64 g, .int .i64 z] 86 (0, 0))) := hE2
        clear hS2 hE2 HSa HEa hBa y1 y2 y3 hfe hfe2
        go_step
        go_step
        refine tail_wp HS2.out HE2.out (by omega) (by omega) ?_
        intro t14 t15 t142 t143 t144 t145 t146 t147 t148 t149 t150 t151 t152 t153 t154 t155 t156 t157 t158 t159 t160 t161 t162 t163 t164 t165 t166 t167 t168 t169 t170 t171 t172 t173 t174 t175 t176 t177 t178 t179 t180 t181 t182 t183 t184 t185 t186 t187 t188 t189 t190 t191 t192 t193 t194 t195 t196 t197 t198 t199 w3 hb3
        have HS3 : Hid (Sst w1.heap.size w1 w3 p' (.slice c0 l0.length m0) (.slice c1 l1.length m1) (.slice c2 l0.length m2) (.slice c3 l1.length m3) l0 l1 l0 l1) := HS2.out.below HS2.out.hb.size hb3
        clear HS2 HE2 hb3
        go_wp2_with fail
        go_roundw
        case rel => exact ⟨j + 1, p', m0, m1, m2, m3, c0, c1, c2, c3, l0, l1, by omega, by go_num, rfl, rfl, rfl, HS3, by omega, by omega⟩
        case measure => simp [intOf]; omega
      · obtain rfl : j = l.length := by omega
        have hfin : Below w.heap.size w wr := hb1.trans (HS.out.hb.mono hb1.size)
        go_wp2_with fail
        go_ret
        exact ⟨rfl, hfin⟩

end Go.Proofs.Ythlfgddhkffilaa.SDo
