/- ArenaDoes' walk: it returns true at whatever spaces and steps, in whatever memory; nothing that was in memory turns. -/
import Derived.Test.YtheiboniifijnaaDoS
import Derived.Test.YtheiboniifijnaaDoI
import Derived.Test.YtheiboniifijnaaDoR
namespace Go.Proofs.Ytheiboniifijnaa.Do
open Go.RowKit W Apart2

set_option maxRecDepth 100000 in
set_option maxHeartbeats 4000000 in
theorem walk (n o : Int) (ad : Option Addr) (len cap : Nat) (S : Nat → Int × Int × Int × Int) (w : World) (hst : IsStepsIn w ad len S) :
    Calls Try.prog 6 #[.int .i64 n, .int .i64 o, .slice ad len cap] w fun e w' => e = .returned (.bool true) ∧ Below w.heap.size w w' := by
  by_cases hlen : 200 < len
  · go_enter Try.func6, Try.ntmps6
    go_wp2_with fail
    refine (begun_any _).mono ?_
    rintro e w1 ⟨rfl, hb1⟩
    go_wp2_with fail
    go_ret
    exact ⟨rfl, hb1⟩
  by_cases hno : n < 16 ∨ 256 < n ∨ o < 0 ∨ 1024 < o
  · go_enter Try.func6, Try.ntmps6
    go_wp2_with fail
    refine (begun_any _).mono ?_
    rintro e w1 ⟨rfl, hb1⟩
    go_wp2_with fail
    refine (new_no n o _ hno).mono ?_
    rintro e w2 ⟨rfl, hb2⟩
    go_wp2_with fail
    refine (roomFault_no n o _ hno).mono ?_
    rintro e w3 ⟨rfl, hb3⟩
    obtain ⟨z0, z1, hz⟩ := cells2 hb3
    have hz' : w2.heap.size < w3.heap.size := by omega
    go_wp2_with fail
    go_ret
    exact ⟨rfl, (((hb1.trans (hb2.mono hb1.size)).alloc (Nat.le_trans hb1.size hb2.size) _).trans (hb3.mono (by have := hb1.size; have := hb2.size; simp; omega))).alloc (by have := hb1.size; have := hb2.size; omega) _⟩
  obtain ⟨N, hN⟩ := Int.eq_ofNat_of_zero_le (show 0 ≤ n by omega)
  obtain ⟨O, hO⟩ := Int.eq_ofNat_of_zero_le (show 0 ≤ o by omega)
  subst hN hO
  go_enter Try.func6, Try.ntmps6
  go_wp2_with fail
  refine (begun_any _).mono ?_
  rintro e w1 ⟨rfl, hb1⟩
  go_wp2_with fail
  refine (new_yes N O _ (by omega) (by omega) (by omega) (by omega)).mono ?_
  rintro e w2 ⟨p, q, rfl, h2, hp, hq, hb2⟩
  simp only [Int.toNat_natCast] at h2
  have hp' : w.heap.size ≤ p := Nat.le_trans hb1.size hp
  have hq' : w.heap.size ≤ q := Nat.le_trans hb1.size hq
  have hB2 : Below w.heap.size w w2 := hb1.trans (hb2.mono hb1.size)
  clear hp hq hb1 hb2
  go_wp2_with fail
  refine (roomFault_yes N O _ (by omega) (by omega) (by omega) (by omega)).mono ?_
  rintro e w3 ⟨rfl, hb3⟩
  obtain ⟨z0, z1, hz⟩ := cells2 hb3
  have hz' : w2.heap.size < w3.heap.size := by omega
  have h3 := (h2.alloc _).below hb3 (Nat.le_refl _)
  have hB3 := (hB2.alloc hB2.size _).trans (hb3.mono (by have := hB2.size; simp; omega))
  clear h2 hB2 hb3
  go_wp2_with fail
  refine (newRoom_any N O _ (by omega) (by omega) (by omega)).mono ?_
  rintro e w4 ⟨r, s, rfl, r4, hr, hs, hb4⟩
  have lp3 := (h3.alloc (.cells #[.int .i64 0, .int .i64 0] 42)).ltp
  have lq3 := (h3.alloc (.cells #[.int .i64 0, .int .i64 0] 42)).ltq
  have n1 : p ≠ r := by omega
  have n2 : p ≠ s := by omega
  have n3 : q ≠ r := by omega
  have n4 : q ≠ s := by omega
  have hr' : w.heap.size ≤ r := by have := hB3.size; simp at hr; omega
  have hs' : w.heap.size ≤ s := by have := hB3.size; simp at hs; omega
  have h4 := (h3.alloc _).below hb4 (Nat.le_refl _)
  have hB4 := (hB3.alloc hB3.size _).trans (hb4.mono (by have := hB3.size; simp; omega))
  clear h3 hB3 hb4 hr hs lp3 lq3 z0 z1 hz hz'
  go_wp2_with fail
  go_loopw [11] (fun i wr => ∃ (k y g : Nat) (ws : List Int), k ≤ len ∧ i = .int .i64 k ∧ At wr p q N O y g ws ∧ Rm wr r s N O y g ws ∧ Below w.heap.size w wr) (fun i _ => len - (intOf i).toNat)
  case atStart => exact ⟨0, 0, 0, _, Nat.zero_le _, rfl, h4, r4, hB4⟩
  case round =>
    clear h4 r4 hB4
    obtain ⟨k, y, g, ws, hk, rfl, hA, hR, hB0⟩ := hrel
    have hl := hA.hl
    have k0 := hA.hN
    have k1 := hA.hN'
    have k2 := hA.hy
    have k3 := hA.hO
    have k4 := hA.hg
    by_cases hlt : k < len
    · obtain ⟨b, of, rfl, hbl, hcs⟩ := hst.1 (by omega)
      obtain ⟨x0, x1, x2, x3⟩ := hcs k hlt
      have hmax := hst.2 k hlt
      have y0 := (hB0.cell (p := ⟨b, of + k * 4, none⟩) hbl).trans x0
      have y1 := (hB0.cell (p := ⟨b, of + k * 4 + 1, none⟩) hbl).trans x1
      have y2 := (hB0.cell (p := ⟨b, of + k * 4 + 2, none⟩) hbl).trans x2
      have y3 := (hB0.cell (p := ⟨b, of + k * 4 + 3, none⟩) hbl).trans x3
      generalize (S k).1 = d at y0
      generalize (S k).2.1 = a at y1 hmax
      generalize (S k).2.2.1 = f at y2
      generalize (S k).2.2.2 = x at y3
      clear x0 x1 x2 x3 hcs hst
      have hbx : Bx (wr.alloc (.cells #[.int .i64 d, .int .i64 a, .int .i64 f, .int .i64 x] 49)) wr.heap.size d a f x := heap_alloc_new _ _
      have hA1 := hA.alloc (.cells #[.int .i64 d, .int .i64 a, .int .i64 f, .int .i64 x] 49)
      have hR1 := hR.alloc (.cells #[.int .i64 d, .int .i64 a, .int .i64 f, .int .i64 x] 49)
      have hB1 := hB0.alloc hB0.size (.cells #[.int .i64 d, .int .i64 a, .int .i64 f, .int .i64 x] 49)
      have hlr := hR.ltp
      have hls := hR.ltq
      have hlp := hA.ltp
      have hlq := hA.ltq
      have cx : Ctx w p q r s wr.heap.size := ⟨n1, n2, n3, n4, hp', hq', hr', hs', hlp, hlq, hlr, hls⟩
      go_upto_region 14 with fail
      clear hA hR hB0 y0 y1 y2 y3
      refine in_wp cx hA1 hR1 hbx hB1 hmax ?_
      intro v68 v69 v70 v71 v72 v73 v74 v75 v76 v77 wc hrel
      obtain ⟨hA2, hR2, hx2, hB2⟩ := hrel
      clear hA1 hR1 hbx hB1
      go_step
      go_step
      go_step
      refine sw_any cx hA2 hR2 hx2 hB2 hmax ?_
      intro v13 v78 v79 v80 v81 v82 v83 v84 v85 v86 v87 v88 v89 v90 v91 v92 v93 v94 v95 v96 v97 v98 v99 v100 v101 v102 v103 v104 v105 v106 v107 v108 v109 v110 v111 v112 v113 v114 v115 v116 v117 v118 v119 v120 v121 v122 v123 v124 v125 v126 v127 v128 v129 v130 v131 v132 v133 v134 v135 v136 v137 v138 v139 v140 v141 v142 v143 v144 v145 v146 v147 v148 v149 v150 v151 v152 v153 v154 v155 wc2 hrel
      obtain ⟨y2, g2, ws2, hA3, hR3, hx3, hB3⟩ := hrel
      clear hA2 hR2 hx2 hB2
      go_step
      go_step
      refine re_wp cx hA3 hR3 hx3 hB3 hmax ?_
      intro v14 v15 v16 v17 v18 v19 v20 v21 v22 v23 v24 v25 v26 v27 v28 v29 v156 v157 v158 v159 v160 v161 v162 v163 v164 v165 v166 v167 v168 v169 v170 v171 v172 v173 v174 v175 v176 v177 v178 v179 v180 v181 v182 v183 v184 v185 v186 v187 v188 v189 v190 v191 v192 v193 v194 v195 v196 v197 v198 v199 v200 v201 v202 v203 v204 v205 v206 v207 v208 v209 v210 v211 v212 v213 v214 v215 v216 v217 v218 v219 v220 v221 v222 v223 v224 v225 v226 v227 v228 v229 v230 v231 v232 v233 v234 v235 v236 v237 v238 v239 v240 v241 v242 v243 v244 v245 v246 v247 v248 v249 v250 v251 v252 v253 v254 v255 v256 v257 v258 v259 v260 v261 v262 v263 v264 v265 v266 v267 v268 v269 v270 v271 v272 v273 v274 v275 v276 v277 v278 v279 v280 v281 v282 v283 v284 v285 v286 v287 v288 v289 v290 v291 v292 v293 v294 v295 v296 v297 wc3 hrel
      obtain ⟨y4, g4, ws4, hA4, hR4, hx4, hB4⟩ := hrel
      clear hA3 hR3 hx3 hB3
      go_wp2_with fail
      go_roundw
      case rel => exact ⟨k + 1, y4, g4, ws4, by omega, by go_num, hA4, hR4, hB4⟩
      case measure => simp [intOf]; omega
    · go_wp2_with fail
      refine (words_any _ hA).mono ?_
      rintro e w5 ⟨b1, cap1, rfl, _, _, hb5⟩
      go_wp2_with fail
      go_ret
      exact ⟨by simp, hB0.trans (hb5.mono hB0.size)⟩

end Go.Proofs.Ytheiboniifijnaa.Do
