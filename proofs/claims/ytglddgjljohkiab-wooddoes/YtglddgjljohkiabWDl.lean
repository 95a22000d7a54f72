/- WoodDoes: its steps. -/
import Derived.Test.YtglddgjljohkiabWDs
import Derived.Test.YtglddgjljohkiabWd6
namespace Go.Proofs.Ytglddgjljohkiab.WDo
open Go.RowKit W Kp Stl

set_option maxRecDepth 100000 in
set_option maxHeartbeats 8000000 in
theorem rest_wp {s1 s3 s4 s5 s6 s8 s9 s12 s13 s14 s15 s16 s17 s18 s19 s20 s21 s22 s23 s24 s25 s26 s27 s28 s29 s30 s31 s32 s33 s34 s35 s36 s37 s38 s39 s40 s41 s42 s43 s44 s45 s46 s47 s48 s49 s50 s51 s52 s53 s54 s55 s56 s57 s58 s59 s60 s61 s62 s63 s64 s65 s66 s67 s68 s69 s70 s71 s72 s73 s74 s75 s76 s77 s78 s79 s80 s81 s82 s83 s84 s85 s86 s87 s88 s89 s90 s91 s92 s93 s94 s95 s96 s97 s98 s99 s100 s101 s102 s103 s104 s105 s106 s107 s108 s109 s110 s111 s112 s113 s114 s115 s116 s117 s118 s119 s120 s121 s122 s123 s124 s125 s126 s127 s128 s129 s130 s131 s132 s133 s134 s135 s136 s137 s138 s139 s140 s141 s142 s143 s144 s145 s146 s147 s148 s149 s150 s151 s152 s153 s154 s155 s156 s157 s158 s159 s160 s161 s162 s163 s164 s165 s166 s167 s168 s169 s170 s171 s172 s173 s174 s175 s176 s177 s178 s179 s180 s181 s182 s183 s184 s185 s186 s187 s188 s189 s190 s191 s192 s193 s194 s195 s196 s197 s198 s199 s200 s201 s202 s203 s204 s205 s206 s207 s208 s209 s210 s211 s212 s213 s214 s215 s216 s217 s218 s219 s220 s221 s222 s223 s224 s225 s226 s227 s228 s229 s230 s231 s232 s233 s234 s235 s236 s237 s238 s239 s240 s241 s242 s243 s244 s245 s246 s247 s248 s249 s250 s251 s252 s253 s254 s255 s256 s257 s258 s259 s260 s261 s262 s263 s264 s265 s266 s267 s268 s269 s270 s271 s272 s273 s274 s275 s276 s277 s278 s279 s280 s281 s282 s283 s284 s285 s286 s287 s288 s289 s290 s291 s292 s293 s294 s295 s296 s297 s298 s299 s300 s301 s302 s303 s304 s305 s306 s307 s308 s309 s310 s311 s312 s313 s314 s315 s316 s317 s318 s319 s320 s321 s322 s323 s324 s325 s326 s327 s328 s329 s330 s331 s332 s333 s334 s335 s336 s337 s338 s339 s340 s341 s342 s343 s344 s345 s346 s347 s348 s349 s350 s351 s352 s353 s354 s355 s356 s357 s358 s359 s360 s361 s362 s363 s364 s365 s366 s367 s368 s369 s370 s371 s372 s373 s374 s375 s376 s377 s378 s379 s380 s381 s382 s383 s384 s385 s386 s387 s388 s389 s390 s391 s392 s393 s394 s395 s396 s397 s398 s399 s400 s401 s402 s403 s404 s405 s406 s407 s408 s409 s410 s411 s412 s413 s414 s415 s416 s417 s418 s419 s420 s421 s422 s423 s424 : Value} {Q : Exit → Act → World → Prop} {w w1 wq : World} {a : Option Addr} {pw p q pc pq s nb rp rq rb n o c : Nat} {l : List S5} (HL : Hid (L5 w a l)) (hb1 : Below w.heap.size w w1) (hlen : ¬ 200 < l.length) (_hn0 : n ≤ 256)
    (hW : Wx w1 wq pw p q pc pq s nb rp rq rb n o 0 0 (List.replicate (n + o) 0) [] (tw 2 12) 0 0 (List.replicate (n + o) 0) [] (tw 2 12) (.slice none 0 0)) (hI : WInv n 0 0 (List.replicate (n + o) 0) [] [] (tw 2 12))
    (hQ : ∀ (a : Act) (w' : World), a.tmps.getD 6 undef = .bool true → a.defers = [] → Below w.heap.size w w' → Q .ret a w') :
    Code.wp Try.prog ((find 15 (Try.f4.body.getD .skip)).getD .skip) Q ⟨#[.int .i64 (n : Int), s1, .slice a l.length c, s3, s4, s5, s6, .pointer (some ⟨pw, 0, none⟩), s8, s9, .pointer (some ⟨rp, 0, none⟩), .slice (some ⟨rb, 0, none⟩) 12 12, s12, s13, s14, s15, s16, s17, s18, s19, s20, s21, s22, s23, s24, s25, s26, s27, s28, s29, s30, s31, s32, s33, s34, s35, s36, s37, s38, s39, s40, s41, s42, s43, s44, s45, s46, s47, s48, s49, s50, s51, s52, s53, s54, s55, s56, s57, s58, s59, s60, s61, s62, s63, s64, s65, s66, s67, s68, s69, s70, s71, s72, s73, s74, s75, s76, s77, s78, s79, s80, s81, s82, s83, s84, s85, s86, s87, s88, s89, s90, s91, s92, s93, s94, s95, s96, s97, s98, s99, s100, s101, s102, s103, s104, s105, s106, s107, s108, s109, s110, s111, s112, s113, s114, s115, s116, s117, s118, s119, s120, s121, s122, s123, s124, s125, s126, s127, s128, s129, s130, s131, s132, s133, s134, s135, s136, s137, s138, s139, s140, s141, s142, s143, s144, s145, s146, s147, s148, s149, s150, s151, s152, s153, s154, s155, s156, s157, s158, s159, s160, s161, s162, s163, s164, s165, s166, s167, s168, s169, s170, s171, s172, s173, s174, s175, s176, s177, s178, s179, s180, s181, s182, s183, s184, s185, s186, s187, s188, s189, s190, s191, s192, s193, s194, s195, s196, s197, s198, s199, s200, s201, s202, s203, s204, s205, s206, s207, s208, s209, s210, s211, s212, s213, s214, s215, s216, s217, s218, s219, s220, s221, s222, s223, s224, s225, s226, s227, s228, s229, s230, s231, s232, s233, s234, s235, s236, s237, s238, s239, s240, s241, s242, s243, s244, s245, s246, s247, s248, s249, s250, s251, s252, s253, s254, s255, s256, s257, s258, s259, s260, s261, s262, s263, s264, s265, s266, s267, s268, s269, s270, s271, s272, s273, s274, s275, s276, s277, s278, s279, s280, s281, s282, s283, s284, s285, s286, s287, s288, s289, s290, s291, s292, s293, s294, s295, s296, s297, s298, s299, s300, s301, s302, s303, s304, s305, s306, s307, s308, s309, s310, s311, s312, s313, s314, s315, s316, s317, s318, s319, s320, s321, s322, s323, s324, s325, s326, s327, s328, s329, s330, s331, s332, s333, s334, s335, s336, s337, s338, s339, s340, s341, s342, s343, s344, s345, s346, s347, s348, s349, s350, s351, s352, s353, s354, s355, s356, s357, s358, s359, s360, s361, s362, s363, s364, s365, s366, s367, s368, s369, s370, s371, s372, s373, s374, s375, s376, s377, s378, s379, s380, s381, s382, s383, s384, s385, s386, s387, s388, s389, s390, s391, s392, s393, s394, s395, s396, s397, s398, s399, s400, s401, s402, s403, s404, s405, s406, s407, s408, s409, s410, s411, s412, s413, s414, s415, s416, s417, s418, s419, s420, s421, s422, s423, s424], []⟩ wq := by
  conv => arg 2; whnf
  have HQ : Hid (∀ (a : Act) (w' : World), a.tmps.getD 6 undef = .bool true → a.defers = [] → Below w.heap.size w w' → Q .ret a w') := hQ
  have HW0 : Hid (_) := hW
  have HI0 : Hid (_) := hI
  clear hQ hW hI
  go_wp2_with fail
  go_loopw [13, 14] (fun dv iv wr => ∃ (j y g dc : Nat) (ws M rs Y G : List Int) (da : Option Addr), j ≤ l.length ∧ iv = .int .i64 j ∧ dv = .slice da M.length dc ∧ Hid (Wx w1 wr pw p q pc pq s nb rp rq rb n o y g ws M rs y g ws M rs (.slice da M.length dc)) ∧ Hid (WInv n y g ws Y G rs) ∧ M.length ≤ j) (fun _ iv _ => l.length - (intOf iv).toNat)
  case atStart => exact ⟨0, 0, 0, 0, _, [], _, [], [], none, Nat.zero_le _, rfl, rfl, HW0, HI0, Nat.zero_le _⟩
  case round =>
    clear HW0 HI0
    obtain ⟨j, y, g, dc, ws, M, rs, Y, G, da, hj, rfl, rfl, H, HI, hMj⟩ := hrel
    by_cases hlt : j < l.length
    · obtain ⟨b0, o0, e0, l0, hc⟩ := HL.out (by omega)
      obtain ⟨⟨x1, x2, x3, x4, x5⟩, i1, i2⟩ := hc j hlt
      subst e0
      clear hc
      have hbw := hb1.trans (H.out.bel.mono hb1.size)
      have y1 := (hbw.cell (p := ⟨b0, o0 + j * 5, none⟩) l0).trans x1
      have y2 := (hbw.cell (p := ⟨b0, o0 + j * 5 + 1, none⟩) l0).trans x2
      have y3 := (hbw.cell (p := ⟨b0, o0 + j * 5 + 2, none⟩) l0).trans x3
      have y4 := (hbw.cell (p := ⟨b0, o0 + j * 5 + 3, none⟩) l0).trans x4
      have y5 := (hbw.cell (p := ⟨b0, o0 + j * 5 + 4, none⟩) l0).trans x5
      clear x1 x2 x3 x4 x5 hbw l0
      generalize (l.getD j (0, 0, 0, 0, 0)).1 = d at *
      generalize (l.getD j (0, 0, 0, 0, 0)).2.1 = A at *
      generalize (l.getD j (0, 0, 0, 0, 0)).2.2.1 = F at *
      generalize (l.getD j (0, 0, 0, 0, 0)).2.2.2.1 = C at *
      generalize (l.getD j (0, 0, 0, 0, 0)).2.2.2.2 = X at *
      have j0 : (0 : Int) ≤ (j : Int) := by omega
      have j1 : (j : Int) < (l.length : Int) := by omega
      unfold I64 at i1 i2
      have hba := (Below.refl wr.heap.size wr).alloc (Nat.le_refl _) (.cells #[.int .i64 d, .int .i64 A, .int .i64 F, .int .i64 C, .int .i64 X] 52)
      have H4 : Hid (Wx w1 _ pw p q pc pq s nb rp rq rb n o y g ws M rs y g ws M rs (.slice da M.length dc)) := H.out.below hba
      have HX4 : Hid (_ = _) := heap_alloc_new wr (.cells #[.int .i64 d, .int .i64 A, .int .i64 F, .int .i64 C, .int .i64 X] 52)
      clear H hba
      go_upto_region 20 with fail
      generalize wr.alloc (.cells #[.int .i64 d, .int .i64 A, .int .i64 F, .int .i64 C, .int .i64 X] 52) = w4 at *
      generalize wr.heap.size = xb at *
      obtain ⟨z0, z1, z2, z3, _⟩ := cellx HX4.out
      clear y1 y2 y3 y4 y5
      go_quiet (fail)
      obtain ⟨ka, hka, lka⟩ := root_num A
      obtain ⟨kc, hkc, lkc⟩ := root_num C
      rw [hka, hkc]
      have hbd := below_drewN (Below.refl w4.heap.size w4) nq
      have H5' : Hid (Wx w1 _ pw p q pc pq s nb rp rq rb n o y g ws M rs y g ws M rs (.slice da M.length dc)) := H4.out.below hbd
      have HX5 : Hid (_ = _) := (hbd.block xb (lt_of_some HX4.out)).trans HX4.out
      clear z0 z1 z2 z3 H4 HX4 hka hkc hbd i1 i2
      generalize w4.drewN nq = w5' at *
      iterate 3 go_step
      refine sw_any H5'.out HI.out HX5.out lka lkc (by omega) ?_ ?_
      · intro v18 v19 v20 v21 v22 v23 v24 v25 v26 v27 v28 v29 v30 v31 v32 v33 v34 v101 v102 v103 v104 v105 v106 v107 v108 v109 v110 v111 v112 v113 v114 v115 v116 v117 v118 v119 v120 v121 v122 v123 v124 v125 v126 v127 v128 v129 v130 v131 v132 v133 v134 v135 v136 v137 v138 v139 v140 v141 v142 v143 v144 v145 v146 v147 v148 v149 v150 v151 v152 v153 v154 v155 v156 v157 v158 v159 v160 v161 v162 v163 v164 v165 v166 v167 v168 v169 v170 v171 v172 v173 v174 v175 v176 v177 v178 v179 v180 v181 v182 v183 v184 v185 v186 v187 v188 v189 v190 v191 v192 v193 v194 v195 v196 v197 v198 v199 v200 v201 v202 v203 v204 v205 v206 v207 v208 v209 v210 v211 v212 v213 v214 v215 v216 v217 v218 v219 v220 v221 v222 v223 v224 v225 v226 v227 v228 v229 v230 v231 v232 v233 v234 v235 v236 v237 v238 v239 v240 v241 v242 v243 v244 v245 v246 v247 v248 v249 v250 v251 v252 v253 v254 v255 v256 v257 v258 v259 v260 v261 v262 v263 v264 v265 v266 v267 v268 v269 v270 v271 v272 v273 v274 v275 v276 v277 v278 v279 v280 v281 v282 v283 v284 v285 v286 v287 v288 v289 v290 v291 v292 v293 v294 v295 v296 v297 v298 v299 v300 v301 v302 v303 v304 v305 v306 v307 v308 v309 v310 v311 v312 v313 v314 v315 v316 v317 v318 v319 v320 v321 v322 v323 v324 v325 v326 v327 v328 v329 v330 v331 v332 v333 v334 v335 v336 v337 v338 v339 v340 v341 v342 v343 v344 v345 v346 v347 v348 v349 v350 v351 v352 v353 v354 v355 v356 v357 v358 v359 v360 v361 v362 v363 y' g' ws' M' rs' Y' G' da' dc' w' hW' hI' hX' hM'
        have HW' : Hid (_) := hW'
        have HI' : Hid (_) := hI'
        clear hW' hI' hX' H5' HX5 HI
        as_aux_lemma =>
        go_step
        go_step
        refine tail_wp HW'.out HI'.out lka ?_
        intro v35 v36 v37 v38 v39 v40 v41 v42 v364 v365 v366 v367 v368 v369 v370 v371 v372 v373 v374 v375 v376 v377 v378 v379 v380 v381 v382 v383 v384 v385 v386 v387 v388 v389 v390 v391 v392 v393 v394 v395 v396 v397 v398 v399 v400 v401 v402 v403 v404 v405 v406 v407 v408 v409 v410 v411 v412 v413 v414 v415 v416 v417 v418 v419 v420 v421 v422 v423 v424 w'' hb''
        as_aux_lemma =>
        have HW'' : Hid (Wx w1 w'' pw p q pc pq s nb rp rq rb n o y' g' ws' M' rs' y' g' ws' M' rs' (.slice da' M'.length dc')) := HW'.out.below hb''
        clear HW' hb''
        go_wp2_with fail
        go_roundw
        case rel => exact ⟨j + 1, y', g', dc', ws', M', rs', Y', G', da', by omega, by go_num, rfl, HW'', HI', by omega⟩
        case measure => simp [intOf]; omega
      · intro v18 v19 v20 v21 v22 v23 v24 v25 v26 v27 v28 v29 v30 v31 v32 v33 v34 v101 v102 v103 v104 v105 v106 v107 v108 v109 v110 v111 v112 v113 v114 v115 v116 v117 v118 v119 v120 v121 v122 v123 v124 v125 v126 v127 v128 v129 v130 v131 v132 v133 v134 v135 v136 v137 v138 v139 v140 v141 v142 v143 v144 v145 v146 v147 v148 v149 v150 v151 v152 v153 v154 v155 v156 v157 v158 v159 v160 v161 v162 v163 v164 v165 v166 v167 v168 v169 v170 v171 v172 v173 v174 v175 v176 v177 v178 v179 v180 v181 v182 v183 v184 v185 v186 v187 v188 v189 v190 v191 v192 v193 v194 v195 v196 v197 v198 v199 v200 v201 v202 v203 v204 v205 v206 v207 v208 v209 v210 v211 v212 v213 v214 v215 v216 v217 v218 v219 v220 v221 v222 v223 v224 v225 v226 v227 v228 v229 v230 v231 v232 v233 v234 v235 v236 v237 v238 v239 v240 v241 v242 v243 v244 v245 v246 v247 v248 v249 v250 v251 v252 v253 v254 v255 v256 v257 v258 v259 v260 v261 v262 v263 v264 v265 v266 v267 v268 v269 v270 v271 v272 v273 v274 v275 v276 v277 v278 v279 v280 v281 v282 v283 v284 v285 v286 v287 v288 v289 v290 v291 v292 v293 v294 v295 v296 v297 v298 v299 v300 v301 v302 v303 v304 v305 v306 v307 v308 v309 v310 v311 v312 v313 v314 v315 v316 v317 v318 v319 v320 v321 v322 v323 v324 v325 v326 v327 v328 v329 v330 v331 v332 v333 v334 v335 v336 v337 v338 v339 v340 v341 v342 v343 v344 v345 v346 v347 v348 v349 v350 v351 v352 v353 v354 v355 v356 v357 v358 v359 v360 v361 v362 v363 y' g' ws' M' rs' Y' G' da' dc' w' hW' hI' hX' hM'
        have HW' : Hid (_) := hW'
        have HI' : Hid (_) := hI'
        clear hW' hI' hX' H5' HX5 HI
        as_aux_lemma =>
        go_wp2_with fail
        go_roundw
        case rel => exact ⟨j + 1, y', g', dc', ws', M', rs', Y', G', da', by omega, by go_num, rfl, HW', HI', by omega⟩
        case measure => simp [intOf]; omega
    · obtain rfl : j = l.length := by omega
      have hfin : Below w.heap.size w wr := hb1.trans (H.out.bel.mono hb1.size)
      go_wp2_with fail
      exact HQ.out _ _ rfl rfl hfin

end Go.Proofs.Ytglddgjljohkiab.WDo
