/- WoodDoes: its switch: a field that there is not is set. -/
import Derived.Test.YtglddgjljohkiabWd9
namespace Go.Proofs.Ytglddgjljohkiab.WDo
open Go.RowKit W Kp Stl

set_option maxRecDepth 100000 in
set_option maxHeartbeats 8000000 in
theorem case2n_wp {s1 s2 s3 s4 s5 s6 s8 s9 s12 s14 s18 s19 s20 s21 s22 s23 s24 s25 s26 s27 s28 s29 s30 s31 s32 s33 s34 s35 s36 s37 s38 s39 s40 s41 s42 s43 s44 s45 s46 s47 s48 s49 s50 s51 s52 s53 s54 s55 s56 s57 s58 s59 s60 s61 s62 s63 s64 s65 s66 s67 s68 s69 s70 s71 s72 s73 s74 s75 s76 s77 s78 s79 s80 s81 s82 s83 s84 s85 s86 s87 s88 s89 s90 s91 s92 s93 s94 s95 s96 s97 s98 s99 s100 s101 s102 s103 s104 s105 s106 s107 s108 s109 s110 s111 s112 s113 s114 s115 s116 s117 s118 s119 s120 s121 s122 s123 s124 s125 s126 s127 s128 s129 s130 s131 s132 s133 s134 s135 s136 s137 s138 s139 s140 s141 s142 s143 s144 s145 s146 s147 s148 s149 s150 s151 s152 s153 s154 s155 s156 s157 s158 s159 s160 s161 s162 s163 s164 s165 s166 s167 s168 s169 s170 s171 s172 s173 s174 s175 s176 s177 s178 s179 s180 s181 s182 s183 s184 s185 s186 s187 s188 s189 s190 s191 s192 s193 s194 s195 s196 s197 s198 s199 s200 s201 s202 s203 s204 s205 s206 s207 s208 s209 s210 s211 s212 s213 s214 s215 s216 s217 s218 s219 s220 s221 s222 s223 s224 s225 s226 s227 s228 s229 s230 s231 s232 s233 s234 s235 s236 s237 s238 s239 s240 s241 s242 s243 s244 s245 s246 s247 s248 s249 s250 s251 s252 s253 s254 s255 s256 s257 s258 s259 s260 s261 s262 s263 s264 s265 s266 s267 s268 s269 s270 s271 s272 s273 s274 s275 s276 s277 s278 s279 s280 s281 s282 s283 s284 s285 s286 s287 s288 s289 s290 s291 s292 s293 s294 s295 s296 s297 s298 s299 s300 s301 s302 s303 s304 s305 s306 s307 s308 s309 s310 s311 s312 s313 s314 s315 s316 s317 s318 s319 s320 s321 s322 s323 s324 s325 s326 s327 s328 s329 s330 s331 s332 s333 s334 s335 s336 s337 s338 s339 s340 s341 s342 s343 s344 s345 s346 s347 s348 s349 s350 s351 s352 s353 s354 s355 s356 s357 s358 s359 s360 s361 s362 s363 s364 s365 s366 s367 s368 s369 s370 s371 s372 s373 s374 s375 s376 s377 s378 s379 s380 s381 s382 s383 s384 s385 s386 s387 s388 s389 s390 s391 s392 s393 s394 s395 s396 s397 s398 s399 s400 s401 s402 s403 s404 s405 s406 s407 s408 s409 s410 s411 s412 s413 s414 s415 s416 s417 s418 s419 s420 s421 s422 s423 s424 : Value} {Q : Exit → Act → World → Prop} {w1 w : World} {pw p q pc pq sd nb rp rq rb N O y g xb ka kc dc : Nat} {ws M rs Y G : List Int} {da : Option Addr} {A F C X : Int} (h : Wx w1 w pw p q pc pq sd nb rp rq rb N O y g ws M rs y g ws M rs (.slice da M.length dc)) (hi : WInv N y g ws Y G rs)
    (hx : w.heap[xb]? = some (.cells #[.int .i64 2, .int .i64 A, .int .i64 F, .int .i64 C, .int .i64 X] 52 (0, 0))) (lka : ka < 12) (lkc : kc < 12) (_hM : M.length ≤ 200)
    (hne : fcC N y g ws (rs.getD ka 0) F ≠ 0)
    (hQ : ∀ (v18 v19 v20 v21 v22 v23 v24 v25 v26 v27 v28 v29 v30 v31 v32 v33 v34 v101 v102 v103 v104 v105 v106 v107 v108 v109 v110 v111 v112 v113 v114 v115 v116 v117 v118 v119 v120 v121 v122 v123 v124 v125 v126 v127 v128 v129 v130 v131 v132 v133 v134 v135 v136 v137 v138 v139 v140 v141 v142 v143 v144 v145 v146 v147 v148 v149 v150 v151 v152 v153 v154 v155 v156 v157 v158 v159 v160 v161 v162 v163 v164 v165 v166 v167 v168 v169 v170 v171 v172 v173 v174 v175 v176 v177 v178 v179 v180 v181 v182 v183 v184 v185 v186 v187 v188 v189 v190 v191 v192 v193 v194 v195 v196 v197 v198 v199 v200 v201 v202 v203 v204 v205 v206 v207 v208 v209 v210 v211 v212 v213 v214 v215 v216 v217 v218 v219 v220 v221 v222 v223 v224 v225 v226 v227 v228 v229 v230 v231 v232 v233 v234 v235 v236 v237 v238 v239 v240 v241 v242 v243 v244 v245 v246 v247 v248 v249 v250 v251 v252 v253 v254 v255 v256 v257 v258 v259 v260 v261 v262 v263 v264 v265 v266 v267 v268 v269 v270 v271 v272 v273 v274 v275 v276 v277 v278 v279 v280 v281 v282 v283 v284 v285 v286 v287 v288 v289 v290 v291 v292 v293 v294 v295 v296 v297 v298 v299 v300 v301 v302 v303 v304 v305 v306 v307 v308 v309 v310 v311 v312 v313 v314 v315 v316 v317 v318 v319 v320 v321 v322 v323 v324 v325 v326 v327 v328 v329 v330 v331 v332 v333 v334 v335 v336 v337 v338 v339 v340 v341 v342 v343 v344 v345 v346 v347 v348 v349 v350 v351 v352 v353 v354 v355 v356 v357 v358 v359 v360 v361 v362 v363 : Value) (y' g' : Nat) (ws' M' rs' Y' G' : List Int) (da' : Option Addr) (dc' : Nat) (w' : World), Wx w1 w' pw p q pc pq sd nb rp rq rb N O y' g' ws' M' rs' y' g' ws' M' rs' (.slice da' M'.length dc') → WInv N y' g' ws' Y' G' rs' → w'.heap[xb]? = some (.cells #[.int .i64 2, .int .i64 A, .int .i64 F, .int .i64 C, .int .i64 X] 52 (0, 0)) → M'.length ≤ M.length + 1 → Q .normal ⟨#[.int .i64 N, s1, s2, s3, s4, s5, s6, .pointer (some ⟨pw, 0, none⟩), s8, s9, .pointer (some ⟨rp, 0, none⟩), .slice (some ⟨rb, 0, none⟩) 12 12, s12, .slice da' M'.length dc', s14, .pointer (some ⟨xb, 0, none⟩), .int .i64 (ka : Int), .int .i64 (kc : Int), v18, v19, v20, v21, v22, v23, v24, v25, v26, v27, v28, v29, v30, v31, v32, v33, v34, s35, s36, s37, s38, s39, s40, s41, s42, s43, s44, s45, s46, s47, s48, s49, s50, s51, s52, s53, s54, s55, s56, s57, s58, s59, s60, s61, s62, s63, s64, s65, s66, s67, s68, s69, s70, s71, s72, s73, s74, s75, s76, s77, s78, s79, s80, s81, s82, s83, s84, s85, s86, s87, s88, s89, s90, s91, s92, s93, s94, s95, s96, s97, s98, s99, s100, v101, v102, v103, v104, v105, v106, v107, v108, v109, v110, v111, v112, v113, v114, v115, v116, v117, v118, v119, v120, v121, v122, v123, v124, v125, v126, v127, v128, v129, v130, v131, v132, v133, v134, v135, v136, v137, v138, v139, v140, v141, v142, v143, v144, v145, v146, v147, v148, v149, v150, v151, v152, v153, v154, v155, v156, v157, v158, v159, v160, v161, v162, v163, v164, v165, v166, v167, v168, v169, v170, v171, v172, v173, v174, v175, v176, v177, v178, v179, v180, v181, v182, v183, v184, v185, v186, v187, v188, v189, v190, v191, v192, v193, v194, v195, v196, v197, v198, v199, v200, v201, v202, v203, v204, v205, v206, v207, v208, v209, v210, v211, v212, v213, v214, v215, v216, v217, v218, v219, v220, v221, v222, v223, v224, v225, v226, v227, v228, v229, v230, v231, v232, v233, v234, v235, v236, v237, v238, v239, v240, v241, v242, v243, v244, v245, v246, v247, v248, v249, v250, v251, v252, v253, v254, v255, v256, v257, v258, v259, v260, v261, v262, v263, v264, v265, v266, v267, v268, v269, v270, v271, v272, v273, v274, v275, v276, v277, v278, v279, v280, v281, v282, v283, v284, v285, v286, v287, v288, v289, v290, v291, v292, v293, v294, v295, v296, v297, v298, v299, v300, v301, v302, v303, v304, v305, v306, v307, v308, v309, v310, v311, v312, v313, v314, v315, v316, v317, v318, v319, v320, v321, v322, v323, v324, v325, v326, v327, v328, v329, v330, v331, v332, v333, v334, v335, v336, v337, v338, v339, v340, v341, v342, v343, v344, v345, v346, v347, v348, v349, v350, v351, v352, v353, v354, v355, v356, v357, v358, v359, v360, v361, v362, v363, s364, s365, s366, s367, s368, s369, s370, s371, s372, s373, s374, s375, s376, s377, s378, s379, s380, s381, s382, s383, s384, s385, s386, s387, s388, s389, s390, s391, s392, s393, s394, s395, s396, s397, s398, s399, s400, s401, s402, s403, s404, s405, s406, s407, s408, s409, s410, s411, s412, s413, s414, s415, s416, s417, s418, s419, s420, s421, s422, s423, s424], []⟩ w') :
    Code.wp Try.prog ((findI 21 (Try.f4.body.getD .skip)).getD .skip) Q ⟨#[.int .i64 N, s1, s2, s3, s4, s5, s6, .pointer (some ⟨pw, 0, none⟩), s8, s9, .pointer (some ⟨rp, 0, none⟩), .slice (some ⟨rb, 0, none⟩) 12 12, s12, .slice da M.length dc, s14, .pointer (some ⟨xb, 0, none⟩), .int .i64 (ka : Int), .int .i64 (kc : Int), s18, s19, s20, s21, s22, s23, s24, s25, s26, s27, s28, s29, s30, s31, s32, s33, s34, s35, s36, s37, s38, s39, s40, s41, s42, s43, s44, s45, s46, s47, s48, s49, s50, s51, s52, s53, s54, s55, s56, s57, s58, s59, s60, s61, s62, s63, s64, s65, s66, s67, s68, s69, s70, s71, s72, s73, s74, s75, s76, s77, s78, s79, s80, s81, s82, s83, s84, s85, s86, s87, s88, s89, s90, s91, s92, s93, s94, s95, s96, s97, s98, s99, s100, s101, s102, s103, s104, s105, s106, s107, s108, s109, s110, s111, s112, s113, s114, s115, s116, s117, s118, s119, s120, s121, s122, s123, s124, s125, s126, s127, s128, s129, s130, s131, s132, s133, s134, s135, s136, s137, s138, s139, s140, s141, s142, s143, s144, s145, s146, s147, s148, s149, s150, s151, s152, s153, s154, s155, s156, s157, s158, s159, s160, s161, s162, s163, s164, s165, s166, s167, s168, s169, s170, s171, s172, s173, s174, s175, s176, s177, s178, s179, s180, s181, s182, s183, s184, s185, s186, s187, s188, s189, s190, s191, s192, s193, s194, s195, s196, s197, s198, s199, s200, s201, s202, s203, s204, s205, s206, s207, s208, s209, s210, s211, s212, s213, s214, s215, s216, s217, s218, s219, s220, s221, s222, s223, s224, s225, s226, s227, s228, s229, s230, s231, s232, s233, s234, s235, s236, s237, s238, s239, s240, s241, s242, s243, s244, s245, s246, s247, s248, s249, s250, s251, s252, s253, s254, s255, s256, s257, s258, s259, s260, s261, s262, s263, s264, s265, s266, s267, s268, s269, s270, s271, s272, s273, s274, s275, s276, s277, s278, s279, s280, s281, s282, s283, s284, s285, s286, s287, s288, s289, s290, s291, s292, s293, s294, s295, s296, s297, s298, s299, s300, s301, s302, s303, s304, s305, s306, s307, s308, s309, s310, s311, s312, s313, s314, s315, s316, s317, s318, s319, s320, s321, s322, s323, s324, s325, s326, s327, s328, s329, s330, s331, s332, s333, s334, s335, s336, s337, s338, s339, s340, s341, s342, s343, s344, s345, s346, s347, s348, s349, s350, s351, s352, s353, s354, s355, s356, s357, s358, s359, s360, s361, s362, s363, s364, s365, s366, s367, s368, s369, s370, s371, s372, s373, s374, s375, s376, s377, s378, s379, s380, s381, s382, s383, s384, s385, s386, s387, s388, s389, s390, s391, s392, s393, s394, s395, s396, s397, s398, s399, s400, s401, s402, s403, s404, s405, s406, s407, s408, s409, s410, s411, s412, s413, s414, s415, s416, s417, s418, s419, s420, s421, s422, s423, s424], []⟩ w := by
  conv => arg 2; whnf
  have HQ : Hid (∀ (v18 v19 v20 v21 v22 v23 v24 v25 v26 v27 v28 v29 v30 v31 v32 v33 v34 v101 v102 v103 v104 v105 v106 v107 v108 v109 v110 v111 v112 v113 v114 v115 v116 v117 v118 v119 v120 v121 v122 v123 v124 v125 v126 v127 v128 v129 v130 v131 v132 v133 v134 v135 v136 v137 v138 v139 v140 v141 v142 v143 v144 v145 v146 v147 v148 v149 v150 v151 v152 v153 v154 v155 v156 v157 v158 v159 v160 v161 v162 v163 v164 v165 v166 v167 v168 v169 v170 v171 v172 v173 v174 v175 v176 v177 v178 v179 v180 v181 v182 v183 v184 v185 v186 v187 v188 v189 v190 v191 v192 v193 v194 v195 v196 v197 v198 v199 v200 v201 v202 v203 v204 v205 v206 v207 v208 v209 v210 v211 v212 v213 v214 v215 v216 v217 v218 v219 v220 v221 v222 v223 v224 v225 v226 v227 v228 v229 v230 v231 v232 v233 v234 v235 v236 v237 v238 v239 v240 v241 v242 v243 v244 v245 v246 v247 v248 v249 v250 v251 v252 v253 v254 v255 v256 v257 v258 v259 v260 v261 v262 v263 v264 v265 v266 v267 v268 v269 v270 v271 v272 v273 v274 v275 v276 v277 v278 v279 v280 v281 v282 v283 v284 v285 v286 v287 v288 v289 v290 v291 v292 v293 v294 v295 v296 v297 v298 v299 v300 v301 v302 v303 v304 v305 v306 v307 v308 v309 v310 v311 v312 v313 v314 v315 v316 v317 v318 v319 v320 v321 v322 v323 v324 v325 v326 v327 v328 v329 v330 v331 v332 v333 v334 v335 v336 v337 v338 v339 v340 v341 v342 v343 v344 v345 v346 v347 v348 v349 v350 v351 v352 v353 v354 v355 v356 v357 v358 v359 v360 v361 v362 v363 : Value) (y' g' : Nat) (ws' M' rs' Y' G' : List Int) (da' : Option Addr) (dc' : Nat) (w' : World), Wx w1 w' pw p q pc pq sd nb rp rq rb N O y' g' ws' M' rs' y' g' ws' M' rs' (.slice da' M'.length dc') → WInv N y' g' ws' Y' G' rs' → w'.heap[xb]? = some (.cells #[.int .i64 2, .int .i64 A, .int .i64 F, .int .i64 C, .int .i64 X] 52 (0, 0)) → M'.length ≤ M.length + 1 → Q .normal ⟨#[.int .i64 N, s1, s2, s3, s4, s5, s6, .pointer (some ⟨pw, 0, none⟩), s8, s9, .pointer (some ⟨rp, 0, none⟩), .slice (some ⟨rb, 0, none⟩) 12 12, s12, .slice da' M'.length dc', s14, .pointer (some ⟨xb, 0, none⟩), .int .i64 (ka : Int), .int .i64 (kc : Int), v18, v19, v20, v21, v22, v23, v24, v25, v26, v27, v28, v29, v30, v31, v32, v33, v34, s35, s36, s37, s38, s39, s40, s41, s42, s43, s44, s45, s46, s47, s48, s49, s50, s51, s52, s53, s54, s55, s56, s57, s58, s59, s60, s61, s62, s63, s64, s65, s66, s67, s68, s69, s70, s71, s72, s73, s74, s75, s76, s77, s78, s79, s80, s81, s82, s83, s84, s85, s86, s87, s88, s89, s90, s91, s92, s93, s94, s95, s96, s97, s98, s99, s100, v101, v102, v103, v104, v105, v106, v107, v108, v109, v110, v111, v112, v113, v114, v115, v116, v117, v118, v119, v120, v121, v122, v123, v124, v125, v126, v127, v128, v129, v130, v131, v132, v133, v134, v135, v136, v137, v138, v139, v140, v141, v142, v143, v144, v145, v146, v147, v148, v149, v150, v151, v152, v153, v154, v155, v156, v157, v158, v159, v160, v161, v162, v163, v164, v165, v166, v167, v168, v169, v170, v171, v172, v173, v174, v175, v176, v177, v178, v179, v180, v181, v182, v183, v184, v185, v186, v187, v188, v189, v190, v191, v192, v193, v194, v195, v196, v197, v198, v199, v200, v201, v202, v203, v204, v205, v206, v207, v208, v209, v210, v211, v212, v213, v214, v215, v216, v217, v218, v219, v220, v221, v222, v223, v224, v225, v226, v227, v228, v229, v230, v231, v232, v233, v234, v235, v236, v237, v238, v239, v240, v241, v242, v243, v244, v245, v246, v247, v248, v249, v250, v251, v252, v253, v254, v255, v256, v257, v258, v259, v260, v261, v262, v263, v264, v265, v266, v267, v268, v269, v270, v271, v272, v273, v274, v275, v276, v277, v278, v279, v280, v281, v282, v283, v284, v285, v286, v287, v288, v289, v290, v291, v292, v293, v294, v295, v296, v297, v298, v299, v300, v301, v302, v303, v304, v305, v306, v307, v308, v309, v310, v311, v312, v313, v314, v315, v316, v317, v318, v319, v320, v321, v322, v323, v324, v325, v326, v327, v328, v329, v330, v331, v332, v333, v334, v335, v336, v337, v338, v339, v340, v341, v342, v343, v344, v345, v346, v347, v348, v349, v350, v351, v352, v353, v354, v355, v356, v357, v358, v359, v360, v361, v362, v363, s364, s365, s366, s367, s368, s369, s370, s371, s372, s373, s374, s375, s376, s377, s378, s379, s380, s381, s382, s383, s384, s385, s386, s387, s388, s389, s390, s391, s392, s393, s394, s395, s396, s397, s398, s399, s400, s401, s402, s403, s404, s405, s406, s407, s408, s409, s410, s411, s412, s413, s414, s415, s416, s417, s418, s419, s420, s421, s422, s423, s424], []⟩ w') := hQ
  have H : Hid (Wx w1 w pw p q pc pq sd nb rp rq rb N O y g ws M rs y g ws M rs (.slice da M.length dc)) := h
  have HX : Hid (w.heap[xb]? = some (.cells #[.int .i64 2, .int .i64 A, .int .i64 F, .int .i64 C, .int .i64 X] 52 (0, 0))) := hx
  have HI : Hid (WInv N y g ws Y G rs) := hi
  obtain ⟨z0, z1, z2, z3, z4⟩ := cellx hx
  obtain ⟨c0, c1, c3, cr⟩ := h.cells
  have k1 := h.wf.wod.ar.hN'
  have k2 := h.wf.wod.ar.hy
  have k3 := h.wf.wod.ar.hO
  have k4 := h.wf.wod.ar.hg
  have k5 := h.wf.wod.ar.hl
  have lpw := h.wf.cells.2.2.2.1
  have lnb := h.wf.cells.2.2.2.2
  have lrb := lt_of_some h.rx.rts
  have lrp := h.rx.rm.ltp
  have lrq := h.rx.rm.ltq
  have lxb := lt_of_some hx
  have npn := h.wf.apart.2.2.1
  have hrl := h.wf.rl
  have nbx := h.box hx
  have xnb : xb ≠ nb := fun e => nbx.1 (Or.inr (Or.inr (Or.inr (Or.inr (Or.inr (Or.inr e))))))
  have xrb : xb ≠ rb := fun e => nbx.2 (Or.inr (Or.inr (Or.inl e)))
  have xrq : xb ≠ rq := fun e => nbx.2 (Or.inr (Or.inl e))
  have prb : pw ≠ rb := fun e => h.dj pw (Or.inl rfl) (Or.inr (Or.inr (Or.inl e)))
  have nrb : nb ≠ rb := fun e => h.dj nb (Or.inr (Or.inr (Or.inr (Or.inr (Or.inr (Or.inr rfl)))))) (Or.inr (Or.inr (Or.inl e)))
  have ka0 : (0 : Int) ≤ (ka : Int) := by omega
  have ka1 : (ka : Int) < 12 := by omega
  have kc0 : (0 : Int) ≤ (kc : Int) := by omega
  have kc1 : (kc : Int) < 12 := by omega
  have hd := (Below.refl w.heap.size w).drew
  clear hQ h hx hi nbx
  obtain ⟨ra, _⟩ := H.out.rcR ka lka
  have KA := at_any (rs.getD ka 0) w
  have htb := HI.out.tb (O := O) k1 k2 k3 k4 ka (by omega)
  have hT : Hid (aB (rs.getD ka 0) = true → aV (rs.getD ka 0) ∈ Y ∨ aV (rs.getD ka 0) ∈ G) := fun hb => HI.out.at ka (by omega) hb
  have HR : Hid (∀ w', Wx w1 w' pw p q pc pq sd nb rp rq rb N O y g ws M rs y g ws M rs (.slice da M.length dc) → w'.cell? ⟨nb, ka, none⟩ = some (.int .i64 (rs.getD ka 0))) := fun w' h => (h.rcW ka lka).1
  have HR2 : Hid (∀ w' ws' M', Wx w1 w' pw p q pc pq sd nb rp rq rb N O y g ws' M' rs y g ws M rs (.slice da M.length dc) → w'.cell? ⟨nb, ka, none⟩ = some (.int .i64 (rs.getD ka 0)) ∧ w'.cell? ⟨nb, kc, none⟩ = some (.int .i64 (rs.getD kc 0))) := fun w' ws' M' h => ⟨(h.rcW ka lka).1, (h.rcW kc lkc).1⟩
  clear HR
  generalize rs.getD kc 0 = xc at *
  generalize rs.getD ka 0 = xa at *
  cases hb : aB xa
  · rw [hb] at KA htb
    have hcd := fc_n (i := F) htb
    clear hT htb hb
    go_wp2_with fail
    refine KA.mono ?_
    clear KA
    rintro e w5 ⟨rfl, hb5⟩
    dsimp only
    have H5 : Hid (Wx w1 w5 pw p q pc pq sd nb rp rq rb N O y g ws M rs y g ws M rs (.slice da M.length dc)) := H.out.below hb5
    have HX5 : Hid (w5.heap[xb]? = some (.cells #[.int .i64 2, .int .i64 A, .int .i64 F, .int .i64 C, .int .i64 X] 52 (0, 0))) := (hb5.block xb lxb).trans HX.out
    clear z0 z1 z2 z3 z4 c0 c1 c3 cr hd hb5
    clear ra
    obtain ⟨q0, _, q2, _, _⟩ := cellx HX5.out
    obtain ⟨_, _, d3, _⟩ := H5.out.cells
    obtain ⟨y0, _, y2, _, _⟩ := cellx HX5.out
    obtain ⟨rA, rC⟩ := HR2.out _ _ _ H5.out
    have hdW := (Below.refl w5.heap.size w5).drew
    have P := set_any (w := w5.drew) xa F xc (H5.out.below hdW).wf.wod (by omega)
    have hno : fcC N y g ws xa F ≠ 0 := by rw [hcd]; decide
    rw [hcd, (fc_no (z := xc) (c := nC O) (M := M) hno).1, (fc_no (z := xc) (c := nC O) (M := M) hno).2] at P
    clear hno
    go_upto_region 52 with fail
    refine wp_region_noPanic ?_
    go_region_held3 (fun w' => w'.cell? ⟨pw, 3, none⟩ = some (.slice (some ⟨nb, 0, none⟩) 12 12) ∧ w'.cell? ⟨nb, ka, none⟩ = some (.int .i64 xa) ∧ w'.cell? ⟨nb, kc, none⟩ = some (.int .i64 xc) ∧ w'.cell? ⟨xb, 2, none⟩ = some (.int .i64 F)) (first | exact ⟨d3, rA, rC, y2⟩ | exact ⟨u0, u1.1, u1.2, u2⟩ | go_keep)
      (first | (go_at_call 27; refine P.mono ?_; rintro e w7 ⟨rfl, hw7, f7⟩; dsimp only; have H7 : Hid (Wx w1 w7 pw p q pc pq sd nb rp rq rb N O y g ws M rs y g ws M rs (.slice da M.length dc)) := (H5.out.below hdW).wood ((H5.out.below hdW).wf.turn hw7 f7) f7 (fun _ e => four e); have HX7 : Hid (w7.heap[xb]? = some (.cells #[.int .i64 2, .int .i64 A, .int .i64 F, .int .i64 C, .int .i64 X] 52 (0, 0))) := box_w (H5.out.below hdW) ((hdW.block xb (lt_of_some HX5.out)).trans HX5.out) f7 (fun _ e => Or.inl (four e)); obtain ⟨_, _, u2, _, _⟩ := cellx HX7.out; have u0 := H7.out.cells.2.2.1; have u1 := HR2.out _ _ _ H7.out; clear hw7 f7))
    refine NoPanic.normal ?_
    clear P d3 y0 y2 rA rC u1
    clear u0 u2
    go_wp2_with fail
    exact HQ.out _ _ _ _ _ _ _ _ _ _ _ _ _ _ _ _ _ _ _ _ _ _ _ _ _ _ _ _ _ _ _ _ _ _ _ _ _ _ _ _ _ _ _ _ _ _ _ _ _ _ _ _ _ _ _ _ _ _ _ _ _ _ _ _ _ _ _ _ _ _ _ _ _ _ _ _ _ _ _ _ _ _ _ _ _ _ _ _ _ _ _ _ _ _ _ _ _ _ _ _ _ _ _ _ _ _ _ _ _ _ _ _ _ _ _ _ _ _ _ _ _ _ _ _ _ _ _ _ _ _ _ _ _ _ _ _ _ _ _ _ _ _ _ _ _ _ _ _ _ _ _ _ _ _ _ _ _ _ _ _ _ _ _ _ _ _ _ _ _ _ _ _ _ _ _ _ _ _ _ _ _ _ _ _ _ _ _ _ _ _ _ _ _ _ _ _ _ _ _ _ _ _ _ _ _ _ _ _ _ _ _ _ _ _ _ _ _ _ _ _ _ _ _ _ _ _ _ _ _ _ _ _ _ _ _ _ _ _ _ _ _ _ _ _ _ _ _ _ _ _ _ _ _ _ _ _ _ _ _ _ _ _ _ _ _ _ _ _ _ _ _ _ _ _ _ _ _ _ _ _ _ _ _ M _ Y G da dc w7 H7.out HI.out HX7.out (by omega)
  · rw [hb] at KA htb
    have hv : Hid (_) := hT.out hb
    obtain ⟨b1, b2, b3⟩ := HI.out.thing k2 hv.out
    have b4 : aV xa ≤ 1280 := by
      rcases hv.out with c | c
      · have := HI.out.full.iy _ c; omega
      · have := HI.out.full.io _ c; omega
    have PT : Hid (∀ w', Rm w' rp rq N O y g ws → Calls Try.prog 25 #[.pointer (some ⟨rp, 0, none⟩), .int .i64 (aV xa)] w' fun e w'' => e = .returned (.tuple #[.int .i64 (pk (ld N y g ws (aV xa))), .int .i64 (pf (ld N y g ws (aV xa))), .int .i64 0]) ∧ Below w'.heap.size w' w'') := fun w' hr => by
      have := rThing_any (aV xa) w' hr (by omega)
      rw [b1] at this
      exact this
    have hfb := pf_bd (ld N y g ws (aV xa))
    by_cases h5 : pk (ld N y g ws (aV xa)) = 5
    · have hcd := fc_5 (i := F) htb h5
      rw [h5] at PT
      clear hT htb hb h5 b2 b1 hv
      generalize pf (ld N y g ws (aV xa)) = f at PT hfb
      go_wp2_with fail
      refine KA.mono ?_
      clear KA
      rintro e w5 ⟨rfl, hb5⟩
      dsimp only
      have H5 : Hid (Wx w1 w5 pw p q pc pq sd nb rp rq rb N O y g ws M rs y g ws M rs (.slice da M.length dc)) := H.out.below hb5
      have HX5 : Hid (w5.heap[xb]? = some (.cells #[.int .i64 2, .int .i64 A, .int .i64 F, .int .i64 C, .int .i64 X] 52 (0, 0))) := (hb5.block xb lxb).trans HX.out
      clear z0 z1 z2 z3 z4 c0 c1 c3 cr hd hb5
      clear ra
      have y0 := H5.out.cells.2.2.2
      go_wp2_with fail
      refine (PT.out w5 H5.out.rx.rm).mono ?_
      rintro e w6 ⟨rfl, hb6⟩
      dsimp only
      have H6 : Hid (Wx w1 w6 pw p q pc pq sd nb rp rq rb N O y g ws M rs y g ws M rs (.slice da M.length dc)) := H5.out.below hb6
      have HX6 : Hid (w6.heap[xb]? = some (.cells #[.int .i64 2, .int .i64 A, .int .i64 F, .int .i64 C, .int .i64 X] 52 (0, 0))) := (hb6.block xb (lt_of_some HX5.out)).trans HX5.out
      clear hb6 y0 PT
      obtain ⟨q0, _, q2, _, _⟩ := cellx HX6.out
      obtain ⟨_, _, d3, _⟩ := H6.out.cells
      obtain ⟨y0, _, y2, _, _⟩ := cellx HX6.out
      obtain ⟨rA, rC⟩ := HR2.out _ _ _ H6.out
      have hdW := (Below.refl w6.heap.size w6).drew
      have P := set_any (w := w6.drew) xa F xc (H6.out.below hdW).wf.wod (by omega)
      have hno : fcC N y g ws xa F ≠ 0 := by rw [hcd]; decide
      rw [hcd, (fc_no (z := xc) (c := nC O) (M := M) hno).1, (fc_no (z := xc) (c := nC O) (M := M) hno).2] at P
      clear hno
      go_upto_region 52 with fail
      refine wp_region_noPanic ?_
      go_region_held3 (fun w' => w'.cell? ⟨pw, 3, none⟩ = some (.slice (some ⟨nb, 0, none⟩) 12 12) ∧ w'.cell? ⟨nb, ka, none⟩ = some (.int .i64 xa) ∧ w'.cell? ⟨nb, kc, none⟩ = some (.int .i64 xc) ∧ w'.cell? ⟨xb, 2, none⟩ = some (.int .i64 F)) (first | exact ⟨d3, rA, rC, y2⟩ | exact ⟨u0, u1.1, u1.2, u2⟩ | go_keep)
        (first | (go_at_call 27; refine P.mono ?_; rintro e w7 ⟨rfl, hw7, f7⟩; dsimp only; have H7 : Hid (Wx w1 w7 pw p q pc pq sd nb rp rq rb N O y g ws M rs y g ws M rs (.slice da M.length dc)) := (H6.out.below hdW).wood ((H6.out.below hdW).wf.turn hw7 f7) f7 (fun _ e => four e); have HX7 : Hid (w7.heap[xb]? = some (.cells #[.int .i64 2, .int .i64 A, .int .i64 F, .int .i64 C, .int .i64 X] 52 (0, 0))) := box_w (H6.out.below hdW) ((hdW.block xb (lt_of_some HX6.out)).trans HX6.out) f7 (fun _ e => Or.inl (four e)); obtain ⟨_, _, u2, _, _⟩ := cellx HX7.out; have u0 := H7.out.cells.2.2.1; have u1 := HR2.out _ _ _ H7.out; clear hw7 f7))
      refine NoPanic.normal ?_
      clear P d3 y0 y2 rA rC u1
      clear u0 u2
      go_wp2_with fail
      exact HQ.out _ _ _ _ _ _ _ _ _ _ _ _ _ _ _ _ _ _ _ _ _ _ _ _ _ _ _ _ _ _ _ _ _ _ _ _ _ _ _ _ _ _ _ _ _ _ _ _ _ _ _ _ _ _ _ _ _ _ _ _ _ _ _ _ _ _ _ _ _ _ _ _ _ _ _ _ _ _ _ _ _ _ _ _ _ _ _ _ _ _ _ _ _ _ _ _ _ _ _ _ _ _ _ _ _ _ _ _ _ _ _ _ _ _ _ _ _ _ _ _ _ _ _ _ _ _ _ _ _ _ _ _ _ _ _ _ _ _ _ _ _ _ _ _ _ _ _ _ _ _ _ _ _ _ _ _ _ _ _ _ _ _ _ _ _ _ _ _ _ _ _ _ _ _ _ _ _ _ _ _ _ _ _ _ _ _ _ _ _ _ _ _ _ _ _ _ _ _ _ _ _ _ _ _ _ _ _ _ _ _ _ _ _ _ _ _ _ _ _ _ _ _ _ _ _ _ _ _ _ _ _ _ _ _ _ _ _ _ _ _ _ _ _ _ _ _ _ _ _ _ _ _ _ _ _ _ _ _ _ _ _ _ _ _ _ _ _ _ _ _ _ _ _ _ _ _ _ _ _ _ _ _ _ M _ Y G da dc w7 H7.out HI.out HX7.out (by omega)
    · have h5b : (pk (ld N y g ws (aV xa)) == 5) = false := by simpa using h5
      by_cases hr : F < 0
      · have hcd := fc_r (i := F) htb h5 b2 (Or.inl hr)
        clear hT htb hb h5 b2 b1 hv
        generalize pf (ld N y g ws (aV xa)) = f at PT hfb
        generalize pk (ld N y g ws (aV xa)) = kd at PT h5b
        go_wp2_with fail
        refine KA.mono ?_
        clear KA
        rintro e w5 ⟨rfl, hb5⟩
        dsimp only
        have H5 : Hid (Wx w1 w5 pw p q pc pq sd nb rp rq rb N O y g ws M rs y g ws M rs (.slice da M.length dc)) := H.out.below hb5
        have HX5 : Hid (w5.heap[xb]? = some (.cells #[.int .i64 2, .int .i64 A, .int .i64 F, .int .i64 C, .int .i64 X] 52 (0, 0))) := (hb5.block xb lxb).trans HX.out
        clear z0 z1 z2 z3 z4 c0 c1 c3 cr hd hb5
        clear ra
        have y0 := H5.out.cells.2.2.2
        go_wp2_with fail
        refine (PT.out w5 H5.out.rx.rm).mono ?_
        rintro e w6 ⟨rfl, hb6⟩
        dsimp only
        have H6 : Hid (Wx w1 w6 pw p q pc pq sd nb rp rq rb N O y g ws M rs y g ws M rs (.slice da M.length dc)) := H5.out.below hb6
        have HX6 : Hid (w6.heap[xb]? = some (.cells #[.int .i64 2, .int .i64 A, .int .i64 F, .int .i64 C, .int .i64 X] 52 (0, 0))) := (hb6.block xb (lt_of_some HX5.out)).trans HX5.out
        clear hb6 y0 PT
        obtain ⟨q0, _, q2, _, _⟩ := cellx HX6.out
        obtain ⟨_, _, d3, _⟩ := H6.out.cells
        obtain ⟨y0, _, y2, _, _⟩ := cellx HX6.out
        obtain ⟨rA, rC⟩ := HR2.out _ _ _ H6.out
        have hdW := (Below.refl w6.heap.size w6).drew
        have P := set_any (w := w6.drew) xa F xc (H6.out.below hdW).wf.wod (by omega)
        have hno : fcC N y g ws xa F ≠ 0 := by rw [hcd]; decide
        rw [hcd, (fc_no (z := xc) (c := nC O) (M := M) hno).1, (fc_no (z := xc) (c := nC O) (M := M) hno).2] at P
        clear hno
        go_upto_region 52 with fail
        refine wp_region_noPanic ?_
        go_region_held3 (fun w' => w'.cell? ⟨pw, 3, none⟩ = some (.slice (some ⟨nb, 0, none⟩) 12 12) ∧ w'.cell? ⟨nb, ka, none⟩ = some (.int .i64 xa) ∧ w'.cell? ⟨nb, kc, none⟩ = some (.int .i64 xc) ∧ w'.cell? ⟨xb, 2, none⟩ = some (.int .i64 F)) (first | exact ⟨d3, rA, rC, y2⟩ | exact ⟨u0, u1.1, u1.2, u2⟩ | go_keep)
          (first | (go_at_call 27; refine P.mono ?_; rintro e w7 ⟨rfl, hw7, f7⟩; dsimp only; have H7 : Hid (Wx w1 w7 pw p q pc pq sd nb rp rq rb N O y g ws M rs y g ws M rs (.slice da M.length dc)) := (H6.out.below hdW).wood ((H6.out.below hdW).wf.turn hw7 f7) f7 (fun _ e => four e); have HX7 : Hid (w7.heap[xb]? = some (.cells #[.int .i64 2, .int .i64 A, .int .i64 F, .int .i64 C, .int .i64 X] 52 (0, 0))) := box_w (H6.out.below hdW) ((hdW.block xb (lt_of_some HX6.out)).trans HX6.out) f7 (fun _ e => Or.inl (four e)); obtain ⟨_, _, u2, _, _⟩ := cellx HX7.out; have u0 := H7.out.cells.2.2.1; have u1 := HR2.out _ _ _ H7.out; clear hw7 f7))
        refine NoPanic.normal ?_
        clear P d3 y0 y2 rA rC u1
        clear u0 u2
        go_wp2_with fail
        exact HQ.out _ _ _ _ _ _ _ _ _ _ _ _ _ _ _ _ _ _ _ _ _ _ _ _ _ _ _ _ _ _ _ _ _ _ _ _ _ _ _ _ _ _ _ _ _ _ _ _ _ _ _ _ _ _ _ _ _ _ _ _ _ _ _ _ _ _ _ _ _ _ _ _ _ _ _ _ _ _ _ _ _ _ _ _ _ _ _ _ _ _ _ _ _ _ _ _ _ _ _ _ _ _ _ _ _ _ _ _ _ _ _ _ _ _ _ _ _ _ _ _ _ _ _ _ _ _ _ _ _ _ _ _ _ _ _ _ _ _ _ _ _ _ _ _ _ _ _ _ _ _ _ _ _ _ _ _ _ _ _ _ _ _ _ _ _ _ _ _ _ _ _ _ _ _ _ _ _ _ _ _ _ _ _ _ _ _ _ _ _ _ _ _ _ _ _ _ _ _ _ _ _ _ _ _ _ _ _ _ _ _ _ _ _ _ _ _ _ _ _ _ _ _ _ _ _ _ _ _ _ _ _ _ _ _ _ _ _ _ _ _ _ _ _ _ _ _ _ _ _ _ _ _ _ _ _ _ _ _ _ _ _ _ _ _ _ _ _ _ _ _ _ _ _ _ _ _ _ _ _ _ _ _ _ M _ Y G da dc w7 H7.out HI.out HX7.out (by omega)
      · by_cases hr2 : pf (ld N y g ws (aV xa)) ≤ F
        · have hcd := fc_r (i := F) htb h5 b2 (Or.inr hr2)
          clear hT htb hb h5 b2 b1 hv
          generalize pf (ld N y g ws (aV xa)) = f at PT hfb hr2
          generalize pk (ld N y g ws (aV xa)) = kd at PT h5b
          go_wp2_with fail
          refine KA.mono ?_
          clear KA
          rintro e w5 ⟨rfl, hb5⟩
          dsimp only
          have H5 : Hid (Wx w1 w5 pw p q pc pq sd nb rp rq rb N O y g ws M rs y g ws M rs (.slice da M.length dc)) := H.out.below hb5
          have HX5 : Hid (w5.heap[xb]? = some (.cells #[.int .i64 2, .int .i64 A, .int .i64 F, .int .i64 C, .int .i64 X] 52 (0, 0))) := (hb5.block xb lxb).trans HX.out
          clear z0 z1 z2 z3 z4 c0 c1 c3 cr hd hb5
          clear ra
          have y0 := H5.out.cells.2.2.2
          go_wp2_with fail
          refine (PT.out w5 H5.out.rx.rm).mono ?_
          rintro e w6 ⟨rfl, hb6⟩
          dsimp only
          have H6 : Hid (Wx w1 w6 pw p q pc pq sd nb rp rq rb N O y g ws M rs y g ws M rs (.slice da M.length dc)) := H5.out.below hb6
          have HX6 : Hid (w6.heap[xb]? = some (.cells #[.int .i64 2, .int .i64 A, .int .i64 F, .int .i64 C, .int .i64 X] 52 (0, 0))) := (hb6.block xb (lt_of_some HX5.out)).trans HX5.out
          clear hb6 y0 PT
          obtain ⟨q0, _, q2, _, _⟩ := cellx HX6.out
          obtain ⟨_, _, d3, _⟩ := H6.out.cells
          obtain ⟨y0, _, y2, _, _⟩ := cellx HX6.out
          obtain ⟨rA, rC⟩ := HR2.out _ _ _ H6.out
          have hdW := (Below.refl w6.heap.size w6).drew
          have P := set_any (w := w6.drew) xa F xc (H6.out.below hdW).wf.wod (by omega)
          have hno : fcC N y g ws xa F ≠ 0 := by rw [hcd]; decide
          rw [hcd, (fc_no (z := xc) (c := nC O) (M := M) hno).1, (fc_no (z := xc) (c := nC O) (M := M) hno).2] at P
          clear hno
          go_upto_region 52 with fail
          refine wp_region_noPanic ?_
          go_region_held3 (fun w' => w'.cell? ⟨pw, 3, none⟩ = some (.slice (some ⟨nb, 0, none⟩) 12 12) ∧ w'.cell? ⟨nb, ka, none⟩ = some (.int .i64 xa) ∧ w'.cell? ⟨nb, kc, none⟩ = some (.int .i64 xc) ∧ w'.cell? ⟨xb, 2, none⟩ = some (.int .i64 F)) (first | exact ⟨d3, rA, rC, y2⟩ | exact ⟨u0, u1.1, u1.2, u2⟩ | go_keep)
            (first | (go_at_call 27; refine P.mono ?_; rintro e w7 ⟨rfl, hw7, f7⟩; dsimp only; have H7 : Hid (Wx w1 w7 pw p q pc pq sd nb rp rq rb N O y g ws M rs y g ws M rs (.slice da M.length dc)) := (H6.out.below hdW).wood ((H6.out.below hdW).wf.turn hw7 f7) f7 (fun _ e => four e); have HX7 : Hid (w7.heap[xb]? = some (.cells #[.int .i64 2, .int .i64 A, .int .i64 F, .int .i64 C, .int .i64 X] 52 (0, 0))) := box_w (H6.out.below hdW) ((hdW.block xb (lt_of_some HX6.out)).trans HX6.out) f7 (fun _ e => Or.inl (four e)); obtain ⟨_, _, u2, _, _⟩ := cellx HX7.out; have u0 := H7.out.cells.2.2.1; have u1 := HR2.out _ _ _ H7.out; clear hw7 f7))
          refine NoPanic.normal ?_
          clear P d3 y0 y2 rA rC u1
          clear u0 u2
          go_wp2_with fail
          exact HQ.out _ _ _ _ _ _ _ _ _ _ _ _ _ _ _ _ _ _ _ _ _ _ _ _ _ _ _ _ _ _ _ _ _ _ _ _ _ _ _ _ _ _ _ _ _ _ _ _ _ _ _ _ _ _ _ _ _ _ _ _ _ _ _ _ _ _ _ _ _ _ _ _ _ _ _ _ _ _ _ _ _ _ _ _ _ _ _ _ _ _ _ _ _ _ _ _ _ _ _ _ _ _ _ _ _ _ _ _ _ _ _ _ _ _ _ _ _ _ _ _ _ _ _ _ _ _ _ _ _ _ _ _ _ _ _ _ _ _ _ _ _ _ _ _ _ _ _ _ _ _ _ _ _ _ _ _ _ _ _ _ _ _ _ _ _ _ _ _ _ _ _ _ _ _ _ _ _ _ _ _ _ _ _ _ _ _ _ _ _ _ _ _ _ _ _ _ _ _ _ _ _ _ _ _ _ _ _ _ _ _ _ _ _ _ _ _ _ _ _ _ _ _ _ _ _ _ _ _ _ _ _ _ _ _ _ _ _ _ _ _ _ _ _ _ _ _ _ _ _ _ _ _ _ _ _ _ _ _ _ _ _ _ _ _ _ _ _ _ _ _ _ _ _ _ _ _ _ _ _ _ _ _ _ M _ Y G da dc w7 H7.out HI.out HX7.out (by omega)
        · have hcd := fc_0 (i := F) htb h5 b2 (by omega) (by omega)
          exact absurd hcd hne


end Go.Proofs.Ytglddgjljohkiab.WDo
