/- WoodDoes: its switch: a field is set. -/
import Derived.Test.YtglddgjljohkiabWd9
namespace Go.Proofs.Ytglddgjljohkiab.WDo
open Go.RowKit W Kp Stl

theorem infoI : (Try.prog.info? 3).map (fun i => (i.zero, i.size, i.bytes)) = some (some (.int .i64 0), 1, 8) := by kernel_rfl
theorem in_row {B : Nat} {da : Option Addr} {dc : Nat} {M : List Int} (x : Int) (w' : World) (h : w'.ownsRow B 3 1 (.slice da M.length dc) M.length (M.map (Value.int .i64))) (hm : M.length ≤ 100000) :
    Calls Try.prog 30 #[.slice da M.length dc, .int .i64 x] w' fun e w'' => e = .returned (.bool (M.contains x)) ∧ w'' = w' := by
  rcases Nat.eq_zero_or_pos M.length with c | c
  · have e : M = [] := List.length_eq_zero_iff.1 c
    subst e
    exact in_zero da dc x w'
  · obtain ⟨b, cap, e⟩ := row_shape h c
    cases e
    obtain ⟨b', o', e', _, hc⟩ := row_ints h c
    cases e'
    exact in_pos b dc M x w' hm (fun i hi => by simpa using hc i hi)

set_option maxRecDepth 100000 in
set_option maxHeartbeats 8000000 in
theorem case2y_wp {s1 s2 s3 s4 s5 s6 s8 s9 s12 s14 s18 s19 s20 s21 s22 s23 s24 s25 s26 s27 s28 s29 s30 s31 s32 s33 s34 s35 s36 s37 s38 s39 s40 s41 s42 s43 s44 s45 s46 s47 s48 s49 s50 s51 s52 s53 s54 s55 s56 s57 s58 s59 s60 s61 s62 s63 s64 s65 s66 s67 s68 s69 s70 s71 s72 s73 s74 s75 s76 s77 s78 s79 s80 s81 s82 s83 s84 s85 s86 s87 s88 s89 s90 s91 s92 s93 s94 s95 s96 s97 s98 s99 s100 s101 s102 s103 s104 s105 s106 s107 s108 s109 s110 s111 s112 s113 s114 s115 s116 s117 s118 s119 s120 s121 s122 s123 s124 s125 s126 s127 s128 s129 s130 s131 s132 s133 s134 s135 s136 s137 s138 s139 s140 s141 s142 s143 s144 s145 s146 s147 s148 s149 s150 s151 s152 s153 s154 s155 s156 s157 s158 s159 s160 s161 s162 s163 s164 s165 s166 s167 s168 s169 s170 s171 s172 s173 s174 s175 s176 s177 s178 s179 s180 s181 s182 s183 s184 s185 s186 s187 s188 s189 s190 s191 s192 s193 s194 s195 s196 s197 s198 s199 s200 s201 s202 s203 s204 s205 s206 s207 s208 s209 s210 s211 s212 s213 s214 s215 s216 s217 s218 s219 s220 s221 s222 s223 s224 s225 s226 s227 s228 s229 s230 s231 s232 s233 s234 s235 s236 s237 s238 s239 s240 s241 s242 s243 s244 s245 s246 s247 s248 s249 s250 s251 s252 s253 s254 s255 s256 s257 s258 s259 s260 s261 s262 s263 s264 s265 s266 s267 s268 s269 s270 s271 s272 s273 s274 s275 s276 s277 s278 s279 s280 s281 s282 s283 s284 s285 s286 s287 s288 s289 s290 s291 s292 s293 s294 s295 s296 s297 s298 s299 s300 s301 s302 s303 s304 s305 s306 s307 s308 s309 s310 s311 s312 s313 s314 s315 s316 s317 s318 s319 s320 s321 s322 s323 s324 s325 s326 s327 s328 s329 s330 s331 s332 s333 s334 s335 s336 s337 s338 s339 s340 s341 s342 s343 s344 s345 s346 s347 s348 s349 s350 s351 s352 s353 s354 s355 s356 s357 s358 s359 s360 s361 s362 s363 s364 s365 s366 s367 s368 s369 s370 s371 s372 s373 s374 s375 s376 s377 s378 s379 s380 s381 s382 s383 s384 s385 s386 s387 s388 s389 s390 s391 s392 s393 s394 s395 s396 s397 s398 s399 s400 s401 s402 s403 s404 s405 s406 s407 s408 s409 s410 s411 s412 s413 s414 s415 s416 s417 s418 s419 s420 s421 s422 s423 s424 : Value} {Q : Exit → Act → World → Prop} {w1 w : World} {pw p q pc pq sd nb rp rq rb N O y g xb ka kc dc : Nat} {ws M rs Y G : List Int} {da : Option Addr} {A F C X : Int} (h : Wx w1 w pw p q pc pq sd nb rp rq rb N O y g ws M rs y g ws M rs (.slice da M.length dc)) (hi : WInv N y g ws Y G rs)
    (hx : w.heap[xb]? = some (.cells #[.int .i64 2, .int .i64 A, .int .i64 F, .int .i64 C, .int .i64 X] 52 (0, 0))) (lka : ka < 12) (lkc : kc < 12) (_hM : M.length ≤ 200)
    (h0 : fcC N y g ws (rs.getD ka 0) F = 0)
    (hQ : ∀ (v18 v19 v20 v21 v22 v23 v24 v25 v26 v27 v28 v29 v30 v31 v32 v33 v34 v101 v102 v103 v104 v105 v106 v107 v108 v109 v110 v111 v112 v113 v114 v115 v116 v117 v118 v119 v120 v121 v122 v123 v124 v125 v126 v127 v128 v129 v130 v131 v132 v133 v134 v135 v136 v137 v138 v139 v140 v141 v142 v143 v144 v145 v146 v147 v148 v149 v150 v151 v152 v153 v154 v155 v156 v157 v158 v159 v160 v161 v162 v163 v164 v165 v166 v167 v168 v169 v170 v171 v172 v173 v174 v175 v176 v177 v178 v179 v180 v181 v182 v183 v184 v185 v186 v187 v188 v189 v190 v191 v192 v193 v194 v195 v196 v197 v198 v199 v200 v201 v202 v203 v204 v205 v206 v207 v208 v209 v210 v211 v212 v213 v214 v215 v216 v217 v218 v219 v220 v221 v222 v223 v224 v225 v226 v227 v228 v229 v230 v231 v232 v233 v234 v235 v236 v237 v238 v239 v240 v241 v242 v243 v244 v245 v246 v247 v248 v249 v250 v251 v252 v253 v254 v255 v256 v257 v258 v259 v260 v261 v262 v263 v264 v265 v266 v267 v268 v269 v270 v271 v272 v273 v274 v275 v276 v277 v278 v279 v280 v281 v282 v283 v284 v285 v286 v287 v288 v289 v290 v291 v292 v293 v294 v295 v296 v297 v298 v299 v300 v301 v302 v303 v304 v305 v306 v307 v308 v309 v310 v311 v312 v313 v314 v315 v316 v317 v318 v319 v320 v321 v322 v323 v324 v325 v326 v327 v328 v329 v330 v331 v332 v333 v334 v335 v336 v337 v338 v339 v340 v341 v342 v343 v344 v345 v346 v347 v348 v349 v350 v351 v352 v353 v354 v355 v356 v357 v358 v359 v360 v361 v362 v363 : Value) (y' g' : Nat) (ws' M' rs' Y' G' : List Int) (da' : Option Addr) (dc' : Nat) (w' : World), Wx w1 w' pw p q pc pq sd nb rp rq rb N O y' g' ws' M' rs' y' g' ws' M' rs' (.slice da' M'.length dc') → WInv N y' g' ws' Y' G' rs' → w'.heap[xb]? = some (.cells #[.int .i64 2, .int .i64 A, .int .i64 F, .int .i64 C, .int .i64 X] 52 (0, 0)) → M'.length ≤ M.length + 1 → Q .normal ⟨#[.int .i64 N, s1, s2, s3, s4, s5, s6, .pointer (some ⟨pw, 0, none⟩), s8, s9, .pointer (some ⟨rp, 0, none⟩), .slice (some ⟨rb, 0, none⟩) 12 12, s12, .slice da' M'.length dc', s14, .pointer (some ⟨xb, 0, none⟩), .int .i64 (ka : Int), .int .i64 (kc : Int), v18, v19, v20, v21, v22, v23, v24, v25, v26, v27, v28, v29, v30, v31, v32, v33, v34, s35, s36, s37, s38, s39, s40, s41, s42, s43, s44, s45, s46, s47, s48, s49, s50, s51, s52, s53, s54, s55, s56, s57, s58, s59, s60, s61, s62, s63, s64, s65, s66, s67, s68, s69, s70, s71, s72, s73, s74, s75, s76, s77, s78, s79, s80, s81, s82, s83, s84, s85, s86, s87, s88, s89, s90, s91, s92, s93, s94, s95, s96, s97, s98, s99, s100, v101, v102, v103, v104, v105, v106, v107, v108, v109, v110, v111, v112, v113, v114, v115, v116, v117, v118, v119, v120, v121, v122, v123, v124, v125, v126, v127, v128, v129, v130, v131, v132, v133, v134, v135, v136, v137, v138, v139, v140, v141, v142, v143, v144, v145, v146, v147, v148, v149, v150, v151, v152, v153, v154, v155, v156, v157, v158, v159, v160, v161, v162, v163, v164, v165, v166, v167, v168, v169, v170, v171, v172, v173, v174, v175, v176, v177, v178, v179, v180, v181, v182, v183, v184, v185, v186, v187, v188, v189, v190, v191, v192, v193, v194, v195, v196, v197, v198, v199, v200, v201, v202, v203, v204, v205, v206, v207, v208, v209, v210, v211, v212, v213, v214, v215, v216, v217, v218, v219, v220, v221, v222, v223, v224, v225, v226, v227, v228, v229, v230, v231, v232, v233, v234, v235, v236, v237, v238, v239, v240, v241, v242, v243, v244, v245, v246, v247, v248, v249, v250, v251, v252, v253, v254, v255, v256, v257, v258, v259, v260, v261, v262, v263, v264, v265, v266, v267, v268, v269, v270, v271, v272, v273, v274, v275, v276, v277, v278, v279, v280, v281, v282, v283, v284, v285, v286, v287, v288, v289, v290, v291, v292, v293, v294, v295, v296, v297, v298, v299, v300, v301, v302, v303, v304, v305, v306, v307, v308, v309, v310, v311, v312, v313, v314, v315, v316, v317, v318, v319, v320, v321, v322, v323, v324, v325, v326, v327, v328, v329, v330, v331, v332, v333, v334, v335, v336, v337, v338, v339, v340, v341, v342, v343, v344, v345, v346, v347, v348, v349, v350, v351, v352, v353, v354, v355, v356, v357, v358, v359, v360, v361, v362, v363, s364, s365, s366, s367, s368, s369, s370, s371, s372, s373, s374, s375, s376, s377, s378, s379, s380, s381, s382, s383, s384, s385, s386, s387, s388, s389, s390, s391, s392, s393, s394, s395, s396, s397, s398, s399, s400, s401, s402, s403, s404, s405, s406, s407, s408, s409, s410, s411, s412, s413, s414, s415, s416, s417, s418, s419, s420, s421, s422, s423, s424], []⟩ w') :
    Code.wp Try.prog ((findI 21 (Try.f4.body.getD .skip)).getD .skip) Q ⟨#[.int .i64 N, s1, s2, s3, s4, s5, s6, .pointer (some ⟨pw, 0, none⟩), s8, s9, .pointer (some ⟨rp, 0, none⟩), .slice (some ⟨rb, 0, none⟩) 12 12, s12, .slice da M.length dc, s14, .pointer (some ⟨xb, 0, none⟩), .int .i64 (ka : Int), .int .i64 (kc : Int), s18, s19, s20, s21, s22, s23, s24, s25, s26, s27, s28, s29, s30, s31, s32, s33, s34, s35, s36, s37, s38, s39, s40, s41, s42, s43, s44, s45, s46, s47, s48, s49, s50, s51, s52, s53, s54, s55, s56, s57, s58, s59, s60, s61, s62, s63, s64, s65, s66, s67, s68, s69, s70, s71, s72, s73, s74, s75, s76, s77, s78, s79, s80, s81, s82, s83, s84, s85, s86, s87, s88, s89, s90, s91, s92, s93, s94, s95, s96, s97, s98, s99, s100, s101, s102, s103, s104, s105, s106, s107, s108, s109, s110, s111, s112, s113, s114, s115, s116, s117, s118, s119, s120, s121, s122, s123, s124, s125, s126, s127, s128, s129, s130, s131, s132, s133, s134, s135, s136, s137, s138, s139, s140, s141, s142, s143, s144, s145, s146, s147, s148, s149, s150, s151, s152, s153, s154, s155, s156, s157, s158, s159, s160, s161, s162, s163, s164, s165, s166, s167, s168, s169, s170, s171, s172, s173, s174, s175, s176, s177, s178, s179, s180, s181, s182, s183, s184, s185, s186, s187, s188, s189, s190, s191, s192, s193, s194, s195, s196, s197, s198, s199, s200, s201, s202, s203, s204, s205, s206, s207, s208, s209, s210, s211, s212, s213, s214, s215, s216, s217, s218, s219, s220, s221, s222, s223, s224, s225, s226, s227, s228, s229, s230, s231, s232, s233, s234, s235, s236, s237, s238, s239, s240, s241, s242, s243, s244, s245, s246, s247, s248, s249, s250, s251, s252, s253, s254, s255, s256, s257, s258, s259, s260, s261, s262, s263, s264, s265, s266, s267, s268, s269, s270, s271, s272, s273, s274, s275, s276, s277, s278, s279, s280, s281, s282, s283, s284, s285, s286, s287, s288, s289, s290, s291, s292, s293, s294, s295, s296, s297, s298, s299, s300, s301, s302, s303, s304, s305, s306, s307, s308, s309, s310, s311, s312, s313, s314, s315, s316, s317, s318, s319, s320, s321, s322, s323, s324, s325, s326, s327, s328, s329, s330, s331, s332, s333, s334, s335, s336, s337, s338, s339, s340, s341, s342, s343, s344, s345, s346, s347, s348, s349, s350, s351, s352, s353, s354, s355, s356, s357, s358, s359, s360, s361, s362, s363, s364, s365, s366, s367, s368, s369, s370, s371, s372, s373, s374, s375, s376, s377, s378, s379, s380, s381, s382, s383, s384, s385, s386, s387, s388, s389, s390, s391, s392, s393, s394, s395, s396, s397, s398, s399, s400, s401, s402, s403, s404, s405, s406, s407, s408, s409, s410, s411, s412, s413, s414, s415, s416, s417, s418, s419, s420, s421, s422, s423, s424], []⟩ w := by
  conv => arg 2; whnf
  have HQ : Hid (∀ (v18 v19 v20 v21 v22 v23 v24 v25 v26 v27 v28 v29 v30 v31 v32 v33 v34 v101 v102 v103 v104 v105 v106 v107 v108 v109 v110 v111 v112 v113 v114 v115 v116 v117 v118 v119 v120 v121 v122 v123 v124 v125 v126 v127 v128 v129 v130 v131 v132 v133 v134 v135 v136 v137 v138 v139 v140 v141 v142 v143 v144 v145 v146 v147 v148 v149 v150 v151 v152 v153 v154 v155 v156 v157 v158 v159 v160 v161 v162 v163 v164 v165 v166 v167 v168 v169 v170 v171 v172 v173 v174 v175 v176 v177 v178 v179 v180 v181 v182 v183 v184 v185 v186 v187 v188 v189 v190 v191 v192 v193 v194 v195 v196 v197 v198 v199 v200 v201 v202 v203 v204 v205 v206 v207 v208 v209 v210 v211 v212 v213 v214 v215 v216 v217 v218 v219 v220 v221 v222 v223 v224 v225 v226 v227 v228 v229 v230 v231 v232 v233 v234 v235 v236 v237 v238 v239 v240 v241 v242 v243 v244 v245 v246 v247 v248 v249 v250 v251 v252 v253 v254 v255 v256 v257 v258 v259 v260 v261 v262 v263 v264 v265 v266 v267 v268 v269 v270 v271 v272 v273 v274 v275 v276 v277 v278 v279 v280 v281 v282 v283 v284 v285 v286 v287 v288 v289 v290 v291 v292 v293 v294 v295 v296 v297 v298 v299 v300 v301 v302 v303 v304 v305 v306 v307 v308 v309 v310 v311 v312 v313 v314 v315 v316 v317 v318 v319 v320 v321 v322 v323 v324 v325 v326 v327 v328 v329 v330 v331 v332 v333 v334 v335 v336 v337 v338 v339 v340 v341 v342 v343 v344 v345 v346 v347 v348 v349 v350 v351 v352 v353 v354 v355 v356 v357 v358 v359 v360 v361 v362 v363 : Value) (y' g' : Nat) (ws' M' rs' Y' G' : List Int) (da' : Option Addr) (dc' : Nat) (w' : World), Wx w1 w' pw p q pc pq sd nb rp rq rb N O y' g' ws' M' rs' y' g' ws' M' rs' (.slice da' M'.length dc') → WInv N y' g' ws' Y' G' rs' → w'.heap[xb]? = some (.cells #[.int .i64 2, .int .i64 A, .int .i64 F, .int .i64 C, .int .i64 X] 52 (0, 0)) → M'.length ≤ M.length + 1 → Q .normal ⟨#[.int .i64 N, s1, s2, s3, s4, s5, s6, .pointer (some ⟨pw, 0, none⟩), s8, s9, .pointer (some ⟨rp, 0, none⟩), .slice (some ⟨rb, 0, none⟩) 12 12, s12, .slice da' M'.length dc', s14, .pointer (some ⟨xb, 0, none⟩), .int .i64 (ka : Int), .int .i64 (kc : Int), v18, v19, v20, v21, v22, v23, v24, v25, v26, v27, v28, v29, v30, v31, v32, v33, v34, s35, s36, s37, s38, s39, s40, s41, s42, s43, s44, s45, s46, s47, s48, s49, s50, s51, s52, s53, s54, s55, s56, s57, s58, s59, s60, s61, s62, s63, s64, s65, s66, s67, s68, s69, s70, s71, s72, s73, s74, s75, s76, s77, s78, s79, s80, s81, s82, s83, s84, s85, s86, s87, s88, s89, s90, s91, s92, s93, s94, s95, s96, s97, s98, s99, s100, v101, v102, v103, v104, v105, v106, v107, v108, v109, v110, v111, v112, v113, v114, v115, v116, v117, v118, v119, v120, v121, v122, v123, v124, v125, v126, v127, v128, v129, v130, v131, v132, v133, v134, v135, v136, v137, v138, v139, v140, v141, v142, v143, v144, v145, v146, v147, v148, v149, v150, v151, v152, v153, v154, v155, v156, v157, v158, v159, v160, v161, v162, v163, v164, v165, v166, v167, v168, v169, v170, v171, v172, v173, v174, v175, v176, v177, v178, v179, v180, v181, v182, v183, v184, v185, v186, v187, v188, v189, v190, v191, v192, v193, v194, v195, v196, v197, v198, v199, v200, v201, v202, v203, v204, v205, v206, v207, v208, v209, v210, v211, v212, v213, v214, v215, v216, v217, v218, v219, v220, v221, v222, v223, v224, v225, v226, v227, v228, v229, v230, v231, v232, v233, v234, v235, v236, v237, v238, v239, v240, v241, v242, v243, v244, v245, v246, v247, v248, v249, v250, v251, v252, v253, v254, v255, v256, v257, v258, v259, v260, v261, v262, v263, v264, v265, v266, v267, v268, v269, v270, v271, v272, v273, v274, v275, v276, v277, v278, v279, v280, v281, v282, v283, v284, v285, v286, v287, v288, v289, v290, v291, v292, v293, v294, v295, v296, v297, v298, v299, v300, v301, v302, v303, v304, v305, v306, v307, v308, v309, v310, v311, v312, v313, v314, v315, v316, v317, v318, v319, v320, v321, v322, v323, v324, v325, v326, v327, v328, v329, v330, v331, v332, v333, v334, v335, v336, v337, v338, v339, v340, v341, v342, v343, v344, v345, v346, v347, v348, v349, v350, v351, v352, v353, v354, v355, v356, v357, v358, v359, v360, v361, v362, v363, s364, s365, s366, s367, s368, s369, s370, s371, s372, s373, s374, s375, s376, s377, s378, s379, s380, s381, s382, s383, s384, s385, s386, s387, s388, s389, s390, s391, s392, s393, s394, s395, s396, s397, s398, s399, s400, s401, s402, s403, s404, s405, s406, s407, s408, s409, s410, s411, s412, s413, s414, s415, s416, s417, s418, s419, s420, s421, s422, s423, s424], []⟩ w') := hQ
  have H : Hid (Wx w1 w pw p q pc pq sd nb rp rq rb N O y g ws M rs y g ws M rs (.slice da M.length dc)) := h
  have HX : Hid (w.heap[xb]? = some (.cells #[.int .i64 2, .int .i64 A, .int .i64 F, .int .i64 C, .int .i64 X] 52 (0, 0))) := hx
  have HI : Hid (WInv N y g ws Y G rs) := hi
  obtain ⟨z0, z1, z2, z3, z4⟩ := cellx hx
  obtain ⟨c0, c1, c3, cr⟩ := h.cells
  have k1 := h.wf.wod.ar.hN'
  have k2 := h.wf.wod.ar.hy
  have k3 := h.wf.wod.ar.hO
  have k4 := h.wf.wod.ar.hg
  have k5 := h.wf.wod.ar.hl
  have lpw := h.wf.cells.2.2.2.1
  have lnb := h.wf.cells.2.2.2.2
  have lrb := lt_of_some h.rx.rts
  have lrp := h.rx.rm.ltp
  have lrq := h.rx.rm.ltq
  have lxb := lt_of_some hx
  have npn := h.wf.apart.2.2.1
  have hrl := h.wf.rl
  have nbx := h.box hx
  have xnb : xb ≠ nb := fun e => nbx.1 (Or.inr (Or.inr (Or.inr (Or.inr (Or.inr (Or.inr e))))))
  have xrb : xb ≠ rb := fun e => nbx.2 (Or.inr (Or.inr (Or.inl e)))
  have xrq : xb ≠ rq := fun e => nbx.2 (Or.inr (Or.inl e))
  have prb : pw ≠ rb := fun e => h.dj pw (Or.inl rfl) (Or.inr (Or.inr (Or.inl e)))
  have nrb : nb ≠ rb := fun e => h.dj nb (Or.inr (Or.inr (Or.inr (Or.inr (Or.inr (Or.inr rfl)))))) (Or.inr (Or.inr (Or.inl e)))
  have ka0 : (0 : Int) ≤ (ka : Int) := by omega
  have ka1 : (ka : Int) < 12 := by omega
  have kc0 : (0 : Int) ≤ (kc : Int) := by omega
  have kc1 : (kc : Int) < 12 := by omega
  have hd := (Below.refl w.heap.size w).drew
  clear hQ h hx hi nbx
  obtain ⟨ra, _⟩ := H.out.rcR ka lka
  have KA := at_any (rs.getD ka 0) w
  have htb := HI.out.tb (O := O) k1 k2 k3 k4 ka (by omega)
  have hT : Hid (aB (rs.getD ka 0) = true → aV (rs.getD ka 0) ∈ Y ∨ aV (rs.getD ka 0) ∈ G) := fun hb => HI.out.at ka (by omega) hb
  have HR : Hid (∀ w', Wx w1 w' pw p q pc pq sd nb rp rq rb N O y g ws M rs y g ws M rs (.slice da M.length dc) → w'.cell? ⟨nb, ka, none⟩ = some (.int .i64 (rs.getD ka 0))) := fun w' h => (h.rcW ka lka).1
  obtain ⟨ht, h5, f0, f1⟩ := fcC_zero h0
  have hz : Hid (aB (rs.getD kc 0) = true → aV (rs.getD kc 0) ∈ Y ∨ aV (rs.getD kc 0) ∈ G) := fun hb => HI.out.at kc (by omega) hb
  have HRR : Hid (∀ w' ws' M', Wx w1 w' pw p q pc pq sd nb rp rq rb N O y g ws' M' rs y g ws M rs (.slice da M.length dc) → w'.cell? ⟨rb, kc, none⟩ = some (.int .i64 (rs.getD kc 0)) ∧ True) := fun w' ws' M' h => ⟨(h.rcR kc lkc).1, trivial⟩
  have HRR2 : Hid (∀ w' ws' M', Wx w1 w' pw p q pc pq sd nb rp rq rb N O y g ws' M' rs y g ws' M rs (.slice da M.length dc) → w'.cell? ⟨rb, kc, none⟩ = some (.int .i64 (rs.getD kc 0)) ∧ True) := fun w' ws' M' h => ⟨(h.rcR kc lkc).1, trivial⟩
  have HR2 : Hid (∀ w' ws' M', Wx w1 w' pw p q pc pq sd nb rp rq rb N O y g ws' M' rs y g ws M rs (.slice da M.length dc) → w'.cell? ⟨nb, ka, none⟩ = some (.int .i64 (rs.getD ka 0)) ∧ w'.cell? ⟨nb, kc, none⟩ = some (.int .i64 (rs.getD kc 0))) := fun w' ws' M' h => ⟨(h.rcW ka lka).1, (h.rcW kc lkc).1⟩
  clear HR
  generalize rs.getD kc 0 = xc at *
  generalize rs.getD ka 0 = xa at *
  have hb : aB xa = true := by rw [← htb]; exact ht
  rw [hb] at KA
  have hv : Hid (_) := hT.out hb
  obtain ⟨b1, b2, b3⟩ := HI.out.thing k2 hv.out
  rw [b2] at f1
  have b4 : aV xa ≤ 1280 := by
    rcases hv.out with c | c
    · have := HI.out.full.iy _ c; omega
    · have := HI.out.full.io _ c; omega
  have PT : Hid (∀ w', Rm w' rp rq N O y g ws → Calls Try.prog 25 #[.pointer (some ⟨rp, 0, none⟩), .int .i64 (aV xa)] w' fun e w'' => e = .returned (.tuple #[.int .i64 (pk (ld N y g ws (aV xa))), .int .i64 (pf (ld N y g ws (aV xa))), .int .i64 0]) ∧ Below w'.heap.size w' w'') := fun w' hr => by
    have := rThing_any (aV xa) w' hr (by omega)
    rw [b1] at this
    exact this
  have hfb := pf_bd (ld N y g ws (aV xa))
  have h5b : (pk (ld N y g ws (aV xa)) == 5) = false := by simpa using h5
  have hcd := h0
  have i9 := field_i HI.out.full hv.out (i := F) f0 f1
  have hbd := iB_bd (O := O) i9 k2 k4
  obtain ⟨fn, hfn⟩ := Int.eq_ofNat_of_zero_le f0
  obtain ⟨vn, hvn⟩ := Int.eq_ofNat_of_zero_le b3
  have hst : stW N y g ws xa F xc = ws.set (vn + 1 + fn) xc := by
    unfold stW
    rw [if_pos h0, if_pos i9, hvn, hfn]
    congr 1
  have hsm0 : stM N y g ws xa F xc (nC O) M = if (aB xc && hB 0 y (aV xc) && hB N g vn) = true then mkM N (nC O) vn M else M := by
    unfold stM stB
    rw [decide_eq_true h0, Bool.true_and, hvn]
  have HI8 : Hid (WInv N y g (ws.set (vn + 1 + fn) xc) Y G rs) := by
    have := HI.out.set k5 k2 k4 (z := xc) hv.out f0 f1 hz.out
    rw [hvn, hfn] at this
    have e : ((vn : Int) + 1 + (fn : Int)).toNat = vn + 1 + fn := by omega
    rw [e] at this
    exact this
  have hix : vn + 1 + fn < N + O := by omega
  have KZ : Hid (∀ w', Calls Try.prog 22 #[.int .i64 xc] w' fun e w'' => e = .returned (.tuple #[.int .i64 (aV xc), .bool (aB xc)]) ∧ Below w'.heap.size w' w'') := fun w' => at_any xc w'
  have KO : Hid (∀ w', Rm w' rp rq N O y g (ws.set (vn + 1 + fn) xc) → Calls Try.prog 28 #[.pointer (some ⟨rp, 0, none⟩), .int .i64 vn] w' fun e w'' => e = .returned (.bool (hB N g vn)) ∧ Below w'.heap.size w' w'') := fun w' hr => isOld_any vn w' hr (by omega)
  have KY : Hid (∀ w', Rm w' rp rq N O y g (ws.set (vn + 1 + fn) xc) → Calls Try.prog 29 #[.pointer (some ⟨rp, 0, none⟩), .int .i64 (aV xc)] w' fun e w'' => e = .returned (.bool (hB 0 y (aV xc))) ∧ Below w'.heap.size w' w'') := fun w' hr => isYoung_any (aV xc) w' hr
  obtain ⟨i0, hi, hz0, hz1, hz2⟩ := info_parts infoI
  have hmk : Hid (hB N g vn = true → mkM N (nC O) vn M = addM M (((vn : Int) - N) / 8) ∧ (N : Int) ≤ vn) := fun c => by
    have := hB_yes c
    have e1 : cB N (nC O) vn = true := by
      unfold cB nC
      rw [if_neg (by omega), decide_eq_true (by omega), decide_eq_true (by omega)]
      rfl
    refine ⟨?_, by omega⟩
    rw [mkM_yes e1]
    unfold cN
    rw [if_neg (by omega)]
  subst hfn
  clear hT htb hb h5 b2 b1 ht hz b3
  generalize hpf : pf (ld N y g ws (aV xa)) = f at *
  clear hpf
  generalize pk (ld N y g ws (aV xa)) = kd at PT h5b
  rw [hvn] at KA PT
  have j0 : (0 : Int) ≤ (vn : Int) + 1 + (fn : Int) := by omega
  have j1 : (vn : Int) + 1 + (fn : Int) < ((N + O : Nat) : Int) := by omega
  have j2 : ((vn : Int) + 1 + (fn : Int)).toNat = vn + 1 + fn := by omega
  have j3 : IntKind.i64.wrap ((vn : Int) + 1) = (vn : Int) + 1 := by rw [IntKind.wrap_i64]; omega
  have j4 : IntKind.i64.wrap ((vn : Int) + 1 + (fn : Int)) = (vn : Int) + 1 + (fn : Int) := by rw [IntKind.wrap_i64]; omega
  have j5 : (vn : Int) + 1 + (fn : Int) < (N : Int) + (O : Int) := by omega
  clear i9 hbd hvn
  cases bz : aB xc
  · as_aux_lemma =>
    rw [bz] at hsm0 KZ
    have hsm : stM N y g ws xa (fn : Int) xc (nC O) M = M := by rw [hsm0]; simp
    clear hsm0 hmk KO KY
    go_wp2_with fail
    refine KA.mono ?_
    clear KA
    rintro e w5 ⟨rfl, hb5⟩
    dsimp only
    have H5 : Hid (Wx w1 w5 pw p q pc pq sd nb rp rq rb N O y g ws M rs y g ws M rs (.slice da M.length dc)) := H.out.below hb5
    have HX5 : Hid (w5.heap[xb]? = some (.cells #[.int .i64 2, .int .i64 A, .int .i64 (fn : Int), .int .i64 C, .int .i64 X] 52 (0, 0))) := (hb5.block xb lxb).trans HX.out
    clear z0 z1 z2 z3 z4 c0 c1 c3 cr hd hb5
    clear ra
    go_wp2_with fail
    refine (PT.out w5 H5.out.rx.rm).mono ?_
    rintro e w6 ⟨rfl, hb6⟩
    dsimp only
    have H6 : Hid (Wx w1 w6 pw p q pc pq sd nb rp rq rb N O y g ws M rs y g ws M rs (.slice da M.length dc)) := H5.out.below hb6
    have HX6 : Hid (w6.heap[xb]? = some (.cells #[.int .i64 2, .int .i64 A, .int .i64 (fn : Int), .int .i64 C, .int .i64 X] 52 (0, 0))) := (hb6.block xb (lt_of_some HX5.out)).trans HX5.out
    clear hb6 PT
    obtain ⟨q0, _, q2, _, _⟩ := cellx HX6.out
    obtain ⟨_, _, d3, _⟩ := H6.out.cells
    obtain ⟨y0, _, y2, _, _⟩ := cellx HX6.out
    obtain ⟨rA, rC⟩ := HR2.out _ _ _ H6.out
    have hdW := (Below.refl w6.heap.size w6).drew
    have P := set_any (w := w6.drew) xa (fn : Int) xc (H6.out.below hdW).wf.wod (by omega)
    rw [hcd, hst, hsm] at P
    go_upto_region 52 with fail
    refine wp_region_noPanic ?_
    go_region_held3 (fun w' => w'.cell? ⟨pw, 3, none⟩ = some (.slice (some ⟨nb, 0, none⟩) 12 12) ∧ w'.cell? ⟨nb, ka, none⟩ = some (.int .i64 xa) ∧ w'.cell? ⟨nb, kc, none⟩ = some (.int .i64 xc) ∧ w'.cell? ⟨xb, 2, none⟩ = some (.int .i64 (fn : Int))) (first | exact ⟨d3, rA, rC, y2⟩ | exact ⟨u0, u1.1, u1.2, u2⟩ | go_keep)
      (first | (go_at_call 27; refine P.mono ?_; rintro e w7 ⟨rfl, hw7, f7⟩; dsimp only; have H7 : Hid (Wx w1 w7 pw p q pc pq sd nb rp rq rb N O y g (ws.set (vn + 1 + fn) xc) M rs y g ws M rs (.slice da M.length dc)) := (H6.out.below hdW).wood ((H6.out.below hdW).wf.turn hw7 f7) f7 (fun _ e => four e); have HX7 : Hid (w7.heap[xb]? = some (.cells #[.int .i64 2, .int .i64 A, .int .i64 (fn : Int), .int .i64 C, .int .i64 X] 52 (0, 0))) := box_w (H6.out.below hdW) ((hdW.block xb (lt_of_some HX6.out)).trans HX6.out) f7 (fun _ e => Or.inl (four e)); obtain ⟨_, _, u2, _, _⟩ := cellx HX7.out; have u0 := H7.out.cells.2.2.1; have u1 := HR2.out _ _ _ H7.out; clear hw7 f7))
    refine NoPanic.normal ?_
    clear P d3 y0 y2 rA rC u1
    clear q0 q2 u0
    have e0 := H7.out.cells.2.2.2
    obtain ⟨rc2, _⟩ := HRR.out _ _ _ H7.out
    have cw := H7.out.rx.rm.word (vn + 1 + fn) (by omega)
    have cf := H7.out.rx.rm.frozenq (vn + 1 + fn)
    have nrp : rp ≠ rq := H7.out.rx.rm.ne
    have nrr : rb ≠ rq := Ne.symm H7.out.rx.qb
    have hd7 := (Below.refl w7.heap.size w7).drew
    go_upto_region 55 with fail
    refine wp_region_noPanic ?_
    go_region_held3 (fun w' => w'.cell? ⟨rp, 0, none⟩ = some (.slice (some ⟨rq, 0, none⟩) (N + O) (N + O)) ∧ w'.cell? ⟨xb, 2, none⟩ = some (.int .i64 (fn : Int)) ∧ w'.cell? ⟨rb, kc, none⟩ = some (.int .i64 xc)) (first | exact ⟨e0, u2, rc2⟩ | exact ⟨(cell_se nrp).trans e0, (cell_se xrq).trans u2, (cell_se nrr).trans rc2⟩ | go_keep) (fail)
    refine NoPanic.normal ?_
    have HX8 : Hid (((w7.setCell ⟨rq, vn + 1 + fn, none⟩ (.int .i64 xc)).drew).heap[xb]? = some (.cells #[.int .i64 2, .int .i64 A, .int .i64 (fn : Int), .int .i64 C, .int .i64 X] 52 (0, 0))) := (show (w7.setCell ⟨rq, vn + 1 + fn, none⟩ (.int .i64 xc)).heap[xb]? = _ from (Below.heap_setCell _ _ _ _ xrq).trans HX7.out)
    have H8 : Hid (Wx w1 ((w7.setCell ⟨rq, vn + 1 + fn, none⟩ (.int .i64 xc)).drew) pw p q pc pq sd nb rp rq rb N O y g (ws.set (vn + 1 + fn) xc) M rs y g (ws.set (vn + 1 + fn) xc) M rs (.slice da M.length dc)) := (H7.out.wordR (vn + 1 + fn) xc).below ((Below.refl _ _).drew)
    clear u2 e0 rc2 cw cf hd7
    generalize (w7.setCell ⟨rq, vn + 1 + fn, none⟩ (.int .i64 xc)).drew = w8 at *
    obtain ⟨rc3, _⟩ := HRR2.out _ _ _ H8.out
    go_wp2_with fail
    refine (KZ.out w8).mono ?_
    rintro e w9 ⟨rfl, hb9⟩
    dsimp only
    have H9 : Hid (Wx w1 w9 pw p q pc pq sd nb rp rq rb N O y g (ws.set (vn + 1 + fn) xc) M rs y g (ws.set (vn + 1 + fn) xc) M rs (.slice da M.length dc)) := H8.out.below hb9
    have HX9 : Hid (w9.heap[xb]? = some (.cells #[.int .i64 2, .int .i64 A, .int .i64 (fn : Int), .int .i64 C, .int .i64 X] 52 (0, 0))) := (hb9.block xb (lt_of_some HX8.out)).trans HX8.out
    clear rc3 hb9 KZ
    go_wp2_with fail
    exact HQ.out _ _ _ _ _ _ _ _ _ _ _ _ _ _ _ _ _ _ _ _ _ _ _ _ _ _ _ _ _ _ _ _ _ _ _ _ _ _ _ _ _ _ _ _ _ _ _ _ _ _ _ _ _ _ _ _ _ _ _ _ _ _ _ _ _ _ _ _ _ _ _ _ _ _ _ _ _ _ _ _ _ _ _ _ _ _ _ _ _ _ _ _ _ _ _ _ _ _ _ _ _ _ _ _ _ _ _ _ _ _ _ _ _ _ _ _ _ _ _ _ _ _ _ _ _ _ _ _ _ _ _ _ _ _ _ _ _ _ _ _ _ _ _ _ _ _ _ _ _ _ _ _ _ _ _ _ _ _ _ _ _ _ _ _ _ _ _ _ _ _ _ _ _ _ _ _ _ _ _ _ _ _ _ _ _ _ _ _ _ _ _ _ _ _ _ _ _ _ _ _ _ _ _ _ _ _ _ _ _ _ _ _ _ _ _ _ _ _ _ _ _ _ _ _ _ _ _ _ _ _ _ _ _ _ _ _ _ _ _ _ _ _ _ _ _ _ _ _ _ _ _ _ _ _ _ _ _ _ _ _ _ _ _ _ _ _ _ _ _ _ _ _ _ _ _ _ _ _ _ _ _ _ _ M _ Y G da dc w9 H9.out HI8.out HX9.out (by omega)
  · cases bo : hB N g vn
    · as_aux_lemma =>
      rw [bz, bo] at hsm0
      rw [bz] at KZ
      rw [bo] at KO
      have hsm : stM N y g ws xa (fn : Int) xc (nC O) M = M := by rw [hsm0]; simp
      clear hsm0 hmk KY
      go_wp2_with fail
      refine KA.mono ?_
      clear KA
      rintro e w5 ⟨rfl, hb5⟩
      dsimp only
      have H5 : Hid (Wx w1 w5 pw p q pc pq sd nb rp rq rb N O y g ws M rs y g ws M rs (.slice da M.length dc)) := H.out.below hb5
      have HX5 : Hid (w5.heap[xb]? = some (.cells #[.int .i64 2, .int .i64 A, .int .i64 (fn : Int), .int .i64 C, .int .i64 X] 52 (0, 0))) := (hb5.block xb lxb).trans HX.out
      clear z0 z1 z2 z3 z4 c0 c1 c3 cr hd hb5
      clear ra
      go_wp2_with fail
      refine (PT.out w5 H5.out.rx.rm).mono ?_
      rintro e w6 ⟨rfl, hb6⟩
      dsimp only
      have H6 : Hid (Wx w1 w6 pw p q pc pq sd nb rp rq rb N O y g ws M rs y g ws M rs (.slice da M.length dc)) := H5.out.below hb6
      have HX6 : Hid (w6.heap[xb]? = some (.cells #[.int .i64 2, .int .i64 A, .int .i64 (fn : Int), .int .i64 C, .int .i64 X] 52 (0, 0))) := (hb6.block xb (lt_of_some HX5.out)).trans HX5.out
      clear hb6 PT
      obtain ⟨q0, _, q2, _, _⟩ := cellx HX6.out
      obtain ⟨_, _, d3, _⟩ := H6.out.cells
      obtain ⟨y0, _, y2, _, _⟩ := cellx HX6.out
      obtain ⟨rA, rC⟩ := HR2.out _ _ _ H6.out
      have hdW := (Below.refl w6.heap.size w6).drew
      have P := set_any (w := w6.drew) xa (fn : Int) xc (H6.out.below hdW).wf.wod (by omega)
      rw [hcd, hst, hsm] at P
      go_upto_region 52 with fail
      refine wp_region_noPanic ?_
      go_region_held3 (fun w' => w'.cell? ⟨pw, 3, none⟩ = some (.slice (some ⟨nb, 0, none⟩) 12 12) ∧ w'.cell? ⟨nb, ka, none⟩ = some (.int .i64 xa) ∧ w'.cell? ⟨nb, kc, none⟩ = some (.int .i64 xc) ∧ w'.cell? ⟨xb, 2, none⟩ = some (.int .i64 (fn : Int))) (first | exact ⟨d3, rA, rC, y2⟩ | exact ⟨u0, u1.1, u1.2, u2⟩ | go_keep)
        (first | (go_at_call 27; refine P.mono ?_; rintro e w7 ⟨rfl, hw7, f7⟩; dsimp only; have H7 : Hid (Wx w1 w7 pw p q pc pq sd nb rp rq rb N O y g (ws.set (vn + 1 + fn) xc) M rs y g ws M rs (.slice da M.length dc)) := (H6.out.below hdW).wood ((H6.out.below hdW).wf.turn hw7 f7) f7 (fun _ e => four e); have HX7 : Hid (w7.heap[xb]? = some (.cells #[.int .i64 2, .int .i64 A, .int .i64 (fn : Int), .int .i64 C, .int .i64 X] 52 (0, 0))) := box_w (H6.out.below hdW) ((hdW.block xb (lt_of_some HX6.out)).trans HX6.out) f7 (fun _ e => Or.inl (four e)); obtain ⟨_, _, u2, _, _⟩ := cellx HX7.out; have u0 := H7.out.cells.2.2.1; have u1 := HR2.out _ _ _ H7.out; clear hw7 f7))
      refine NoPanic.normal ?_
      clear P d3 y0 y2 rA rC u1
      clear q0 q2 u0
      have e0 := H7.out.cells.2.2.2
      obtain ⟨rc2, _⟩ := HRR.out _ _ _ H7.out
      have cw := H7.out.rx.rm.word (vn + 1 + fn) (by omega)
      have cf := H7.out.rx.rm.frozenq (vn + 1 + fn)
      have nrp : rp ≠ rq := H7.out.rx.rm.ne
      have nrr : rb ≠ rq := Ne.symm H7.out.rx.qb
      have hd7 := (Below.refl w7.heap.size w7).drew
      go_upto_region 55 with fail
      refine wp_region_noPanic ?_
      go_region_held3 (fun w' => w'.cell? ⟨rp, 0, none⟩ = some (.slice (some ⟨rq, 0, none⟩) (N + O) (N + O)) ∧ w'.cell? ⟨xb, 2, none⟩ = some (.int .i64 (fn : Int)) ∧ w'.cell? ⟨rb, kc, none⟩ = some (.int .i64 xc)) (first | exact ⟨e0, u2, rc2⟩ | exact ⟨(cell_se nrp).trans e0, (cell_se xrq).trans u2, (cell_se nrr).trans rc2⟩ | go_keep) (fail)
      refine NoPanic.normal ?_
      have HX8 : Hid (((w7.setCell ⟨rq, vn + 1 + fn, none⟩ (.int .i64 xc)).drew).heap[xb]? = some (.cells #[.int .i64 2, .int .i64 A, .int .i64 (fn : Int), .int .i64 C, .int .i64 X] 52 (0, 0))) := (show (w7.setCell ⟨rq, vn + 1 + fn, none⟩ (.int .i64 xc)).heap[xb]? = _ from (Below.heap_setCell _ _ _ _ xrq).trans HX7.out)
      have H8 : Hid (Wx w1 ((w7.setCell ⟨rq, vn + 1 + fn, none⟩ (.int .i64 xc)).drew) pw p q pc pq sd nb rp rq rb N O y g (ws.set (vn + 1 + fn) xc) M rs y g (ws.set (vn + 1 + fn) xc) M rs (.slice da M.length dc)) := (H7.out.wordR (vn + 1 + fn) xc).below ((Below.refl _ _).drew)
      clear u2 e0 rc2 cw cf hd7
      generalize (w7.setCell ⟨rq, vn + 1 + fn, none⟩ (.int .i64 xc)).drew = w8 at *
      obtain ⟨rc3, _⟩ := HRR2.out _ _ _ H8.out
      go_wp2_with fail
      refine (KZ.out w8).mono ?_
      rintro e w9 ⟨rfl, hb9⟩
      dsimp only
      have H9 : Hid (Wx w1 w9 pw p q pc pq sd nb rp rq rb N O y g (ws.set (vn + 1 + fn) xc) M rs y g (ws.set (vn + 1 + fn) xc) M rs (.slice da M.length dc)) := H8.out.below hb9
      have HX9 : Hid (w9.heap[xb]? = some (.cells #[.int .i64 2, .int .i64 A, .int .i64 (fn : Int), .int .i64 C, .int .i64 X] 52 (0, 0))) := (hb9.block xb (lt_of_some HX8.out)).trans HX8.out
      clear rc3 hb9 KZ
      go_wp2_with fail
      refine (KO.out w9 H9.out.rx.rm).mono ?_
      rintro e w10 ⟨rfl, hb10⟩
      dsimp only
      have H10 : Hid (Wx w1 w10 pw p q pc pq sd nb rp rq rb N O y g (ws.set (vn + 1 + fn) xc) M rs y g (ws.set (vn + 1 + fn) xc) M rs (.slice da M.length dc)) := H9.out.below hb10
      have HX10 : Hid (w10.heap[xb]? = some (.cells #[.int .i64 2, .int .i64 A, .int .i64 (fn : Int), .int .i64 C, .int .i64 X] 52 (0, 0))) := (hb10.block xb (lt_of_some HX9.out)).trans HX9.out
      clear hb10 KO
      go_wp2_with fail
      exact HQ.out _ _ _ _ _ _ _ _ _ _ _ _ _ _ _ _ _ _ _ _ _ _ _ _ _ _ _ _ _ _ _ _ _ _ _ _ _ _ _ _ _ _ _ _ _ _ _ _ _ _ _ _ _ _ _ _ _ _ _ _ _ _ _ _ _ _ _ _ _ _ _ _ _ _ _ _ _ _ _ _ _ _ _ _ _ _ _ _ _ _ _ _ _ _ _ _ _ _ _ _ _ _ _ _ _ _ _ _ _ _ _ _ _ _ _ _ _ _ _ _ _ _ _ _ _ _ _ _ _ _ _ _ _ _ _ _ _ _ _ _ _ _ _ _ _ _ _ _ _ _ _ _ _ _ _ _ _ _ _ _ _ _ _ _ _ _ _ _ _ _ _ _ _ _ _ _ _ _ _ _ _ _ _ _ _ _ _ _ _ _ _ _ _ _ _ _ _ _ _ _ _ _ _ _ _ _ _ _ _ _ _ _ _ _ _ _ _ _ _ _ _ _ _ _ _ _ _ _ _ _ _ _ _ _ _ _ _ _ _ _ _ _ _ _ _ _ _ _ _ _ _ _ _ _ _ _ _ _ _ _ _ _ _ _ _ _ _ _ _ _ _ _ _ _ _ _ _ _ _ _ _ _ _ M _ Y G da dc w10 H10.out HI8.out HX10.out (by omega)
    · cases by0 : hB 0 y (aV xc)
      · as_aux_lemma =>
        rw [bz, bo, by0] at hsm0
        rw [bz] at KZ
        rw [bo] at KO
        rw [by0] at KY
        have hsm : stM N y g ws xa (fn : Int) xc (nC O) M = M := by rw [hsm0]; simp
        clear hsm0 hmk
        go_wp2_with fail
        refine KA.mono ?_
        clear KA
        rintro e w5 ⟨rfl, hb5⟩
        dsimp only
        have H5 : Hid (Wx w1 w5 pw p q pc pq sd nb rp rq rb N O y g ws M rs y g ws M rs (.slice da M.length dc)) := H.out.below hb5
        have HX5 : Hid (w5.heap[xb]? = some (.cells #[.int .i64 2, .int .i64 A, .int .i64 (fn : Int), .int .i64 C, .int .i64 X] 52 (0, 0))) := (hb5.block xb lxb).trans HX.out
        clear z0 z1 z2 z3 z4 c0 c1 c3 cr hd hb5
        clear ra
        go_wp2_with fail
        refine (PT.out w5 H5.out.rx.rm).mono ?_
        rintro e w6 ⟨rfl, hb6⟩
        dsimp only
        have H6 : Hid (Wx w1 w6 pw p q pc pq sd nb rp rq rb N O y g ws M rs y g ws M rs (.slice da M.length dc)) := H5.out.below hb6
        have HX6 : Hid (w6.heap[xb]? = some (.cells #[.int .i64 2, .int .i64 A, .int .i64 (fn : Int), .int .i64 C, .int .i64 X] 52 (0, 0))) := (hb6.block xb (lt_of_some HX5.out)).trans HX5.out
        clear hb6 PT
        obtain ⟨q0, _, q2, _, _⟩ := cellx HX6.out
        obtain ⟨_, _, d3, _⟩ := H6.out.cells
        obtain ⟨y0, _, y2, _, _⟩ := cellx HX6.out
        obtain ⟨rA, rC⟩ := HR2.out _ _ _ H6.out
        have hdW := (Below.refl w6.heap.size w6).drew
        have P := set_any (w := w6.drew) xa (fn : Int) xc (H6.out.below hdW).wf.wod (by omega)
        rw [hcd, hst, hsm] at P
        go_upto_region 52 with fail
        refine wp_region_noPanic ?_
        go_region_held3 (fun w' => w'.cell? ⟨pw, 3, none⟩ = some (.slice (some ⟨nb, 0, none⟩) 12 12) ∧ w'.cell? ⟨nb, ka, none⟩ = some (.int .i64 xa) ∧ w'.cell? ⟨nb, kc, none⟩ = some (.int .i64 xc) ∧ w'.cell? ⟨xb, 2, none⟩ = some (.int .i64 (fn : Int))) (first | exact ⟨d3, rA, rC, y2⟩ | exact ⟨u0, u1.1, u1.2, u2⟩ | go_keep)
          (first | (go_at_call 27; refine P.mono ?_; rintro e w7 ⟨rfl, hw7, f7⟩; dsimp only; have H7 : Hid (Wx w1 w7 pw p q pc pq sd nb rp rq rb N O y g (ws.set (vn + 1 + fn) xc) M rs y g ws M rs (.slice da M.length dc)) := (H6.out.below hdW).wood ((H6.out.below hdW).wf.turn hw7 f7) f7 (fun _ e => four e); have HX7 : Hid (w7.heap[xb]? = some (.cells #[.int .i64 2, .int .i64 A, .int .i64 (fn : Int), .int .i64 C, .int .i64 X] 52 (0, 0))) := box_w (H6.out.below hdW) ((hdW.block xb (lt_of_some HX6.out)).trans HX6.out) f7 (fun _ e => Or.inl (four e)); obtain ⟨_, _, u2, _, _⟩ := cellx HX7.out; have u0 := H7.out.cells.2.2.1; have u1 := HR2.out _ _ _ H7.out; clear hw7 f7))
        refine NoPanic.normal ?_
        clear P d3 y0 y2 rA rC u1
        clear q0 q2 u0
        have e0 := H7.out.cells.2.2.2
        obtain ⟨rc2, _⟩ := HRR.out _ _ _ H7.out
        have cw := H7.out.rx.rm.word (vn + 1 + fn) (by omega)
        have cf := H7.out.rx.rm.frozenq (vn + 1 + fn)
        have nrp : rp ≠ rq := H7.out.rx.rm.ne
        have nrr : rb ≠ rq := Ne.symm H7.out.rx.qb
        have hd7 := (Below.refl w7.heap.size w7).drew
        go_upto_region 55 with fail
        refine wp_region_noPanic ?_
        go_region_held3 (fun w' => w'.cell? ⟨rp, 0, none⟩ = some (.slice (some ⟨rq, 0, none⟩) (N + O) (N + O)) ∧ w'.cell? ⟨xb, 2, none⟩ = some (.int .i64 (fn : Int)) ∧ w'.cell? ⟨rb, kc, none⟩ = some (.int .i64 xc)) (first | exact ⟨e0, u2, rc2⟩ | exact ⟨(cell_se nrp).trans e0, (cell_se xrq).trans u2, (cell_se nrr).trans rc2⟩ | go_keep) (fail)
        refine NoPanic.normal ?_
        have HX8 : Hid (((w7.setCell ⟨rq, vn + 1 + fn, none⟩ (.int .i64 xc)).drew).heap[xb]? = some (.cells #[.int .i64 2, .int .i64 A, .int .i64 (fn : Int), .int .i64 C, .int .i64 X] 52 (0, 0))) := (show (w7.setCell ⟨rq, vn + 1 + fn, none⟩ (.int .i64 xc)).heap[xb]? = _ from (Below.heap_setCell _ _ _ _ xrq).trans HX7.out)
        have H8 : Hid (Wx w1 ((w7.setCell ⟨rq, vn + 1 + fn, none⟩ (.int .i64 xc)).drew) pw p q pc pq sd nb rp rq rb N O y g (ws.set (vn + 1 + fn) xc) M rs y g (ws.set (vn + 1 + fn) xc) M rs (.slice da M.length dc)) := (H7.out.wordR (vn + 1 + fn) xc).below ((Below.refl _ _).drew)
        clear u2 e0 rc2 cw cf hd7
        generalize (w7.setCell ⟨rq, vn + 1 + fn, none⟩ (.int .i64 xc)).drew = w8 at *
        obtain ⟨rc3, _⟩ := HRR2.out _ _ _ H8.out
        go_wp2_with fail
        refine (KZ.out w8).mono ?_
        rintro e w9 ⟨rfl, hb9⟩
        dsimp only
        have H9 : Hid (Wx w1 w9 pw p q pc pq sd nb rp rq rb N O y g (ws.set (vn + 1 + fn) xc) M rs y g (ws.set (vn + 1 + fn) xc) M rs (.slice da M.length dc)) := H8.out.below hb9
        have HX9 : Hid (w9.heap[xb]? = some (.cells #[.int .i64 2, .int .i64 A, .int .i64 (fn : Int), .int .i64 C, .int .i64 X] 52 (0, 0))) := (hb9.block xb (lt_of_some HX8.out)).trans HX8.out
        clear rc3 hb9 KZ
        go_wp2_with fail
        refine (KO.out w9 H9.out.rx.rm).mono ?_
        rintro e w10 ⟨rfl, hb10⟩
        dsimp only
        have H10 : Hid (Wx w1 w10 pw p q pc pq sd nb rp rq rb N O y g (ws.set (vn + 1 + fn) xc) M rs y g (ws.set (vn + 1 + fn) xc) M rs (.slice da M.length dc)) := H9.out.below hb10
        have HX10 : Hid (w10.heap[xb]? = some (.cells #[.int .i64 2, .int .i64 A, .int .i64 (fn : Int), .int .i64 C, .int .i64 X] 52 (0, 0))) := (hb10.block xb (lt_of_some HX9.out)).trans HX9.out
        clear hb10 KO
        go_wp2_with fail
        refine (KY.out w10 H10.out.rx.rm).mono ?_
        rintro e w11 ⟨rfl, hb11⟩
        dsimp only
        have H11 : Hid (Wx w1 w11 pw p q pc pq sd nb rp rq rb N O y g (ws.set (vn + 1 + fn) xc) M rs y g (ws.set (vn + 1 + fn) xc) M rs (.slice da M.length dc)) := H10.out.below hb11
        have HX11 : Hid (w11.heap[xb]? = some (.cells #[.int .i64 2, .int .i64 A, .int .i64 (fn : Int), .int .i64 C, .int .i64 X] 52 (0, 0))) := (hb11.block xb (lt_of_some HX10.out)).trans HX10.out
        clear hb11 KY
        go_wp2_with fail
        exact HQ.out _ _ _ _ _ _ _ _ _ _ _ _ _ _ _ _ _ _ _ _ _ _ _ _ _ _ _ _ _ _ _ _ _ _ _ _ _ _ _ _ _ _ _ _ _ _ _ _ _ _ _ _ _ _ _ _ _ _ _ _ _ _ _ _ _ _ _ _ _ _ _ _ _ _ _ _ _ _ _ _ _ _ _ _ _ _ _ _ _ _ _ _ _ _ _ _ _ _ _ _ _ _ _ _ _ _ _ _ _ _ _ _ _ _ _ _ _ _ _ _ _ _ _ _ _ _ _ _ _ _ _ _ _ _ _ _ _ _ _ _ _ _ _ _ _ _ _ _ _ _ _ _ _ _ _ _ _ _ _ _ _ _ _ _ _ _ _ _ _ _ _ _ _ _ _ _ _ _ _ _ _ _ _ _ _ _ _ _ _ _ _ _ _ _ _ _ _ _ _ _ _ _ _ _ _ _ _ _ _ _ _ _ _ _ _ _ _ _ _ _ _ _ _ _ _ _ _ _ _ _ _ _ _ _ _ _ _ _ _ _ _ _ _ _ _ _ _ _ _ _ _ _ _ _ _ _ _ _ _ _ _ _ _ _ _ _ _ _ _ _ _ _ _ _ _ _ _ _ _ _ _ _ _ M _ Y G da dc w11 H11.out HI8.out HX11.out (by omega)
      · cases bc : M.contains (((vn : Int) - N) / 8)
        · as_aux_lemma =>
          rw [bz, bo, by0] at hsm0
          rw [bz] at KZ
          rw [bo] at KO
          rw [by0] at KY
          obtain ⟨mk, nv⟩ := hmk.out bo
          have hsm : stM N y g ws xa (fn : Int) xc (nC O) M = (M ++ [((vn : Int) - N) / 8]) := by rw [hsm0, if_pos (show (true && true && true) = true from rfl), mk]; unfold addM; rw [bc, if_neg (by simp)]
          clear hsm0 hmk mk
          go_wp2_with fail
          refine KA.mono ?_
          clear KA
          rintro e w5 ⟨rfl, hb5⟩
          dsimp only
          have H5 : Hid (Wx w1 w5 pw p q pc pq sd nb rp rq rb N O y g ws M rs y g ws M rs (.slice da M.length dc)) := H.out.below hb5
          have HX5 : Hid (w5.heap[xb]? = some (.cells #[.int .i64 2, .int .i64 A, .int .i64 (fn : Int), .int .i64 C, .int .i64 X] 52 (0, 0))) := (hb5.block xb lxb).trans HX.out
          clear z0 z1 z2 z3 z4 c0 c1 c3 cr hd hb5
          clear ra
          go_wp2_with fail
          refine (PT.out w5 H5.out.rx.rm).mono ?_
          rintro e w6 ⟨rfl, hb6⟩
          dsimp only
          have H6 : Hid (Wx w1 w6 pw p q pc pq sd nb rp rq rb N O y g ws M rs y g ws M rs (.slice da M.length dc)) := H5.out.below hb6
          have HX6 : Hid (w6.heap[xb]? = some (.cells #[.int .i64 2, .int .i64 A, .int .i64 (fn : Int), .int .i64 C, .int .i64 X] 52 (0, 0))) := (hb6.block xb (lt_of_some HX5.out)).trans HX5.out
          clear hb6 PT
          obtain ⟨q0, _, q2, _, _⟩ := cellx HX6.out
          obtain ⟨_, _, d3, _⟩ := H6.out.cells
          obtain ⟨y0, _, y2, _, _⟩ := cellx HX6.out
          obtain ⟨rA, rC⟩ := HR2.out _ _ _ H6.out
          have hdW := (Below.refl w6.heap.size w6).drew
          have P := set_any (w := w6.drew) xa (fn : Int) xc (H6.out.below hdW).wf.wod (by omega)
          rw [hcd, hst, hsm] at P
          go_upto_region 52 with fail
          refine wp_region_noPanic ?_
          go_region_held3 (fun w' => w'.cell? ⟨pw, 3, none⟩ = some (.slice (some ⟨nb, 0, none⟩) 12 12) ∧ w'.cell? ⟨nb, ka, none⟩ = some (.int .i64 xa) ∧ w'.cell? ⟨nb, kc, none⟩ = some (.int .i64 xc) ∧ w'.cell? ⟨xb, 2, none⟩ = some (.int .i64 (fn : Int))) (first | exact ⟨d3, rA, rC, y2⟩ | exact ⟨u0, u1.1, u1.2, u2⟩ | go_keep)
            (first | (go_at_call 27; refine P.mono ?_; rintro e w7 ⟨rfl, hw7, f7⟩; dsimp only; have H7 : Hid (Wx w1 w7 pw p q pc pq sd nb rp rq rb N O y g (ws.set (vn + 1 + fn) xc) (M ++ [((vn : Int) - N) / 8]) rs y g ws M rs (.slice da M.length dc)) := (H6.out.below hdW).wood ((H6.out.below hdW).wf.turn hw7 f7) f7 (fun _ e => four e); have HX7 : Hid (w7.heap[xb]? = some (.cells #[.int .i64 2, .int .i64 A, .int .i64 (fn : Int), .int .i64 C, .int .i64 X] 52 (0, 0))) := box_w (H6.out.below hdW) ((hdW.block xb (lt_of_some HX6.out)).trans HX6.out) f7 (fun _ e => Or.inl (four e)); obtain ⟨_, _, u2, _, _⟩ := cellx HX7.out; have u0 := H7.out.cells.2.2.1; have u1 := HR2.out _ _ _ H7.out; clear hw7 f7))
          refine NoPanic.normal ?_
          clear P d3 y0 y2 rA rC u1
          clear q0 q2 u0
          have e0 := H7.out.cells.2.2.2
          obtain ⟨rc2, _⟩ := HRR.out _ _ _ H7.out
          have cw := H7.out.rx.rm.word (vn + 1 + fn) (by omega)
          have cf := H7.out.rx.rm.frozenq (vn + 1 + fn)
          have nrp : rp ≠ rq := H7.out.rx.rm.ne
          have nrr : rb ≠ rq := Ne.symm H7.out.rx.qb
          have hd7 := (Below.refl w7.heap.size w7).drew
          go_upto_region 55 with fail
          refine wp_region_noPanic ?_
          go_region_held3 (fun w' => w'.cell? ⟨rp, 0, none⟩ = some (.slice (some ⟨rq, 0, none⟩) (N + O) (N + O)) ∧ w'.cell? ⟨xb, 2, none⟩ = some (.int .i64 (fn : Int)) ∧ w'.cell? ⟨rb, kc, none⟩ = some (.int .i64 xc)) (first | exact ⟨e0, u2, rc2⟩ | exact ⟨(cell_se nrp).trans e0, (cell_se xrq).trans u2, (cell_se nrr).trans rc2⟩ | go_keep) (fail)
          refine NoPanic.normal ?_
          have HX8 : Hid (((w7.setCell ⟨rq, vn + 1 + fn, none⟩ (.int .i64 xc)).drew).heap[xb]? = some (.cells #[.int .i64 2, .int .i64 A, .int .i64 (fn : Int), .int .i64 C, .int .i64 X] 52 (0, 0))) := (show (w7.setCell ⟨rq, vn + 1 + fn, none⟩ (.int .i64 xc)).heap[xb]? = _ from (Below.heap_setCell _ _ _ _ xrq).trans HX7.out)
          have H8 : Hid (Wx w1 ((w7.setCell ⟨rq, vn + 1 + fn, none⟩ (.int .i64 xc)).drew) pw p q pc pq sd nb rp rq rb N O y g (ws.set (vn + 1 + fn) xc) (M ++ [((vn : Int) - N) / 8]) rs y g (ws.set (vn + 1 + fn) xc) M rs (.slice da M.length dc)) := (H7.out.wordR (vn + 1 + fn) xc).below ((Below.refl _ _).drew)
          clear u2 e0 rc2 cw cf hd7
          generalize (w7.setCell ⟨rq, vn + 1 + fn, none⟩ (.int .i64 xc)).drew = w8 at *
          obtain ⟨rc3, _⟩ := HRR2.out _ _ _ H8.out
          go_wp2_with fail
          refine (KZ.out w8).mono ?_
          rintro e w9 ⟨rfl, hb9⟩
          dsimp only
          have H9 : Hid (Wx w1 w9 pw p q pc pq sd nb rp rq rb N O y g (ws.set (vn + 1 + fn) xc) (M ++ [((vn : Int) - N) / 8]) rs y g (ws.set (vn + 1 + fn) xc) M rs (.slice da M.length dc)) := H8.out.below hb9
          have HX9 : Hid (w9.heap[xb]? = some (.cells #[.int .i64 2, .int .i64 A, .int .i64 (fn : Int), .int .i64 C, .int .i64 X] 52 (0, 0))) := (hb9.block xb (lt_of_some HX8.out)).trans HX8.out
          clear rc3 hb9 KZ
          go_wp2_with fail
          refine (KO.out w9 H9.out.rx.rm).mono ?_
          rintro e w10 ⟨rfl, hb10⟩
          dsimp only
          have H10 : Hid (Wx w1 w10 pw p q pc pq sd nb rp rq rb N O y g (ws.set (vn + 1 + fn) xc) (M ++ [((vn : Int) - N) / 8]) rs y g (ws.set (vn + 1 + fn) xc) M rs (.slice da M.length dc)) := H9.out.below hb10
          have HX10 : Hid (w10.heap[xb]? = some (.cells #[.int .i64 2, .int .i64 A, .int .i64 (fn : Int), .int .i64 C, .int .i64 X] 52 (0, 0))) := (hb10.block xb (lt_of_some HX9.out)).trans HX9.out
          clear hb10 KO
          go_wp2_with fail
          refine (KY.out w10 H10.out.rx.rm).mono ?_
          rintro e w11 ⟨rfl, hb11⟩
          dsimp only
          have H11 : Hid (Wx w1 w11 pw p q pc pq sd nb rp rq rb N O y g (ws.set (vn + 1 + fn) xc) (M ++ [((vn : Int) - N) / 8]) rs y g (ws.set (vn + 1 + fn) xc) M rs (.slice da M.length dc)) := H10.out.below hb11
          have HX11 : Hid (w11.heap[xb]? = some (.cells #[.int .i64 2, .int .i64 A, .int .i64 (fn : Int), .int .i64 C, .int .i64 X] 52 (0, 0))) := (hb11.block xb (lt_of_some HX10.out)).trans HX10.out
          clear hb11 KY
          have PI := in_row (((vn : Int) - (N : Int)) / 8) w11 H11.out.rx.dr (by omega)
          rw [bc] at PI
          go_wp2_with fail
          refine PI.mono ?_
          clear PI
          rintro e w12 ⟨rfl, hw12⟩
          dsimp only
          have H12 : Hid (Wx w1 w12 pw p q pc pq sd nb rp rq rb N O y g (ws.set (vn + 1 + fn) xc) (M ++ [((vn : Int) - N) / 8]) rs y g (ws.set (vn + 1 + fn) xc) M rs (.slice da M.length dc)) := by show Wx _ _ _ _ _ _ _ _ _ _ _ _ _ _ _ _ _ _ _ _ _ _ _ _ _; rw [hw12]; exact H11.out
          have HX12 : Hid (w12.heap[xb]? = some (.cells #[.int .i64 2, .int .i64 A, .int .i64 (fn : Int), .int .i64 C, .int .i64 X] 52 (0, 0))) := by show _ = _; rw [hw12]; exact HX11.out
          clear hw12
          have HD : Hid (w12.ownsRow w1.heap.size 3 1 (.slice da M.length dc) M.length (M.map (Value.int .i64))) := H12.out.rx.dr
          have hB12 := H12.out.bel.size
          go_wp2_with (at_builtin; refine wpList_append_own_at _ rfl _ _ 50 rfl w1.heap.size 3 i0 (.int .i64 0) 1 8 Try.underlying50 hi hz0 hz1 hz2 rfl (by decide) (.slice da M.length dc) M.length (M.map (Value.int .i64)) rfl (row_alloc HD.out _) ⟨w12.heap.size, 0, none⟩ 1 1 [.int .i64 (((vn : Int) - (N : Int)) / 8)] rfl rfl ?_ ?_ ?_ ?_ ?_ ?_; (intro j u hj; match j, hj with | 0, hj => (simp at hj; subst hj; simp [Addr.add])); (intro u hu; simp at hu; subst hu; rfl); (unfold maxLen; omega); omega; (simp; omega); intro v' w13 hown hgrow _ hloc; obtain ⟨b4, cap4, ev4⟩ := row_shape hown (Nat.succ_pos _); subst ev4; have HG : Hid (_ ∧ _ ∧ _) := ⟨hown, hgrow, hloc⟩; clear hown hgrow hloc)
          obtain ⟨hown, hgrow, hloc⟩ := HG.out
          have hba := (Below.refl w12.heap.size w12).alloc (Nat.le_refl _) (.cells #[.int .i64 (((vn : Int) - N) / 8)] 3)
          have H13 : Hid (Wx w1 w13 pw p q pc pq sd nb rp rq rb N O y g (ws.set (vn + 1 + fn) xc) (M ++ [((vn : Int) - N) / 8]) rs y g (ws.set (vn + 1 + fn) xc) (M ++ [((vn : Int) - N) / 8]) rs (.slice (some ⟨b4, 0, none⟩) (M ++ [((vn : Int) - N) / 8]).length cap4)) := (H12.out.below hba).dirt hgrow (by simpa using hown) (fun k e => by
            rcases hloc with c | c
            · exact Or.inl (by rw [e]; simpa [Value.ownBlock] using c)
            · exact Or.inr (by simp [Value.ownBlock] at e c; simp; omega))
          have HX13 : Hid (w13.heap[xb]? = some (.cells #[.int .i64 2, .int .i64 A, .int .i64 (fn : Int), .int .i64 C, .int .i64 X] 52 (0, 0))) := (hgrow.block xb (by have := lt_of_some HX12.out; simp; omega) (fun c => (H12.out.box HX12.out).2 (Or.inr (Or.inr (Or.inr c))))).trans ((hba.block xb (lt_of_some HX12.out)).trans HX12.out)
          clear hown hgrow hloc hba HG
          go_wp2_with fail
          rw [show M.length + 1 = (M ++ [((vn : Int) - N) / 8]).length by simp]
          exact HQ.out _ _ _ _ _ _ _ _ _ _ _ _ _ _ _ _ _ _ _ _ _ _ _ _ _ _ _ _ _ _ _ _ _ _ _ _ _ _ _ _ _ _ _ _ _ _ _ _ _ _ _ _ _ _ _ _ _ _ _ _ _ _ _ _ _ _ _ _ _ _ _ _ _ _ _ _ _ _ _ _ _ _ _ _ _ _ _ _ _ _ _ _ _ _ _ _ _ _ _ _ _ _ _ _ _ _ _ _ _ _ _ _ _ _ _ _ _ _ _ _ _ _ _ _ _ _ _ _ _ _ _ _ _ _ _ _ _ _ _ _ _ _ _ _ _ _ _ _ _ _ _ _ _ _ _ _ _ _ _ _ _ _ _ _ _ _ _ _ _ _ _ _ _ _ _ _ _ _ _ _ _ _ _ _ _ _ _ _ _ _ _ _ _ _ _ _ _ _ _ _ _ _ _ _ _ _ _ _ _ _ _ _ _ _ _ _ _ _ _ _ _ _ _ _ _ _ _ _ _ _ _ _ _ _ _ _ _ _ _ _ _ _ _ _ _ _ _ _ _ _ _ _ _ _ _ _ _ _ _ _ _ _ _ _ _ _ _ _ _ _ _ _ _ _ _ _ _ _ _ _ _ _ _ (M ++ [((vn : Int) - N) / 8]) _ Y G (some ⟨b4, 0, none⟩) cap4 w13 H13.out HI8.out HX13.out (by simp)
        · as_aux_lemma =>
          rw [bz, bo, by0] at hsm0
          rw [bz] at KZ
          rw [bo] at KO
          rw [by0] at KY
          obtain ⟨mk, nv⟩ := hmk.out bo
          have hsm : stM N y g ws xa (fn : Int) xc (nC O) M = M := by rw [hsm0, if_pos (show (true && true && true) = true from rfl), mk]; unfold addM; rw [bc, if_pos rfl]
          clear hsm0 hmk mk
          go_wp2_with fail
          refine KA.mono ?_
          clear KA
          rintro e w5 ⟨rfl, hb5⟩
          dsimp only
          have H5 : Hid (Wx w1 w5 pw p q pc pq sd nb rp rq rb N O y g ws M rs y g ws M rs (.slice da M.length dc)) := H.out.below hb5
          have HX5 : Hid (w5.heap[xb]? = some (.cells #[.int .i64 2, .int .i64 A, .int .i64 (fn : Int), .int .i64 C, .int .i64 X] 52 (0, 0))) := (hb5.block xb lxb).trans HX.out
          clear z0 z1 z2 z3 z4 c0 c1 c3 cr hd hb5
          clear ra
          go_wp2_with fail
          refine (PT.out w5 H5.out.rx.rm).mono ?_
          rintro e w6 ⟨rfl, hb6⟩
          dsimp only
          have H6 : Hid (Wx w1 w6 pw p q pc pq sd nb rp rq rb N O y g ws M rs y g ws M rs (.slice da M.length dc)) := H5.out.below hb6
          have HX6 : Hid (w6.heap[xb]? = some (.cells #[.int .i64 2, .int .i64 A, .int .i64 (fn : Int), .int .i64 C, .int .i64 X] 52 (0, 0))) := (hb6.block xb (lt_of_some HX5.out)).trans HX5.out
          clear hb6 PT
          obtain ⟨q0, _, q2, _, _⟩ := cellx HX6.out
          obtain ⟨_, _, d3, _⟩ := H6.out.cells
          obtain ⟨y0, _, y2, _, _⟩ := cellx HX6.out
          obtain ⟨rA, rC⟩ := HR2.out _ _ _ H6.out
          have hdW := (Below.refl w6.heap.size w6).drew
          have P := set_any (w := w6.drew) xa (fn : Int) xc (H6.out.below hdW).wf.wod (by omega)
          rw [hcd, hst, hsm] at P
          go_upto_region 52 with fail
          refine wp_region_noPanic ?_
          go_region_held3 (fun w' => w'.cell? ⟨pw, 3, none⟩ = some (.slice (some ⟨nb, 0, none⟩) 12 12) ∧ w'.cell? ⟨nb, ka, none⟩ = some (.int .i64 xa) ∧ w'.cell? ⟨nb, kc, none⟩ = some (.int .i64 xc) ∧ w'.cell? ⟨xb, 2, none⟩ = some (.int .i64 (fn : Int))) (first | exact ⟨d3, rA, rC, y2⟩ | exact ⟨u0, u1.1, u1.2, u2⟩ | go_keep)
            (first | (go_at_call 27; refine P.mono ?_; rintro e w7 ⟨rfl, hw7, f7⟩; dsimp only; have H7 : Hid (Wx w1 w7 pw p q pc pq sd nb rp rq rb N O y g (ws.set (vn + 1 + fn) xc) M rs y g ws M rs (.slice da M.length dc)) := (H6.out.below hdW).wood ((H6.out.below hdW).wf.turn hw7 f7) f7 (fun _ e => four e); have HX7 : Hid (w7.heap[xb]? = some (.cells #[.int .i64 2, .int .i64 A, .int .i64 (fn : Int), .int .i64 C, .int .i64 X] 52 (0, 0))) := box_w (H6.out.below hdW) ((hdW.block xb (lt_of_some HX6.out)).trans HX6.out) f7 (fun _ e => Or.inl (four e)); obtain ⟨_, _, u2, _, _⟩ := cellx HX7.out; have u0 := H7.out.cells.2.2.1; have u1 := HR2.out _ _ _ H7.out; clear hw7 f7))
          refine NoPanic.normal ?_
          clear P d3 y0 y2 rA rC u1
          clear q0 q2 u0
          have e0 := H7.out.cells.2.2.2
          obtain ⟨rc2, _⟩ := HRR.out _ _ _ H7.out
          have cw := H7.out.rx.rm.word (vn + 1 + fn) (by omega)
          have cf := H7.out.rx.rm.frozenq (vn + 1 + fn)
          have nrp : rp ≠ rq := H7.out.rx.rm.ne
          have nrr : rb ≠ rq := Ne.symm H7.out.rx.qb
          have hd7 := (Below.refl w7.heap.size w7).drew
          go_upto_region 55 with fail
          refine wp_region_noPanic ?_
          go_region_held3 (fun w' => w'.cell? ⟨rp, 0, none⟩ = some (.slice (some ⟨rq, 0, none⟩) (N + O) (N + O)) ∧ w'.cell? ⟨xb, 2, none⟩ = some (.int .i64 (fn : Int)) ∧ w'.cell? ⟨rb, kc, none⟩ = some (.int .i64 xc)) (first | exact ⟨e0, u2, rc2⟩ | exact ⟨(cell_se nrp).trans e0, (cell_se xrq).trans u2, (cell_se nrr).trans rc2⟩ | go_keep) (fail)
          refine NoPanic.normal ?_
          have HX8 : Hid (((w7.setCell ⟨rq, vn + 1 + fn, none⟩ (.int .i64 xc)).drew).heap[xb]? = some (.cells #[.int .i64 2, .int .i64 A, .int .i64 (fn : Int), .int .i64 C, .int .i64 X] 52 (0, 0))) := (show (w7.setCell ⟨rq, vn + 1 + fn, none⟩ (.int .i64 xc)).heap[xb]? = _ from (Below.heap_setCell _ _ _ _ xrq).trans HX7.out)
          have H8 : Hid (Wx w1 ((w7.setCell ⟨rq, vn + 1 + fn, none⟩ (.int .i64 xc)).drew) pw p q pc pq sd nb rp rq rb N O y g (ws.set (vn + 1 + fn) xc) M rs y g (ws.set (vn + 1 + fn) xc) M rs (.slice da M.length dc)) := (H7.out.wordR (vn + 1 + fn) xc).below ((Below.refl _ _).drew)
          clear u2 e0 rc2 cw cf hd7
          generalize (w7.setCell ⟨rq, vn + 1 + fn, none⟩ (.int .i64 xc)).drew = w8 at *
          obtain ⟨rc3, _⟩ := HRR2.out _ _ _ H8.out
          go_wp2_with fail
          refine (KZ.out w8).mono ?_
          rintro e w9 ⟨rfl, hb9⟩
          dsimp only
          have H9 : Hid (Wx w1 w9 pw p q pc pq sd nb rp rq rb N O y g (ws.set (vn + 1 + fn) xc) M rs y g (ws.set (vn + 1 + fn) xc) M rs (.slice da M.length dc)) := H8.out.below hb9
          have HX9 : Hid (w9.heap[xb]? = some (.cells #[.int .i64 2, .int .i64 A, .int .i64 (fn : Int), .int .i64 C, .int .i64 X] 52 (0, 0))) := (hb9.block xb (lt_of_some HX8.out)).trans HX8.out
          clear rc3 hb9 KZ
          go_wp2_with fail
          refine (KO.out w9 H9.out.rx.rm).mono ?_
          rintro e w10 ⟨rfl, hb10⟩
          dsimp only
          have H10 : Hid (Wx w1 w10 pw p q pc pq sd nb rp rq rb N O y g (ws.set (vn + 1 + fn) xc) M rs y g (ws.set (vn + 1 + fn) xc) M rs (.slice da M.length dc)) := H9.out.below hb10
          have HX10 : Hid (w10.heap[xb]? = some (.cells #[.int .i64 2, .int .i64 A, .int .i64 (fn : Int), .int .i64 C, .int .i64 X] 52 (0, 0))) := (hb10.block xb (lt_of_some HX9.out)).trans HX9.out
          clear hb10 KO
          go_wp2_with fail
          refine (KY.out w10 H10.out.rx.rm).mono ?_
          rintro e w11 ⟨rfl, hb11⟩
          dsimp only
          have H11 : Hid (Wx w1 w11 pw p q pc pq sd nb rp rq rb N O y g (ws.set (vn + 1 + fn) xc) M rs y g (ws.set (vn + 1 + fn) xc) M rs (.slice da M.length dc)) := H10.out.below hb11
          have HX11 : Hid (w11.heap[xb]? = some (.cells #[.int .i64 2, .int .i64 A, .int .i64 (fn : Int), .int .i64 C, .int .i64 X] 52 (0, 0))) := (hb11.block xb (lt_of_some HX10.out)).trans HX10.out
          clear hb11 KY
          have PI := in_row (((vn : Int) - (N : Int)) / 8) w11 H11.out.rx.dr (by omega)
          rw [bc] at PI
          go_wp2_with fail
          refine PI.mono ?_
          clear PI
          rintro e w12 ⟨rfl, hw12⟩
          dsimp only
          have H12 : Hid (Wx w1 w12 pw p q pc pq sd nb rp rq rb N O y g (ws.set (vn + 1 + fn) xc) M rs y g (ws.set (vn + 1 + fn) xc) M rs (.slice da M.length dc)) := by show Wx _ _ _ _ _ _ _ _ _ _ _ _ _ _ _ _ _ _ _ _ _ _ _ _ _; rw [hw12]; exact H11.out
          have HX12 : Hid (w12.heap[xb]? = some (.cells #[.int .i64 2, .int .i64 A, .int .i64 (fn : Int), .int .i64 C, .int .i64 X] 52 (0, 0))) := by show _ = _; rw [hw12]; exact HX11.out
          clear hw12
          go_wp2_with fail
          exact HQ.out _ _ _ _ _ _ _ _ _ _ _ _ _ _ _ _ _ _ _ _ _ _ _ _ _ _ _ _ _ _ _ _ _ _ _ _ _ _ _ _ _ _ _ _ _ _ _ _ _ _ _ _ _ _ _ _ _ _ _ _ _ _ _ _ _ _ _ _ _ _ _ _ _ _ _ _ _ _ _ _ _ _ _ _ _ _ _ _ _ _ _ _ _ _ _ _ _ _ _ _ _ _ _ _ _ _ _ _ _ _ _ _ _ _ _ _ _ _ _ _ _ _ _ _ _ _ _ _ _ _ _ _ _ _ _ _ _ _ _ _ _ _ _ _ _ _ _ _ _ _ _ _ _ _ _ _ _ _ _ _ _ _ _ _ _ _ _ _ _ _ _ _ _ _ _ _ _ _ _ _ _ _ _ _ _ _ _ _ _ _ _ _ _ _ _ _ _ _ _ _ _ _ _ _ _ _ _ _ _ _ _ _ _ _ _ _ _ _ _ _ _ _ _ _ _ _ _ _ _ _ _ _ _ _ _ _ _ _ _ _ _ _ _ _ _ _ _ _ _ _ _ _ _ _ _ _ _ _ _ _ _ _ _ _ _ _ _ _ _ _ _ _ _ _ _ _ _ _ _ _ _ _ _ M _ Y G da dc w12 H12.out HI8.out HX12.out (by omega)


end Go.Proofs.Ytglddgjljohkiab.WDo
