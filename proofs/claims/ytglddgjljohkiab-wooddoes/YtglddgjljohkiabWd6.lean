/- WoodDoes: what stands behind its switch. -/
import Derived.Test.YtglddgjljohkiabWd1
namespace Go.Proofs.Ytglddgjljohkiab.WDo
open Go.RowKit W Kp Stl

theorem lies_n {w : World} {b : Nat} {rs : List Int} (h : w.heap[b]? = some (.cells (rs.map (Value.int .i64)).toArray 2 (0, 0))) : Lies w (some ⟨b, 0, none⟩) rs := fun _ => ⟨b, rfl, fun i hi => by
  simp [World.cell?, h, List.getElem?_map, List.getElem?_eq_getElem hi, List.getD_eq_getElem?_getD]⟩

set_option maxRecDepth 100000 in
set_option maxHeartbeats 8000000 in
theorem tail_wp {s0 s1 s2 s3 s4 s5 s6 s8 s9 s12 s14 s15 s17 s18 s19 s20 s21 s22 s23 s24 s25 s26 s27 s28 s29 s30 s31 s32 s33 s34 s35 s36 s37 s38 s39 s40 s41 s42 s43 s44 s45 s46 s47 s48 s49 s50 s51 s52 s53 s54 s55 s56 s57 s58 s59 s60 s61 s62 s63 s64 s65 s66 s67 s68 s69 s70 s71 s72 s73 s74 s75 s76 s77 s78 s79 s80 s81 s82 s83 s84 s85 s86 s87 s88 s89 s90 s91 s92 s93 s94 s95 s96 s97 s98 s99 s100 s101 s102 s103 s104 s105 s106 s107 s108 s109 s110 s111 s112 s113 s114 s115 s116 s117 s118 s119 s120 s121 s122 s123 s124 s125 s126 s127 s128 s129 s130 s131 s132 s133 s134 s135 s136 s137 s138 s139 s140 s141 s142 s143 s144 s145 s146 s147 s148 s149 s150 s151 s152 s153 s154 s155 s156 s157 s158 s159 s160 s161 s162 s163 s164 s165 s166 s167 s168 s169 s170 s171 s172 s173 s174 s175 s176 s177 s178 s179 s180 s181 s182 s183 s184 s185 s186 s187 s188 s189 s190 s191 s192 s193 s194 s195 s196 s197 s198 s199 s200 s201 s202 s203 s204 s205 s206 s207 s208 s209 s210 s211 s212 s213 s214 s215 s216 s217 s218 s219 s220 s221 s222 s223 s224 s225 s226 s227 s228 s229 s230 s231 s232 s233 s234 s235 s236 s237 s238 s239 s240 s241 s242 s243 s244 s245 s246 s247 s248 s249 s250 s251 s252 s253 s254 s255 s256 s257 s258 s259 s260 s261 s262 s263 s264 s265 s266 s267 s268 s269 s270 s271 s272 s273 s274 s275 s276 s277 s278 s279 s280 s281 s282 s283 s284 s285 s286 s287 s288 s289 s290 s291 s292 s293 s294 s295 s296 s297 s298 s299 s300 s301 s302 s303 s304 s305 s306 s307 s308 s309 s310 s311 s312 s313 s314 s315 s316 s317 s318 s319 s320 s321 s322 s323 s324 s325 s326 s327 s328 s329 s330 s331 s332 s333 s334 s335 s336 s337 s338 s339 s340 s341 s342 s343 s344 s345 s346 s347 s348 s349 s350 s351 s352 s353 s354 s355 s356 s357 s358 s359 s360 s361 s362 s363 s364 s365 s366 s367 s368 s369 s370 s371 s372 s373 s374 s375 s376 s377 s378 s379 s380 s381 s382 s383 s384 s385 s386 s387 s388 s389 s390 s391 s392 s393 s394 s395 s396 s397 s398 s399 s400 s401 s402 s403 s404 s405 s406 s407 s408 s409 s410 s411 s412 s413 s414 s415 s416 s417 s418 s419 s420 s421 s422 s423 s424 : Value} {Q : Exit → Act → World → Prop} {w1 w : World} {pw p q pc pq sd nb rp rq rb N O y g ka dc : Nat} {ws M rs Y G : List Int} {da : Option Addr} (h : Wx w1 w pw p q pc pq sd nb rp rq rb N O y g ws M rs y g ws M rs (.slice da M.length dc)) (hi : WInv N y g ws Y G rs) (lka : ka < 12)
    (hQ : ∀ (v35 v36 v37 v38 v39 v40 v41 v42 v364 v365 v366 v367 v368 v369 v370 v371 v372 v373 v374 v375 v376 v377 v378 v379 v380 v381 v382 v383 v384 v385 v386 v387 v388 v389 v390 v391 v392 v393 v394 v395 v396 v397 v398 v399 v400 v401 v402 v403 v404 v405 v406 v407 v408 v409 v410 v411 v412 v413 v414 v415 v416 v417 v418 v419 v420 v421 v422 v423 v424 : Value) (w' : World), Below w.heap.size w w' → Q .normal ⟨#[s0, s1, s2, s3, s4, s5, s6, .pointer (some ⟨pw, 0, none⟩), s8, s9, .pointer (some ⟨rp, 0, none⟩), .slice (some ⟨rb, 0, none⟩) 12 12, s12, .slice da M.length dc, s14, s15, .int .i64 (ka : Int), s17, s18, s19, s20, s21, s22, s23, s24, s25, s26, s27, s28, s29, s30, s31, s32, s33, s34, v35, v36, v37, v38, v39, v40, v41, v42, s43, s44, s45, s46, s47, s48, s49, s50, s51, s52, s53, s54, s55, s56, s57, s58, s59, s60, s61, s62, s63, s64, s65, s66, s67, s68, s69, s70, s71, s72, s73, s74, s75, s76, s77, s78, s79, s80, s81, s82, s83, s84, s85, s86, s87, s88, s89, s90, s91, s92, s93, s94, s95, s96, s97, s98, s99, s100, s101, s102, s103, s104, s105, s106, s107, s108, s109, s110, s111, s112, s113, s114, s115, s116, s117, s118, s119, s120, s121, s122, s123, s124, s125, s126, s127, s128, s129, s130, s131, s132, s133, s134, s135, s136, s137, s138, s139, s140, s141, s142, s143, s144, s145, s146, s147, s148, s149, s150, s151, s152, s153, s154, s155, s156, s157, s158, s159, s160, s161, s162, s163, s164, s165, s166, s167, s168, s169, s170, s171, s172, s173, s174, s175, s176, s177, s178, s179, s180, s181, s182, s183, s184, s185, s186, s187, s188, s189, s190, s191, s192, s193, s194, s195, s196, s197, s198, s199, s200, s201, s202, s203, s204, s205, s206, s207, s208, s209, s210, s211, s212, s213, s214, s215, s216, s217, s218, s219, s220, s221, s222, s223, s224, s225, s226, s227, s228, s229, s230, s231, s232, s233, s234, s235, s236, s237, s238, s239, s240, s241, s242, s243, s244, s245, s246, s247, s248, s249, s250, s251, s252, s253, s254, s255, s256, s257, s258, s259, s260, s261, s262, s263, s264, s265, s266, s267, s268, s269, s270, s271, s272, s273, s274, s275, s276, s277, s278, s279, s280, s281, s282, s283, s284, s285, s286, s287, s288, s289, s290, s291, s292, s293, s294, s295, s296, s297, s298, s299, s300, s301, s302, s303, s304, s305, s306, s307, s308, s309, s310, s311, s312, s313, s314, s315, s316, s317, s318, s319, s320, s321, s322, s323, s324, s325, s326, s327, s328, s329, s330, s331, s332, s333, s334, s335, s336, s337, s338, s339, s340, s341, s342, s343, s344, s345, s346, s347, s348, s349, s350, s351, s352, s353, s354, s355, s356, s357, s358, s359, s360, s361, s362, s363, v364, v365, v366, v367, v368, v369, v370, v371, v372, v373, v374, v375, v376, v377, v378, v379, v380, v381, v382, v383, v384, v385, v386, v387, v388, v389, v390, v391, v392, v393, v394, v395, v396, v397, v398, v399, v400, v401, v402, v403, v404, v405, v406, v407, v408, v409, v410, v411, v412, v413, v414, v415, v416, v417, v418, v419, v420, v421, v422, v423, v424], []⟩ w') :
    Code.wp Try.prog ((find 63 (Try.f4.body.getD .skip)).getD .skip) Q ⟨#[s0, s1, s2, s3, s4, s5, s6, .pointer (some ⟨pw, 0, none⟩), s8, s9, .pointer (some ⟨rp, 0, none⟩), .slice (some ⟨rb, 0, none⟩) 12 12, s12, .slice da M.length dc, s14, s15, .int .i64 (ka : Int), s17, s18, s19, s20, s21, s22, s23, s24, s25, s26, s27, s28, s29, s30, s31, s32, s33, s34, s35, s36, s37, s38, s39, s40, s41, s42, s43, s44, s45, s46, s47, s48, s49, s50, s51, s52, s53, s54, s55, s56, s57, s58, s59, s60, s61, s62, s63, s64, s65, s66, s67, s68, s69, s70, s71, s72, s73, s74, s75, s76, s77, s78, s79, s80, s81, s82, s83, s84, s85, s86, s87, s88, s89, s90, s91, s92, s93, s94, s95, s96, s97, s98, s99, s100, s101, s102, s103, s104, s105, s106, s107, s108, s109, s110, s111, s112, s113, s114, s115, s116, s117, s118, s119, s120, s121, s122, s123, s124, s125, s126, s127, s128, s129, s130, s131, s132, s133, s134, s135, s136, s137, s138, s139, s140, s141, s142, s143, s144, s145, s146, s147, s148, s149, s150, s151, s152, s153, s154, s155, s156, s157, s158, s159, s160, s161, s162, s163, s164, s165, s166, s167, s168, s169, s170, s171, s172, s173, s174, s175, s176, s177, s178, s179, s180, s181, s182, s183, s184, s185, s186, s187, s188, s189, s190, s191, s192, s193, s194, s195, s196, s197, s198, s199, s200, s201, s202, s203, s204, s205, s206, s207, s208, s209, s210, s211, s212, s213, s214, s215, s216, s217, s218, s219, s220, s221, s222, s223, s224, s225, s226, s227, s228, s229, s230, s231, s232, s233, s234, s235, s236, s237, s238, s239, s240, s241, s242, s243, s244, s245, s246, s247, s248, s249, s250, s251, s252, s253, s254, s255, s256, s257, s258, s259, s260, s261, s262, s263, s264, s265, s266, s267, s268, s269, s270, s271, s272, s273, s274, s275, s276, s277, s278, s279, s280, s281, s282, s283, s284, s285, s286, s287, s288, s289, s290, s291, s292, s293, s294, s295, s296, s297, s298, s299, s300, s301, s302, s303, s304, s305, s306, s307, s308, s309, s310, s311, s312, s313, s314, s315, s316, s317, s318, s319, s320, s321, s322, s323, s324, s325, s326, s327, s328, s329, s330, s331, s332, s333, s334, s335, s336, s337, s338, s339, s340, s341, s342, s343, s344, s345, s346, s347, s348, s349, s350, s351, s352, s353, s354, s355, s356, s357, s358, s359, s360, s361, s362, s363, s364, s365, s366, s367, s368, s369, s370, s371, s372, s373, s374, s375, s376, s377, s378, s379, s380, s381, s382, s383, s384, s385, s386, s387, s388, s389, s390, s391, s392, s393, s394, s395, s396, s397, s398, s399, s400, s401, s402, s403, s404, s405, s406, s407, s408, s409, s410, s411, s412, s413, s414, s415, s416, s417, s418, s419, s420, s421, s422, s423, s424], []⟩ w := by
  conv => arg 2; whnf
  have HQ : Hid (∀ (v35 v36 v37 v38 v39 v40 v41 v42 v364 v365 v366 v367 v368 v369 v370 v371 v372 v373 v374 v375 v376 v377 v378 v379 v380 v381 v382 v383 v384 v385 v386 v387 v388 v389 v390 v391 v392 v393 v394 v395 v396 v397 v398 v399 v400 v401 v402 v403 v404 v405 v406 v407 v408 v409 v410 v411 v412 v413 v414 v415 v416 v417 v418 v419 v420 v421 v422 v423 v424 : Value) (w' : World), Below w.heap.size w w' → Q .normal ⟨#[s0, s1, s2, s3, s4, s5, s6, .pointer (some ⟨pw, 0, none⟩), s8, s9, .pointer (some ⟨rp, 0, none⟩), .slice (some ⟨rb, 0, none⟩) 12 12, s12, .slice da M.length dc, s14, s15, .int .i64 (ka : Int), s17, s18, s19, s20, s21, s22, s23, s24, s25, s26, s27, s28, s29, s30, s31, s32, s33, s34, v35, v36, v37, v38, v39, v40, v41, v42, s43, s44, s45, s46, s47, s48, s49, s50, s51, s52, s53, s54, s55, s56, s57, s58, s59, s60, s61, s62, s63, s64, s65, s66, s67, s68, s69, s70, s71, s72, s73, s74, s75, s76, s77, s78, s79, s80, s81, s82, s83, s84, s85, s86, s87, s88, s89, s90, s91, s92, s93, s94, s95, s96, s97, s98, s99, s100, s101, s102, s103, s104, s105, s106, s107, s108, s109, s110, s111, s112, s113, s114, s115, s116, s117, s118, s119, s120, s121, s122, s123, s124, s125, s126, s127, s128, s129, s130, s131, s132, s133, s134, s135, s136, s137, s138, s139, s140, s141, s142, s143, s144, s145, s146, s147, s148, s149, s150, s151, s152, s153, s154, s155, s156, s157, s158, s159, s160, s161, s162, s163, s164, s165, s166, s167, s168, s169, s170, s171, s172, s173, s174, s175, s176, s177, s178, s179, s180, s181, s182, s183, s184, s185, s186, s187, s188, s189, s190, s191, s192, s193, s194, s195, s196, s197, s198, s199, s200, s201, s202, s203, s204, s205, s206, s207, s208, s209, s210, s211, s212, s213, s214, s215, s216, s217, s218, s219, s220, s221, s222, s223, s224, s225, s226, s227, s228, s229, s230, s231, s232, s233, s234, s235, s236, s237, s238, s239, s240, s241, s242, s243, s244, s245, s246, s247, s248, s249, s250, s251, s252, s253, s254, s255, s256, s257, s258, s259, s260, s261, s262, s263, s264, s265, s266, s267, s268, s269, s270, s271, s272, s273, s274, s275, s276, s277, s278, s279, s280, s281, s282, s283, s284, s285, s286, s287, s288, s289, s290, s291, s292, s293, s294, s295, s296, s297, s298, s299, s300, s301, s302, s303, s304, s305, s306, s307, s308, s309, s310, s311, s312, s313, s314, s315, s316, s317, s318, s319, s320, s321, s322, s323, s324, s325, s326, s327, s328, s329, s330, s331, s332, s333, s334, s335, s336, s337, s338, s339, s340, s341, s342, s343, s344, s345, s346, s347, s348, s349, s350, s351, s352, s353, s354, s355, s356, s357, s358, s359, s360, s361, s362, s363, v364, v365, v366, v367, v368, v369, v370, v371, v372, v373, v374, v375, v376, v377, v378, v379, v380, v381, v382, v383, v384, v385, v386, v387, v388, v389, v390, v391, v392, v393, v394, v395, v396, v397, v398, v399, v400, v401, v402, v403, v404, v405, v406, v407, v408, v409, v410, v411, v412, v413, v414, v415, v416, v417, v418, v419, v420, v421, v422, v423, v424], []⟩ w') := hQ
  have H : Hid (∀ w', Below w.heap.size w w' → Wx w1 w' pw p q pc pq sd nb rp rq rb N O y g ws M rs y g ws M rs (.slice da M.length dc)) := fun w' hb => h.below hb
  obtain ⟨c0, c1, c3, cr⟩ := h.cells
  have k1 := h.wf.wod.ar.hN'
  have k2 := h.wf.wod.ar.hy
  have k3 := h.wf.wod.ar.hO
  have k4 := h.wf.wod.ar.hg
  have hrl := h.wf.rl
  have P1 := sameLongs_any (some ⟨nb, 0, none⟩) (some ⟨rb, 0, none⟩) 12 12 rs w (by omega) (lies_n h.wf.rts) (lies_n h.rx.rts)
  rw [hrl] at P1
  have htb := hi.tb (O := O) k1 k2 k3 k4 ka (by omega)
  have hT : Hid (aB (rs.getD ka 0) = true → aV (rs.getD ka 0) ∈ Y ∨ aV (rs.getD ka 0) ∈ G) := fun hb => hi.at ka (by omega) hb
  have HI : Hid (WInv N y g ws Y G rs) := hi
  have HR : Hid (∀ w', Below w.heap.size w w' → w'.cell? ⟨nb, ka, none⟩ = some (.int .i64 (rs.getD ka 0)) ∧ w'.cell? ⟨rb, ka, none⟩ = some (.int .i64 (rs.getD ka 0))) := fun w' hb => ⟨((h.below hb).rcW ka lka).1, ((h.below hb).rcR ka lka).1⟩
  have KK : Hid (∀ w', Below w.heap.size w w' → Calls Try.prog 33 #[.pointer (some ⟨pw, 0, none⟩), .int .i64 (rs.getD ka 0)] w' fun e w'' => e = .returned (.tuple #[.int .i64 (if aB (rs.getD ka 0) = true then pk (ld N y g ws (aV (rs.getD ka 0))) else 0), .int .i64 (if aB (rs.getD ka 0) = true then pf (ld N y g ws (aV (rs.getD ka 0))) else 0), .int .i64 (if aB (rs.getD ka 0) = true then W.pc (ld N y g ws (aV (rs.getD ka 0))) else 2)]) ∧ Below w'.heap.size w' w'') := fun w' hb => by
    have := kind_any (rs.getD ka 0) w' (h.below hb).cells.1 (h.below hb).wf.wod.ar
    rw [htb] at this
    exact this
  have KA : Hid (∀ w', Calls Try.prog 22 #[.int .i64 (rs.getD ka 0)] w' fun e w'' => e = .returned (.tuple #[.int .i64 (aV (rs.getD ka 0)), .bool (aB (rs.getD ka 0))]) ∧ Below w'.heap.size w' w'') := fun w' => at_any _ w'
  have ka0 : (0 : Int) ≤ (ka : Int) := by omega
  have ka1 : (ka : Int) < 12 := by omega
  clear hQ h hi htb lka hrl
  generalize rs.getD ka 0 = xa at *
  cases hb : aB xa
  all_goals
    rw [hb] at KK KA
    simp only [Bool.false_eq_true, if_false, if_true] at KK
    go_wp2_with fail
    refine P1.mono ?_
    clear P1
    rintro e w2 ⟨rfl, hb2⟩
    dsimp only
    have d1 := (H.out w2 hb2).cells.2.1
    clear c0 c1 c3 cr
    go_wp2_with fail
    refine (count_any w2 (H.out w2 hb2).wf.wod.cd).mono ?_
    rintro e w3 ⟨rfl, hw3⟩
    dsimp only
    have hb3 : Below w.heap.size w w3 := by rw [hw3]; exact hb2
    clear hw3 hb2 d1
    have d3 := (H.out w3 hb3).cells.2.2.1
    obtain ⟨r1, _⟩ := HR.out w3 hb3
    go_wp2_with fail
    refine (KK.out w3 hb3).mono ?_
    clear KK
    rintro e w4 ⟨rfl, hb4'⟩
    dsimp only
    have hb4 := hb3.trans (hb4'.mono hb3.size)
    obtain ⟨_, r2⟩ := HR.out w4 hb4
    clear hb4' hb3 d3 r1
    go_wp2_with fail
    refine (KA.out w4).mono ?_
    clear KA
    rintro e w5 ⟨rfl, hb5'⟩
    dsimp only
    have hb5 := hb4.trans (hb5'.mono hb4.size)
    clear hb5' hb4 r2
  · go_wp2_with fail
    exact HQ.out _ _ _ _ _ _ _ _ _ _ _ _ _ _ _ _ _ _ _ _ _ _ _ _ _ _ _ _ _ _ _ _ _ _ _ _ _ _ _ _ _ _ _ _ _ _ _ _ _ _ _ _ _ _ _ _ _ _ _ _ _ _ _ _ _ _ _ _ _ w5 hb5
  · have hv := hT.out hb
    obtain ⟨b1, _, b3⟩ := HI.out.thing k2 hv
    have b4 : aV xa ≤ 1280 := by
      rcases hv with c | c
      · have := HI.out.full.iy _ c; omega
      · have := HI.out.full.io _ c; omega
    have P := rThing_any (aV xa) w5 (H.out w5 hb5).rx.rm (by omega)
    rw [b1] at P ⊢
    clear hv b1 hT hb
    generalize pk (ld N y g ws (aV xa)) = kd at *
    generalize pf (ld N y g ws (aV xa)) = f at *
    generalize aV xa = v at *
    go_wp2_with fail
    refine P.mono ?_
    clear P
    rintro e w6 ⟨rfl, hb6'⟩
    dsimp only
    have hb6 := hb5.trans (hb6'.mono hb5.size)
    clear hb6' hb5
    go_wp2_with fail
    exact HQ.out _ _ _ _ _ _ _ _ _ _ _ _ _ _ _ _ _ _ _ _ _ _ _ _ _ _ _ _ _ _ _ _ _ _ _ _ _ _ _ _ _ _ _ _ _ _ _ _ _ _ _ _ _ _ _ _ _ _ _ _ _ _ _ _ _ _ _ _ _ w6 hb6

end Go.Proofs.Ytglddgjljohkiab.WDo
