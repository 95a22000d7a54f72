/- ArenaDoes: all that is told behind a step is as the document says. -/
import Derived.Test.YtheiboniifijnaaDoC
namespace Go.Proofs.Ytheiboniifijnaa.Do
open Go.RowKit W Apart2

theorem ths_len {N y g : Nat} {ws : List Int} {hi : Int} (k : Nat) (a : Int) : (ths N y g ws hi k a).length ≤ k := by
  induction k generalizing a with
  | zero => simp [ths]
  | succ k ih =>
    unfold ths
    split
    · split
      · have := ih (a + (1 + pf (ld N y g ws a)))
        simp
        omega
      · simp
    · simp

set_option maxRecDepth 100000 in
set_option maxHeartbeats 4000000 in
theorem re_wp {s2 s3 s4 s5 s6 s8 s9 s11 s13 s14 s15 s16 s17 s18 s19 s20 s21 s22 s23 s24 s25 s26 s27 s28 s29 s30 s31 s32 s33 s34 s35 s36 s37 s38 s39 s40 s41 s42 s43 s44 s45 s46 s47 s48 s49 s50 s51 s52 s53 s54 s55 s56 s57 s58 s59 s60 s61 s62 s63 s64 s65 s66 s67 s68 s69 s70 s71 s72 s73 s74 s75 s76 s77 s78 s79 s80 s81 s82 s83 s84 s85 s86 s87 s88 s89 s90 s91 s92 s93 s94 s95 s96 s97 s98 s99 s100 s101 s102 s103 s104 s105 s106 s107 s108 s109 s110 s111 s112 s113 s114 s115 s116 s117 s118 s119 s120 s121 s122 s123 s124 s125 s126 s127 s128 s129 s130 s131 s132 s133 s134 s135 s136 s137 s138 s139 s140 s141 s142 s143 s144 s145 s146 s147 s148 s149 s150 s151 s152 s153 s154 s155 s156 s157 s158 s159 s160 s161 s162 s163 s164 s165 s166 s167 s168 s169 s170 s171 s172 s173 s174 s175 s176 s177 s178 s179 s180 s181 s182 s183 s184 s185 s186 s187 s188 s189 s190 s191 s192 s193 s194 s195 s196 s197 s198 s199 s200 s201 s202 s203 s204 s205 s206 s207 s208 s209 s210 s211 s212 s213 s214 s215 s216 s217 s218 s219 s220 s221 s222 s223 s224 s225 s226 s227 s228 s229 s230 s231 s232 s233 s234 s235 s236 s237 s238 s239 s240 s241 s242 s243 s244 s245 s246 s247 s248 s249 s250 s251 s252 s253 s254 s255 s256 s257 s258 s259 s260 s261 s262 s263 s264 s265 s266 s267 s268 s269 s270 s271 s272 s273 s274 s275 s276 s277 s278 s279 s280 s281 s282 s283 s284 s285 s286 s287 s288 s289 s290 s291 s292 s293 s294 s295 s296 s297 s298 s299 s300 s301 s302 s303 s304 : Value} {Q : Exit → Act → World → Prop} {N O y g p q r s B0 : Nat} {ws : List Int} {a f x : Int} {w wx : World} (cx : Ctx w p q r s B0) {d : Int} (hA1 : At wx p q N O y g ws) (hR1 : Rm wx r s N O y g ws) (hbx : Bx wx B0 d a f x) (hB1 : Below w.heap.size w wx) (hmax : a ≤ 9223372036854775807) 
    (hQ : ∀ (v14 v15 v16 v17 v18 v19 v20 v21 v22 v23 v24 v25 v26 v27 v28 v29 v156 v157 v158 v159 v160 v161 v162 v163 v164 v165 v166 v167 v168 v169 v170 v171 v172 v173 v174 v175 v176 v177 v178 v179 v180 v181 v182 v183 v184 v185 v186 v187 v188 v189 v190 v191 v192 v193 v194 v195 v196 v197 v198 v199 v200 v201 v202 v203 v204 v205 v206 v207 v208 v209 v210 v211 v212 v213 v214 v215 v216 v217 v218 v219 v220 v221 v222 v223 v224 v225 v226 v227 v228 v229 v230 v231 v232 v233 v234 v235 v236 v237 v238 v239 v240 v241 v242 v243 v244 v245 v246 v247 v248 v249 v250 v251 v252 v253 v254 v255 v256 v257 v258 v259 v260 v261 v262 v263 v264 v265 v266 v267 v268 v269 v270 v271 v272 v273 v274 v275 v276 v277 v278 v279 v280 v281 v282 v283 v284 v285 v286 v287 v288 v289 v290 v291 v292 v293 v294 v295 v296 v297 : Value) (wc : World), Rel w p q r s N O B0 d a f x wc → Q .normal ⟨#[.int .i64 N, .int .i64 O, s2, s3, s4, s5, s6, .pointer (some ⟨p, 0, none⟩), s8, s9, .pointer (some ⟨r, 0, none⟩), s11, .pointer (some ⟨B0, 0, none⟩), s13, v14, v15, v16, v17, v18, v19, v20, v21, v22, v23, v24, v25, v26, v27, v28, v29, s30, s31, s32, s33, s34, s35, s36, s37, s38, s39, s40, s41, s42, s43, s44, s45, s46, s47, s48, s49, s50, s51, s52, s53, s54, s55, s56, s57, s58, s59, s60, s61, s62, s63, s64, s65, s66, s67, s68, s69, s70, s71, s72, s73, s74, s75, s76, s77, s78, s79, s80, s81, s82, s83, s84, s85, s86, s87, s88, s89, s90, s91, s92, s93, s94, s95, s96, s97, s98, s99, s100, s101, s102, s103, s104, s105, s106, s107, s108, s109, s110, s111, s112, s113, s114, s115, s116, s117, s118, s119, s120, s121, s122, s123, s124, s125, s126, s127, s128, s129, s130, s131, s132, s133, s134, s135, s136, s137, s138, s139, s140, s141, s142, s143, s144, s145, s146, s147, s148, s149, s150, s151, s152, s153, s154, s155, v156, v157, v158, v159, v160, v161, v162, v163, v164, v165, v166, v167, v168, v169, v170, v171, v172, v173, v174, v175, v176, v177, v178, v179, v180, v181, v182, v183, v184, v185, v186, v187, v188, v189, v190, v191, v192, v193, v194, v195, v196, v197, v198, v199, v200, v201, v202, v203, v204, v205, v206, v207, v208, v209, v210, v211, v212, v213, v214, v215, v216, v217, v218, v219, v220, v221, v222, v223, v224, v225, v226, v227, v228, v229, v230, v231, v232, v233, v234, v235, v236, v237, v238, v239, v240, v241, v242, v243, v244, v245, v246, v247, v248, v249, v250, v251, v252, v253, v254, v255, v256, v257, v258, v259, v260, v261, v262, v263, v264, v265, v266, v267, v268, v269, v270, v271, v272, v273, v274, v275, v276, v277, v278, v279, v280, v281, v282, v283, v284, v285, v286, v287, v288, v289, v290, v291, v292, v293, v294, v295, v296, v297, s298, s299, s300, s301, s302, s303, s304], []⟩ wc) :
    Code.wp Try.prog reC Q ⟨#[.int .i64 N, .int .i64 O, s2, s3, s4, s5, s6, .pointer (some ⟨p, 0, none⟩), s8, s9, .pointer (some ⟨r, 0, none⟩), s11, .pointer (some ⟨B0, 0, none⟩), s13, s14, s15, s16, s17, s18, s19, s20, s21, s22, s23, s24, s25, s26, s27, s28, s29, s30, s31, s32, s33, s34, s35, s36, s37, s38, s39, s40, s41, s42, s43, s44, s45, s46, s47, s48, s49, s50, s51, s52, s53, s54, s55, s56, s57, s58, s59, s60, s61, s62, s63, s64, s65, s66, s67, s68, s69, s70, s71, s72, s73, s74, s75, s76, s77, s78, s79, s80, s81, s82, s83, s84, s85, s86, s87, s88, s89, s90, s91, s92, s93, s94, s95, s96, s97, s98, s99, s100, s101, s102, s103, s104, s105, s106, s107, s108, s109, s110, s111, s112, s113, s114, s115, s116, s117, s118, s119, s120, s121, s122, s123, s124, s125, s126, s127, s128, s129, s130, s131, s132, s133, s134, s135, s136, s137, s138, s139, s140, s141, s142, s143, s144, s145, s146, s147, s148, s149, s150, s151, s152, s153, s154, s155, s156, s157, s158, s159, s160, s161, s162, s163, s164, s165, s166, s167, s168, s169, s170, s171, s172, s173, s174, s175, s176, s177, s178, s179, s180, s181, s182, s183, s184, s185, s186, s187, s188, s189, s190, s191, s192, s193, s194, s195, s196, s197, s198, s199, s200, s201, s202, s203, s204, s205, s206, s207, s208, s209, s210, s211, s212, s213, s214, s215, s216, s217, s218, s219, s220, s221, s222, s223, s224, s225, s226, s227, s228, s229, s230, s231, s232, s233, s234, s235, s236, s237, s238, s239, s240, s241, s242, s243, s244, s245, s246, s247, s248, s249, s250, s251, s252, s253, s254, s255, s256, s257, s258, s259, s260, s261, s262, s263, s264, s265, s266, s267, s268, s269, s270, s271, s272, s273, s274, s275, s276, s277, s278, s279, s280, s281, s282, s283, s284, s285, s286, s287, s288, s289, s290, s291, s292, s293, s294, s295, s296, s297, s298, s299, s300, s301, s302, s303, s304], []⟩ wx := by
  conv => arg 2; whnf
  obtain ⟨n1, n2, n3, n4, hp', hq', hr', hs', hlp, hlq, hlr, hls⟩ := cx
  have k0 := hA1.hN
  have k1 := hA1.hN'
  have k2 := hA1.hy
  have k3 := hA1.hO
  have k4 := hA1.hg
  obtain ⟨z0, z1, z2, z3⟩ := hbx.cells
  have hx1 := hbx
  clear hbx
  have hT1 : (thY N y g ws).length ≤ 100000 := by have := ths_len (N := N) (y := y) (g := g) (ws := ws) (hi := (y : Int)) 2000 0; unfold thY; omega
  have hT2 : (thO N y g ws).length ≤ 100000 := by have := ths_len (N := N) (y := y) (g := g) (ws := ws) (hi := (N : Int) + g) 2000 N; unfold thO; omega
  go_wp2_with fail
  refine (used_any _ hA1).mono ?_
  rintro e w2 ⟨rfl, hb2⟩
  have hA2 := hA1.below hb2 (Nat.le_refl _)
  have hR2 := hR1.below hb2 (Nat.le_refl _)
  have hx2 := hx1.below hb2
  have hB2 := hB1.trans (hb2.mono hB1.size)
  clear hA1 hR1 hx1 hB1 hb2 z0 z1 z2 z3
  obtain ⟨z0, z1, z2, z3⟩ := hx2.cells
  go_wp2_with fail
  refine (freeOf_any _ hA2).mono ?_
  rintro e w3 ⟨rfl, hb3⟩
  have hA3 := hA2.below hb3 (Nat.le_refl _)
  have hR3 := hR2.below hb3 (Nat.le_refl _)
  have hx3 := hx2.below hb3
  have hB3 := hB2.trans (hb3.mono hB2.size)
  clear hA2 hR2 hx2 hB2 hb3 z0 z1 z2 z3
  obtain ⟨z0, z1, z2, z3⟩ := hx3.cells
  go_wp2_with fail
  refine (bounds_any _ hA3).mono ?_
  rintro e w4 ⟨rfl, hb4⟩
  have hA4 := hA3.below hb4 (Nat.le_refl _)
  have hR4 := hR3.below hb4 (Nat.le_refl _)
  have hx4 := hx3.below hb4
  have hB4 := hB3.trans (hb4.mono hB3.size)
  clear hA3 hR3 hx3 hB3 hb4 z0 z1 z2 z3
  obtain ⟨z0, z1, z2, z3⟩ := hx4.cells
  go_wp2_with fail
  refine (thing_any a _ hA4).mono ?_
  rintro e w5 ⟨rfl, hb5⟩
  have hA5 := hA4.below hb5 (Nat.le_refl _)
  have hR5 := hR4.below hb5 (Nat.le_refl _)
  have hx5 := hx4.below hb5
  have hB5 := hB4.trans (hb5.mono hB4.size)
  clear hA4 hR4 hx4 hB4 hb5 z0 z1 z2 z3
  obtain ⟨z0, z1, z2, z3⟩ := hx5.cells
  go_wp2_with fail
  refine (rThing_any a _ hR5 hmax).mono ?_
  rintro e w6 ⟨rfl, hb6⟩
  have hA6 := hA5.below hb6 (Nat.le_refl _)
  have hR6 := hR5.below hb6 (Nat.le_refl _)
  have hx6 := hx5.below hb6
  have hB6 := hB5.trans (hb6.mono hB5.size)
  clear hA5 hR5 hx5 hB5 hb6 z0 z1 z2 z3
  obtain ⟨z0, z1, z2, z3⟩ := hx6.cells
  go_wp2_with fail
  refine (things_any _ hA6).mono ?_
  rintro e w7 ⟨v1, v2, rfl, o1, o2, hb7⟩
  have hA7 := hA6.below hb7 (Nat.le_refl _)
  have hR7 := hR6.below hb7 (Nat.le_refl _)
  have hx7 := hx6.below hb7
  have hB7 := hB6.trans (hb7.mono hB6.size)
  obtain ⟨a1, c1, e1, l1⟩ := lies_owned o1
  obtain ⟨a2, c2, e2, l2⟩ := lies_owned o2
  subst e1 e2
  clear o1 o2
  clear hA6 hR6 hx6 hB6 hb7 z0 z1 z2 z3
  obtain ⟨z0, z1, z2, z3⟩ := hx7.cells
  go_wp2_with fail
  refine (rThings_any _ hR7).mono ?_
  rintro e w8 ⟨v3, v4, rfl, o3, o4, hb8⟩
  have hA8 := hA7.below hb8 (Nat.le_refl _)
  have hR8 := hR7.below hb8 (Nat.le_refl _)
  have hx8 := hx7.below hb8
  have hB8 := hB7.trans (hb8.mono hB7.size)
  obtain ⟨a3, c3, e3, l3⟩ := lies_owned o3
  obtain ⟨a4, c4, e4, l4⟩ := lies_owned o4
  subst e3 e4
  clear o3 o4
  have l1 := l1.below hb8
  have l2 := l2.below hb8
  obtain ⟨r0, r1, r2, r3⟩ := hR8.cells
  clear hA7 hR7 hx7 hB7 hb8 z0 z1 z2 z3
  obtain ⟨z0, z1, z2, z3⟩ := hx8.cells
  go_wp2_with fail
  refine (sameInts_any _ _ _ _ (thY N y g ws) _ hT1 l1 l3).mono ?_
  rintro e w9 ⟨rfl, hb9⟩
  have hA9 := hA8.below hb9 (Nat.le_refl _)
  have hR9 := hR8.below hb9 (Nat.le_refl _)
  have hx9 := hx8.below hb9
  have hB9 := hB8.trans (hb9.mono hB8.size)
  have l2 := l2.below hb9
  have l4 := l4.below hb9
  clear r0 r1 r2 r3
  clear hA8 hR8 hx8 hB8 hb9 z0 z1 z2 z3
  obtain ⟨z0, z1, z2, z3⟩ := hx9.cells
  go_wp2_with fail
  refine (sameInts_any _ _ _ _ (thO N y g ws) _ hT2 l2 l4).mono ?_
  rintro e w10 ⟨rfl, hb10⟩
  have hA10 := hA9.below hb10 (Nat.le_refl _)
  have hR10 := hR9.below hb10 (Nat.le_refl _)
  have hx10 := hx9.below hb10
  have hB10 := hB9.trans (hb10.mono hB9.size)
  clear hA9 hR9 hx9 hB9 hb10 z0 z1 z2 z3 l1 l2 l3 l4
  obtain ⟨z0, z1, z2, z3⟩ := hx10.cells
  go_wp2_with fail
  go_region_held3 (fun w' => w'.cell? ⟨B0, 1, none⟩ = some (.int .i64 a)) (go_keep)
    (first
      | (go_at_call 46; refine (load_any (p := p) (q := q) (N := N) (O := O) (y := y) (g := g) (ws := ws) a _ ?_).mono ?_; exact hA10.drew; rintro e w11 ⟨rfl, hb11⟩; have hA11 := hA10.drew.below hb11 (Nat.le_refl _); have hR11 := hR10.drew.below hb11 (Nat.le_refl _); have hx11 := hx10.drew.below hb11; have hB11 := hB10.drew.trans (hb11.mono hB10.size); obtain ⟨z0, z1, z2, z3⟩ := hx11.cells)
      | (go_at_call 47; refine (rLoad_any (p := r) (q := s) (N := N) (O := O) (y := y) (g := g) (ws := ws) a _ ?_ hmax).mono ?_; exact hR11; rintro e w12 ⟨rfl, hb12⟩; have hA12 := hA11.below hb12 (Nat.le_refl _); have hR12 := hR11.below hb12 (Nat.le_refl _); have hx12 := hx11.below hb12; have hB12 := hB11.trans (hb12.mono hB11.size); obtain ⟨z0, z1, z2, z3⟩ := hx12.cells)
      | (go_at_call 48; refine (young_any (p := p) (q := q) (N := N) (O := O) (y := y) (g := g) (ws := ws) a _ ?_).mono ?_; exact hA12; rintro e w13 ⟨rfl, hb13⟩; have hA13 := hA12.below hb13 (Nat.le_refl _); have hR13 := hR12.below hb13 (Nat.le_refl _); have hx13 := hx12.below hb13; have hB13 := hB12.trans (hb13.mono hB12.size); obtain ⟨z0, z1, z2, z3⟩ := hx13.cells)
      | (go_at_call 29; refine (isYoung_any (p := r) (q := s) (N := N) (O := O) (y := y) (g := g) (ws := ws) a _ ?_).mono ?_; exact hR13; rintro e w14 ⟨rfl, hb14⟩; have hA14 := hA13.below hb14 (Nat.le_refl _); have hR14 := hR13.below hb14 (Nat.le_refl _); have hx14 := hx13.below hb14; have hB14 := hB13.trans (hb14.mono hB13.size); obtain ⟨z0, z1, z2, z3⟩ := hx14.cells)
      | (go_at_call 49; refine (old_any (p := p) (q := q) (N := N) (O := O) (y := y) (g := g) (ws := ws) a _ ?_).mono ?_; exact hA14; rintro e w15 ⟨rfl, hb15⟩; have hA15 := hA14.below hb15 (Nat.le_refl _); have hR15 := hR14.below hb15 (Nat.le_refl _); have hx15 := hx14.below hb15; have hB15 := hB14.trans (hb15.mono hB14.size); obtain ⟨z0, z1, z2, z3⟩ := hx15.cells)
      | (go_at_call 30; refine (isOld_any (p := r) (q := s) (N := N) (O := O) (y := y) (g := g) (ws := ws) a _ ?_ hmax).mono ?_; exact hR15; rintro e w16 ⟨rfl, hb16⟩; have hA16 := hA15.below hb16 (Nat.le_refl _); have hR16 := hR15.below hb16 (Nat.le_refl _); have hx16 := hx15.below hb16; have hB16 := hB15.trans (hb16.mono hB15.size); obtain ⟨z0, z1, z2, z3⟩ := hx16.cells))
  go_wp2_with fail
  first | exact ⟨y, g, ws, hA16, hR16, hx16, hB16⟩ | (apply hQ; exact ⟨y, g, ws, hA16, hR16, hx16, hB16⟩)

end Go.Proofs.Ytheiboniifijnaa.Do
