/- ArenaDoes: is a step's place in use? -/
import Derived.Test.YtheiboniifijnaaDoC
namespace Go.Proofs.Ytheiboniifijnaa.Do
open Go.RowKit W Apart2

set_option maxRecDepth 100000 in
set_option maxHeartbeats 4000000 in
theorem in_wp {s2 s3 s4 s5 s6 s8 s9 s11 s13 s14 s15 s16 s17 s18 s19 s20 s21 s22 s23 s24 s25 s26 s27 s28 s29 s30 s31 s32 s33 s34 s35 s36 s37 s38 s39 s40 s41 s42 s43 s44 s45 s46 s47 s48 s49 s50 s51 s52 s53 s54 s55 s56 s57 s58 s59 s60 s61 s62 s63 s64 s65 s66 s67 s68 s69 s70 s71 s72 s73 s74 s75 s76 s77 s78 s79 s80 s81 s82 s83 s84 s85 s86 s87 s88 s89 s90 s91 s92 s93 s94 s95 s96 s97 s98 s99 s100 s101 s102 s103 s104 s105 s106 s107 s108 s109 s110 s111 s112 s113 s114 s115 s116 s117 s118 s119 s120 s121 s122 s123 s124 s125 s126 s127 s128 s129 s130 s131 s132 s133 s134 s135 s136 s137 s138 s139 s140 s141 s142 s143 s144 s145 s146 s147 s148 s149 s150 s151 s152 s153 s154 s155 s156 s157 s158 s159 s160 s161 s162 s163 s164 s165 s166 s167 s168 s169 s170 s171 s172 s173 s174 s175 s176 s177 s178 s179 s180 s181 s182 s183 s184 s185 s186 s187 s188 s189 s190 s191 s192 s193 s194 s195 s196 s197 s198 s199 s200 s201 s202 s203 s204 s205 s206 s207 s208 s209 s210 s211 s212 s213 s214 s215 s216 s217 s218 s219 s220 s221 s222 s223 s224 s225 s226 s227 s228 s229 s230 s231 s232 s233 s234 s235 s236 s237 s238 s239 s240 s241 s242 s243 s244 s245 s246 s247 s248 s249 s250 s251 s252 s253 s254 s255 s256 s257 s258 s259 s260 s261 s262 s263 s264 s265 s266 s267 s268 s269 s270 s271 s272 s273 s274 s275 s276 s277 s278 s279 s280 s281 s282 s283 s284 s285 s286 s287 s288 s289 s290 s291 s292 s293 s294 s295 s296 s297 s298 s299 s300 s301 s302 s303 s304 : Value} {Q : Exit → Act → World → Prop} {N O y g p q r s B0 : Nat} {ws : List Int} {a f x : Int} {w wx : World} (cx : Ctx w p q r s B0) {d : Int} (hA1 : At wx p q N O y g ws) (hR1 : Rm wx r s N O y g ws) (hbx : Bx wx B0 d a f x) (hB1 : Below w.heap.size w wx) (hmax : a ≤ 9223372036854775807) 
    (hQ : ∀ (v68 v69 v70 v71 v72 v73 v74 v75 v76 v77 : Value) (wc : World), RelF w p q r s N O B0 y g ws d a f x wc → Q .normal ⟨#[.int .i64 N, .int .i64 O, s2, s3, s4, s5, s6, .pointer (some ⟨p, 0, none⟩), s8, s9, .pointer (some ⟨r, 0, none⟩), s11, .pointer (some ⟨B0, 0, none⟩), .bool (iB N y g a), s14, s15, s16, s17, s18, s19, s20, s21, s22, s23, s24, s25, s26, s27, s28, s29, s30, s31, s32, s33, s34, s35, s36, s37, s38, s39, s40, s41, s42, s43, s44, s45, s46, s47, s48, s49, s50, s51, s52, s53, s54, s55, s56, s57, s58, s59, s60, s61, s62, s63, s64, s65, s66, s67, v68, v69, v70, v71, v72, v73, v74, v75, v76, v77, s78, s79, s80, s81, s82, s83, s84, s85, s86, s87, s88, s89, s90, s91, s92, s93, s94, s95, s96, s97, s98, s99, s100, s101, s102, s103, s104, s105, s106, s107, s108, s109, s110, s111, s112, s113, s114, s115, s116, s117, s118, s119, s120, s121, s122, s123, s124, s125, s126, s127, s128, s129, s130, s131, s132, s133, s134, s135, s136, s137, s138, s139, s140, s141, s142, s143, s144, s145, s146, s147, s148, s149, s150, s151, s152, s153, s154, s155, s156, s157, s158, s159, s160, s161, s162, s163, s164, s165, s166, s167, s168, s169, s170, s171, s172, s173, s174, s175, s176, s177, s178, s179, s180, s181, s182, s183, s184, s185, s186, s187, s188, s189, s190, s191, s192, s193, s194, s195, s196, s197, s198, s199, s200, s201, s202, s203, s204, s205, s206, s207, s208, s209, s210, s211, s212, s213, s214, s215, s216, s217, s218, s219, s220, s221, s222, s223, s224, s225, s226, s227, s228, s229, s230, s231, s232, s233, s234, s235, s236, s237, s238, s239, s240, s241, s242, s243, s244, s245, s246, s247, s248, s249, s250, s251, s252, s253, s254, s255, s256, s257, s258, s259, s260, s261, s262, s263, s264, s265, s266, s267, s268, s269, s270, s271, s272, s273, s274, s275, s276, s277, s278, s279, s280, s281, s282, s283, s284, s285, s286, s287, s288, s289, s290, s291, s292, s293, s294, s295, s296, s297, s298, s299, s300, s301, s302, s303, s304], []⟩ wc) :
    Code.wp Try.prog inC Q ⟨#[.int .i64 N, .int .i64 O, s2, s3, s4, s5, s6, .pointer (some ⟨p, 0, none⟩), s8, s9, .pointer (some ⟨r, 0, none⟩), s11, .pointer (some ⟨B0, 0, none⟩), s13, s14, s15, s16, s17, s18, s19, s20, s21, s22, s23, s24, s25, s26, s27, s28, s29, s30, s31, s32, s33, s34, s35, s36, s37, s38, s39, s40, s41, s42, s43, s44, s45, s46, s47, s48, s49, s50, s51, s52, s53, s54, s55, s56, s57, s58, s59, s60, s61, s62, s63, s64, s65, s66, s67, s68, s69, s70, s71, s72, s73, s74, s75, s76, s77, s78, s79, s80, s81, s82, s83, s84, s85, s86, s87, s88, s89, s90, s91, s92, s93, s94, s95, s96, s97, s98, s99, s100, s101, s102, s103, s104, s105, s106, s107, s108, s109, s110, s111, s112, s113, s114, s115, s116, s117, s118, s119, s120, s121, s122, s123, s124, s125, s126, s127, s128, s129, s130, s131, s132, s133, s134, s135, s136, s137, s138, s139, s140, s141, s142, s143, s144, s145, s146, s147, s148, s149, s150, s151, s152, s153, s154, s155, s156, s157, s158, s159, s160, s161, s162, s163, s164, s165, s166, s167, s168, s169, s170, s171, s172, s173, s174, s175, s176, s177, s178, s179, s180, s181, s182, s183, s184, s185, s186, s187, s188, s189, s190, s191, s192, s193, s194, s195, s196, s197, s198, s199, s200, s201, s202, s203, s204, s205, s206, s207, s208, s209, s210, s211, s212, s213, s214, s215, s216, s217, s218, s219, s220, s221, s222, s223, s224, s225, s226, s227, s228, s229, s230, s231, s232, s233, s234, s235, s236, s237, s238, s239, s240, s241, s242, s243, s244, s245, s246, s247, s248, s249, s250, s251, s252, s253, s254, s255, s256, s257, s258, s259, s260, s261, s262, s263, s264, s265, s266, s267, s268, s269, s270, s271, s272, s273, s274, s275, s276, s277, s278, s279, s280, s281, s282, s283, s284, s285, s286, s287, s288, s289, s290, s291, s292, s293, s294, s295, s296, s297, s298, s299, s300, s301, s302, s303, s304], []⟩ wx := by
  conv => arg 2; whnf
  obtain ⟨n1, n2, n3, n4, hp', hq', hr', hs', hlp, hlq, hlr, hls⟩ := cx
  have k0 := hA1.hN
  have k1 := hA1.hN'
  have k2 := hA1.hy
  have k3 := hA1.hO
  have k4 := hA1.hg
  obtain ⟨z0, z1, z2, z3⟩ := hbx.cells
  cases hy : hB 0 y a
  · have HY : Hid (hB 0 y a = false) := hy
    have HI : Hid (iB N y g a = hB N g a) := by show _ = _; simp [iB, hy]
    clear hy
    rw [HI.out] at hQ
    go_wp2_with fail
    refine (isYoung_any a _ hR1).mono ?_
    rintro e w5 ⟨rfl, hb5⟩
    rw [HY.out]
    have hx5 := hbx.below hb5
    obtain ⟨z0, z1, z2, z3⟩ := hx5.cells
    go_wp2_with fail
    refine (isOld_any a _ (hR1.below hb5 (Nat.le_refl _)) hmax).mono ?_
    rintro e w6 ⟨rfl, hb6⟩
    go_wp2_with fail
    first | exact ⟨(hA1.below hb5 (Nat.le_refl _)).below hb6 (Nat.le_refl _), (hR1.below hb5 (Nat.le_refl _)).below hb6 (Nat.le_refl _), hx5.below hb6, (hB1.trans (hb5.mono hB1.size)).trans (hb6.mono (Nat.le_trans hB1.size hb5.size))⟩ | (apply hQ; exact ⟨(hA1.below hb5 (Nat.le_refl _)).below hb6 (Nat.le_refl _), (hR1.below hb5 (Nat.le_refl _)).below hb6 (Nat.le_refl _), hx5.below hb6, (hB1.trans (hb5.mono hB1.size)).trans (hb6.mono (Nat.le_trans hB1.size hb5.size))⟩)
  · have HY : Hid (hB 0 y a = true) := hy
    have HI : Hid (iB N y g a = true) := by show _ = _; simp [iB, hy]
    clear hy
    rw [HI.out] at hQ
    go_wp2_with fail
    refine (isYoung_any a _ hR1).mono ?_
    rintro e w5 ⟨rfl, hb5⟩
    rw [HY.out]
    have hx5 := hbx.below hb5
    go_wp2_with fail
    first | exact ⟨hA1.below hb5 (Nat.le_refl _), hR1.below hb5 (Nat.le_refl _), hx5, hB1.trans (hb5.mono hB1.size)⟩ | (apply hQ; exact ⟨hA1.below hb5 (Nat.le_refl _), hR1.below hb5 (Nat.le_refl _), hx5, hB1.trans (hb5.mono hB1.size)⟩)

end Go.Proofs.Ytheiboniifijnaa.Do
