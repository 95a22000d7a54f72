/- SideDoes: what stands behind its switch. -/
import Derived.Test.YthlfgddhkffilaaSy1
import Derived.Test.YthlfgddhkffilaaSame
import Derived.Test.YthlfgddhkffilaaSm2
import Derived.Test.YthlfgddhkffilaaOpenT
import Derived.Deep.DeepCutAuto
namespace Go.Proofs.Ythlfgddhkffilaa.SDo
open Go.RowKit W Kp Stl

def begins (n : Nat) : Code → Bool
  | .region m _ _ => m == n
  | .seq a _ => begins n a
  | _ => false
/-- The first statements, one behind the other, that begin with a region. -/
def find (n : Nat) : Code → Option Code
  | .seq a b => match begins n a with
    | true => some (.seq a b)
    | false => match find n a with
      | some c => some c
      | none => find n b
  | .cond _ a b => match find n a with
    | some c => some c
    | none => find n b
  | .block _ c => find n c
  | .loop c => find n c
  | .scope c => find n c
  | _ => none
theorem lies_row {w : World} {base cap : Nat} {e : TypeId} {ad : Option Addr} {l : List Int} (h : w.ownsRow base e 1 (.slice ad l.length cap) l.length (l.map (Value.int .i64))) : Lies w ad l := by
  obtain ⟨ad', cap', hv, hl⟩ := lies_owned h
  simp at hv
  rw [hv.1]
  exact hl
noncomputable def bodyC : Code := Try.f12.body.getD .skip
def isReg (n : Nat) : Code → Bool
  | .region m _ _ => m == n
  | _ => false
/-- A region, and what it decides. -/
def findI (n : Nat) : Code → Option Code
  | .seq a b => match isReg n a with
    | true => some (.seq a b)
    | false => match findI n a with
      | some c => some c
      | none => findI n b
  | .cond _ a b => match findI n a with
    | some c => some c
    | none => findI n b
  | .block _ c => findI n c
  | .loop c => findI n c
  | .scope c => findI n c
  | _ => none
noncomputable def swC : Code := (findI 12 bodyC).getD .skip
noncomputable def tailC : Code := (find 37 bodyC).getD .skip

set_option maxRecDepth 100000 in
set_option maxHeartbeats 4000000 in
theorem tail_wp {s0 s1 s2 s6 s8 s9 s10 s11 s12 s13 s14 s15 s16 s17 s18 s19 s20 s21 s22 s23 s24 s25 s26 s27 s28 s29 s30 s31 s32 s33 s34 s35 s36 s37 s38 s39 s40 s41 s42 s43 s44 s45 s46 s47 s48 s49 s50 s51 s52 s53 s54 s55 s56 s57 s58 s59 s60 s61 s62 s63 s64 s65 s66 s67 s68 s69 s70 s71 s72 s73 s74 s75 s76 s77 s78 s79 s80 s81 s82 s83 s84 s85 s86 s87 s88 s89 s90 s91 s92 s93 s94 s95 s96 s97 s98 s99 s100 s101 s102 s103 s104 s105 s106 s107 s108 s109 s110 s111 s112 s113 s114 s115 s116 s117 s118 s119 s120 s121 s122 s123 s124 s125 s126 s127 s128 s129 s130 s131 s132 s133 s134 s135 s136 s137 s138 s139 s140 s141 s142 s143 s144 s145 s146 s147 s148 s149 s150 s151 s152 s153 s154 s155 s156 s157 s158 s159 s160 s161 s162 s163 s164 s165 s166 s167 s168 s169 s170 s171 s172 s173 s174 s175 s176 s177 s178 s179 s180 s181 s182 s183 s184 s185 s186 s187 s188 s189 s190 s191 s192 s193 s194 s195 s196 s197 s198 s199 : Value} {Q : Exit → Act → World → Prop} {B p eb k0 k1 k2 k3 : Nat} {a0 a1 a2 a3 : Option Addr} {d g z : Int} {r q : List En} {w1 w : World} (h : Sst B w1 w p (.slice a0 r.length k0) (.slice a1 q.length k1) (.slice a2 r.length k2) (.slice a3 q.length k3) r q r q) (he : w.heap[eb]? = some (.cells #[.int .i64 d, .int .i64 g, .int .i64 z] 86 (0, 0))) (lr : r.length ≤ 300) (lq : q.length ≤ 300)
    (hQ : ∀ (v14 v15 v142 v143 v144 v145 v146 v147 v148 v149 v150 v151 v152 v153 v154 v155 v156 v157 v158 v159 v160 v161 v162 v163 v164 v165 v166 v167 v168 v169 v170 v171 v172 v173 v174 v175 v176 v177 v178 v179 v180 v181 v182 v183 v184 v185 v186 v187 v188 v189 v190 v191 v192 v193 v194 v195 v196 v197 v198 v199 : Value) (w' : World), Below w.heap.size w w' → Q .normal ⟨#[s0, s1, s2, .pointer (some ⟨p, 0, none⟩), .slice a2 r.length k2, .slice a3 q.length k3, s6, .pointer (some ⟨eb, 0, none⟩), s8, s9, s10, s11, s12, s13, v14, v15, s16, s17, s18, s19, s20, s21, s22, s23, s24, s25, s26, s27, s28, s29, s30, s31, s32, s33, s34, s35, s36, s37, s38, s39, s40, s41, s42, s43, s44, s45, s46, s47, s48, s49, s50, s51, s52, s53, s54, s55, s56, s57, s58, s59, s60, s61, s62, s63, s64, s65, s66, s67, s68, s69, s70, s71, s72, s73, s74, s75, s76, s77, s78, s79, s80, s81, s82, s83, s84, s85, s86, s87, s88, s89, s90, s91, s92, s93, s94, s95, s96, s97, s98, s99, s100, s101, s102, s103, s104, s105, s106, s107, s108, s109, s110, s111, s112, s113, s114, s115, s116, s117, s118, s119, s120, s121, s122, s123, s124, s125, s126, s127, s128, s129, s130, s131, s132, s133, s134, s135, s136, s137, s138, s139, s140, s141, v142, v143, v144, v145, v146, v147, v148, v149, v150, v151, v152, v153, v154, v155, v156, v157, v158, v159, v160, v161, v162, v163, v164, v165, v166, v167, v168, v169, v170, v171, v172, v173, v174, v175, v176, v177, v178, v179, v180, v181, v182, v183, v184, v185, v186, v187, v188, v189, v190, v191, v192, v193, v194, v195, v196, v197, v198, v199], []⟩ w') :
    Code.wp Try.prog tailC Q ⟨#[s0, s1, s2, .pointer (some ⟨p, 0, none⟩), .slice a2 r.length k2, .slice a3 q.length k3, s6, .pointer (some ⟨eb, 0, none⟩), s8, s9, s10, s11, s12, s13, s14, s15, s16, s17, s18, s19, s20, s21, s22, s23, s24, s25, s26, s27, s28, s29, s30, s31, s32, s33, s34, s35, s36, s37, s38, s39, s40, s41, s42, s43, s44, s45, s46, s47, s48, s49, s50, s51, s52, s53, s54, s55, s56, s57, s58, s59, s60, s61, s62, s63, s64, s65, s66, s67, s68, s69, s70, s71, s72, s73, s74, s75, s76, s77, s78, s79, s80, s81, s82, s83, s84, s85, s86, s87, s88, s89, s90, s91, s92, s93, s94, s95, s96, s97, s98, s99, s100, s101, s102, s103, s104, s105, s106, s107, s108, s109, s110, s111, s112, s113, s114, s115, s116, s117, s118, s119, s120, s121, s122, s123, s124, s125, s126, s127, s128, s129, s130, s131, s132, s133, s134, s135, s136, s137, s138, s139, s140, s141, s142, s143, s144, s145, s146, s147, s148, s149, s150, s151, s152, s153, s154, s155, s156, s157, s158, s159, s160, s161, s162, s163, s164, s165, s166, s167, s168, s169, s170, s171, s172, s173, s174, s175, s176, s177, s178, s179, s180, s181, s182, s183, s184, s185, s186, s187, s188, s189, s190, s191, s192, s193, s194, s195, s196, s197, s198, s199], []⟩ w := by
  conv => arg 2; whnf
  have HQ : Hid (∀ (v14 v15 v142 v143 v144 v145 v146 v147 v148 v149 v150 v151 v152 v153 v154 v155 v156 v157 v158 v159 v160 v161 v162 v163 v164 v165 v166 v167 v168 v169 v170 v171 v172 v173 v174 v175 v176 v177 v178 v179 v180 v181 v182 v183 v184 v185 v186 v187 v188 v189 v190 v191 v192 v193 v194 v195 v196 v197 v198 v199 : Value) (w' : World), Below w.heap.size w w' → Q .normal ⟨#[s0, s1, s2, .pointer (some ⟨p, 0, none⟩), .slice a2 r.length k2, .slice a3 q.length k3, s6, .pointer (some ⟨eb, 0, none⟩), s8, s9, s10, s11, s12, s13, v14, v15, s16, s17, s18, s19, s20, s21, s22, s23, s24, s25, s26, s27, s28, s29, s30, s31, s32, s33, s34, s35, s36, s37, s38, s39, s40, s41, s42, s43, s44, s45, s46, s47, s48, s49, s50, s51, s52, s53, s54, s55, s56, s57, s58, s59, s60, s61, s62, s63, s64, s65, s66, s67, s68, s69, s70, s71, s72, s73, s74, s75, s76, s77, s78, s79, s80, s81, s82, s83, s84, s85, s86, s87, s88, s89, s90, s91, s92, s93, s94, s95, s96, s97, s98, s99, s100, s101, s102, s103, s104, s105, s106, s107, s108, s109, s110, s111, s112, s113, s114, s115, s116, s117, s118, s119, s120, s121, s122, s123, s124, s125, s126, s127, s128, s129, s130, s131, s132, s133, s134, s135, s136, s137, s138, s139, s140, s141, v142, v143, v144, v145, v146, v147, v148, v149, v150, v151, v152, v153, v154, v155, v156, v157, v158, v159, v160, v161, v162, v163, v164, v165, v166, v167, v168, v169, v170, v171, v172, v173, v174, v175, v176, v177, v178, v179, v180, v181, v182, v183, v184, v185, v186, v187, v188, v189, v190, v191, v192, v193, v194, v195, v196, v197, v198, v199], []⟩ w') := hQ
  have H : Hid (Sst B w1 w p (.slice a0 r.length k0) (.slice a1 q.length k1) (.slice a2 r.length k2) (.slice a3 q.length k3) r q r q) := h
  have HE : Hid (w.heap[eb]? = some (.cells #[.int .i64 d, .int .i64 g, .int .i64 z] 86 (0, 0))) := he
  clear hQ h he
  obtain ⟨i0, hi, hz0, hz1, hz2⟩ := info_parts info64
  have c3 : w.cell? ⟨eb, 1, none⟩ = some (.int .i64 g) := by simp [World.cell?, HE.out]
  have le := lt_of_some HE.out
  have cp0 : w.cell? ⟨p, 0, none⟩ = some (.slice a0 r.length k0) := by simp [World.cell?, H.out.blk]
  have cp1 : w.cell? ⟨p, 1, none⟩ = some (.slice a1 q.length k1) := by simp [World.cell?, H.out.blk]
  have lp := lt_of_some H.out.blk
  have L0 : Hid (Lp w a0 r) := row_pairs H.out.r0
  have L1 : Hid (Lp w a1 q) := row_pairs H.out.r1
  have L2 : Hid (Lp w a2 r) := row_pairs H.out.r2
  have L3 : Hid (Lp w a3 q) := row_pairs H.out.r3
  have HP : Hid (w.heap[p]? = some (.cells #[.slice a0 r.length k0, .slice a1 q.length k1] 82 (0, 0))) := H.out.blk
  have P := full_any' w p a0 a1 r.length k0 q.length k1 HP.out (by omega) (by omega)
  have hfe := (ful_eq (n0 := r.length) (n1 := q.length) (by omega) (by omega)).out
  generalize fulB (r.length + q.length) = b at P hfe
  have hfe2 : decide ((24 : Int) ≤ (r.length : Int) + (q.length : Int)) = b := by rw [← hfe, show IntKind.i64.wrap ((r.length : Int) + (q.length : Int)) = (r.length : Int) + q.length by rw [IntKind.wrap_i64]; omega]
  have hfe3 : decide (24 ≤ r.length + q.length) = b := by rw [← hfe2]; exact decide_eq_decide.2 (by omega)
  clear H HE
  cases b
  all_goals
    go_wp2_with fail
    refine P.mono ?_
    clear P
    rintro e w2 ⟨rfl, hb2⟩
    have z0 := (hb2.cell (p := ⟨p, 0, none⟩) lp).trans cp0
    have hs2 := hb2.size
    go_wp2_with fail
    refine (sameEntries_any a0 a2 k0 k2 r w2 (by omega) (L0.out.below hb2) (L2.out.below hb2)).mono ?_
    rintro e w3 ⟨rfl, hb3⟩
    have hb3 := hb2.trans (hb3.mono hs2)
    have z1 := (hb3.cell (p := ⟨p, 1, none⟩) lp).trans cp1
    have hs3 := hb3.size
    clear z0
    go_wp2_with fail
    refine (sameEntries_any a1 a3 k1 k3 q w3 (by omega) (L1.out.below hb3) (L3.out.below hb3)).mono ?_
    rintro e w4 ⟨rfl, hb4⟩
    have hb4 := hb3.trans (hb4.mono hs3)
    have hs4 := hb4.size
    clear z1 hb2 hb3 hs2 hs3 cp0 cp1
    go_wp2_with fail
    go_loopw [14, 15] (fun tv iv wr => ∃ (j : Nat) (T : List Int) (at1 : Option Addr) (ct : Nat), j ≤ q.length ∧ iv = .int .i64 j ∧ Hid (T = atL (q.take j) g) ∧ T.length ≤ j ∧ tv = .slice at1 T.length ct ∧ Hid (wr.ownsRow w.heap.size 2 1 (.slice at1 T.length ct) T.length (T.map (Value.int .i64))) ∧ Below w.heap.size w wr) (fun _ iv _ => q.length - (intOf iv).toNat)
    case atStart => exact ⟨0, [], none, 0, Nat.zero_le _, rfl, rfl, Nat.le_refl _, rfl, World.ownsRow_nil _ _ _ _, hb4⟩
    case round =>
      clear hb4 hs4
      obtain ⟨j, T, at1, ct, hj, rfl, HT, hTl, rfl, HR, hb⟩ := hrel
      have hsr := hb.size
      have y3 := (hb.cell (p := ⟨eb, 1, none⟩) le).trans c3
      by_cases hlt : j < q.length
      · obtain ⟨b0, o0, e0, hb0, hc⟩ := L3.out.below hb (by omega)
        obtain ⟨x1, x2⟩ := hc j hlt
        clear hc
        by_cases hg : (q.getD j (0, 0)).1 = g
        · have HN : Hid (T ++ [(q.getD j (0, 0)).2] = atL (q.take (j + 1)) g) := by show _ = _; rw [atL_yes q g j hlt hg, HT.out]
          rw [hg] at x1
          generalize (q.getD j (0, 0)).2 = z2 at x2 HN
          subst e0
          have j0 : (0 : Int) ≤ (j : Int) := by omega
          have j1 : (j : Int) < (q.length : Int) := by omega
          go_wp2_with fail
          go_region_held3 (fun w' => w'.cell? ⟨b0, o0 + j * 2, none⟩ = some (.int .i64 g) ∧ w'.cell? ⟨eb, 1, none⟩ = some (.int .i64 g)) (go_keep) (fail)
          have x2d : wr.drew.cell? ⟨b0, o0 + j * 2 + 1, none⟩ = some (.int .i64 z2) := x2
          have HRd : Hid (wr.drew.ownsRow w.heap.size 2 1 (.slice at1 T.length ct) T.length (T.map (Value.int .i64))) := row_keep HR.out (fun _ _ => rfl)
          have hbd := hb.drew
          have hsd : w.heap.size ≤ wr.drew.heap.size := hsr
          clear x1 x2 y3 hb HR hsr
          generalize wr.drew = w5 at x2d HRd hbd hsd ⊢
          go_wp2_with (at_builtin; refine wpList_append_own_at _ rfl _ _ 54 rfl w.heap.size 2 i0 (.int .i64 0) 1 8 Try.underlying54 hi hz0 hz1 hz2 rfl (by decide) (.slice at1 T.length ct) T.length (T.map (Value.int .i64)) rfl (row_alloc HRd.out _) ⟨w5.heap.size, 0, none⟩ 1 1 [.int .i64 z2] rfl rfl ?_ ?_ ?_ ?_ ?_ ?_; (intro j u hj; match j, hj with | 0, hj => (simp at hj; subst hj; simp [Addr.add])); (intro u hu; simp at hu; subst hu; rfl); (unfold maxLen; omega); omega; (simp; omega); intro v' w6 hown6 hgrow6 _ hloc6; obtain ⟨b6, cap6, ev6⟩ := row_shape hown6 (Nat.succ_pos _); subst ev6)
          have HR6 : Hid (w6.ownsRow w.heap.size 2 1 (.slice (some ⟨b6, 0, none⟩) (T ++ [z2]).length cap6) (T ++ [z2]).length ((T ++ [z2]).map (Value.int .i64))) := by
            show World.ownsRow _ _ _ _ _ _ _
            simpa using hown6
          have hb6 := (hbd.alloc hsd _).grown hgrow6 (by simp; omega) (fun k e => (row_lt HRd.out k e.symm).1)
          clear hown6 hgrow6 hloc6 hbd HRd x2d
          go_wp2_with fail
          go_roundw
          case rel => exact ⟨j + 1, T ++ [z2], some ⟨b6, 0, none⟩, cap6, by omega, by go_num, HN, by simp; omega, by simp, HR6, hb6⟩
          case measure => simp [intOf]; omega
        · have HN : Hid (T = atL (q.take (j + 1)) g) := by show _ = _; rw [atL_no q g j hlt hg, HT.out]
          generalize (q.getD j (0, 0)).1 = g2 at x1 hg
          subst e0
          have j0 : (0 : Int) ≤ (j : Int) := by omega
          have j1 : (j : Int) < (q.length : Int) := by omega
          clear x2
          go_wp2_with fail
          go_region_held3 (fun w' => w'.cell? ⟨b0, o0 + j * 2, none⟩ = some (.int .i64 g2) ∧ w'.cell? ⟨eb, 1, none⟩ = some (.int .i64 g)) (go_keep) (fail)
          have HRd : Hid (wr.drew.ownsRow w.heap.size 2 1 (.slice at1 T.length ct) T.length (T.map (Value.int .i64))) := row_keep HR.out (fun _ _ => rfl)
          have hbd := hb.drew
          clear x1 y3 hb HR
          go_wp2_with fail
          go_roundw
          case rel => exact ⟨j + 1, T, at1, ct, by omega, by go_num, HN, by omega, rfl, HRd, hbd⟩
          case measure => simp [intOf]; omega
      · obtain rfl : j = q.length := by omega
        rw [List.take_length] at HT
        go_wp2_with fail
        refine (atS_any wr p (.slice a0 r.length k0) a1 k1 q g ((hb.block p lp).trans HP.out) (L1.out.below hb) (by omega)).mono ?_
        rintro e w7 ⟨ad7, cap7, rfl, ho7, hb7⟩
        rw [← HT.out] at ho7 ⊢
        have hb17 := hb.trans (hb7.mono hsr)
        have HS7 := sameLongs_any ad7 at1 cap7 ct T w7 (by omega) (lies_row ho7) (lies_row (row_keep HR.out (fun k e => hb7.block k (row_lt HR.out k e).2)))
        clear y3
        go_wp2_with fail
        refine HS7.mono ?_
        clear HS7
        rintro e w8 ⟨rfl, hb8⟩
        have hb18 := hb17.trans (hb8.mono hb17.size)
        clear ho7 hb7 hb17 hb8 hb HR
        go_wp2_with fail
        exact HQ.out _ _ _ _ _ _ _ _ _ _ _ _ _ _ _ _ _ _ _ _ _ _ _ _ _ _ _ _ _ _ _ _ _ _ _ _ _ _ _ _ _ _ _ _ _ _ _ _ _ _ _ _ _ _ _ _ _ _ _ _ w8 hb18

end Go.Proofs.Ythlfgddhkffilaa.SDo
