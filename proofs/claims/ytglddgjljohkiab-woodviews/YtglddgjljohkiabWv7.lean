/- WoodViews: what stands behind its steps. -/
import Derived.Test.YtglddgjljohkiabWv6
import Derived.Test.YtglddgjljohkiabRef2
import Derived.Deep.DeepCutAuto
namespace Go.Proofs.Ytglddgjljohkiab.WVs
open Go.RowKit W Kp Stl

def begins (n : Nat) : Code → Bool
  | .region m _ _ => m == n
  | .seq a _ => begins n a
  | _ => false
/-- The first statements, one behind the other, that begin with a region. -/
def find (n : Nat) : Code → Option Code
  | .seq a b => match begins n a with
    | true => some (.seq a b)
    | false => match find n a with
      | some c => some c
      | none => find n b
  | .cond _ a b => match find n a with
    | some c => some c
    | none => find n b
  | .block _ c => find n c
  | .loop c => find n c
  | .scope c => find n c
  | _ => none

theorem made_led {w : World} {b k n : Nat} (h : w.ownsRow b 4 1 (.slice (some ⟨k, 0, none⟩) n n) n (madeCells (Value.bool false).cells (n * 1)).toList) : w.ownsRow b 4 1 (.slice (some ⟨k, 0, none⟩) n n) n ((ldL n []).map Value.bool) := by
  have e : (madeCells (Value.bool false).cells (n * 1)).toList = (ldL n []).map Value.bool := by
    show (madeCells #[Value.bool false] (n * 1)).toList = _
    rw [toList_madeCells_one, ldL_nil, Nat.mul_one]
    simp
  rw [e] at h
  exact h

set_option maxRecDepth 100000 in
set_option maxHeartbeats 4000000 in
theorem tail_wp {s0 s1 s2 s3 s4 s5 s6 s8 s9 s10 s11 s12 s13 s14 s15 s16 s17 s18 s19 s20 s21 s22 s23 s24 s25 s26 s27 s28 s29 s30 s31 s32 s33 s34 s35 s36 s37 s38 s39 s40 s41 s42 s43 s44 s45 s46 s47 s48 s49 s50 s51 s52 s53 s54 s55 s56 s57 s58 s59 s60 s61 s62 s63 s64 s65 s66 s67 s68 s69 s70 s71 s72 s73 s74 s75 s76 s77 s78 s79 s80 s81 s82 s83 s84 s85 s86 s87 s88 s89 s90 s91 s92 s93 s94 s95 s96 s97 s98 s99 s100 s101 s102 s103 s104 s105 s106 s107 s108 s109 s110 s111 s112 s113 s114 s115 s116 s117 s118 s119 s120 s121 s122 s123 s124 s125 s126 s127 s128 s129 s130 s131 s132 s133 s134 s135 s136 s137 s138 s139 s140 s141 s142 s143 s144 s145 s146 s147 s148 s149 s150 s151 s152 s153 s154 s155 s156 s157 s158 s159 s160 s161 s162 s163 s164 s165 s166 s167 s168 s169 s170 s171 s172 s173 s174 s175 s176 s177 s178 s179 s180 s181 s182 s183 s184 s185 s186 s187 s188 s189 s190 s191 s192 s193 s194 s195 s196 s197 s198 s199 s200 s201 s202 s203 s204 s205 s206 s207 s208 s209 s210 s211 s212 s213 s214 s215 s216 s217 s218 s219 s220 s221 s222 s223 s224 s225 s226 s227 s228 s229 s230 s231 s232 s233 s234 s235 s236 s237 s238 s239 s240 s241 s242 s243 s244 s245 s246 s247 s248 s249 s250 s251 s252 s253 : Value} {Q : Exit → Act → World → Prop} {w : World} {pw p q pc pq sd nb N O y g : Nat} {ws : List Int} {c : Int} {M rs Y G : List Int} (h : Wf w pw p q pc pq sd nb N O y g ws c M rs) (hF : Full2 N y g ws Y G)
    (hQ : ∀ (a : Act) (w' : World), a.tmps.getD 6 undef = .bool true → a.defers = [] → Below w.heap.size w w' → Q .ret a w') :
    Code.wp Try.prog ((find 24 (Try.f5.body.getD .skip)).getD .skip) Q ⟨#[s0, s1, s2, s3, s4, s5, s6, .pointer (some ⟨pw, 0, none⟩), s8, s9, s10, s11, s12, s13, s14, s15, s16, s17, s18, s19, s20, s21, s22, s23, s24, s25, s26, s27, s28, s29, s30, s31, s32, s33, s34, s35, s36, s37, s38, s39, s40, s41, s42, s43, s44, s45, s46, s47, s48, s49, s50, s51, s52, s53, s54, s55, s56, s57, s58, s59, s60, s61, s62, s63, s64, s65, s66, s67, s68, s69, s70, s71, s72, s73, s74, s75, s76, s77, s78, s79, s80, s81, s82, s83, s84, s85, s86, s87, s88, s89, s90, s91, s92, s93, s94, s95, s96, s97, s98, s99, s100, s101, s102, s103, s104, s105, s106, s107, s108, s109, s110, s111, s112, s113, s114, s115, s116, s117, s118, s119, s120, s121, s122, s123, s124, s125, s126, s127, s128, s129, s130, s131, s132, s133, s134, s135, s136, s137, s138, s139, s140, s141, s142, s143, s144, s145, s146, s147, s148, s149, s150, s151, s152, s153, s154, s155, s156, s157, s158, s159, s160, s161, s162, s163, s164, s165, s166, s167, s168, s169, s170, s171, s172, s173, s174, s175, s176, s177, s178, s179, s180, s181, s182, s183, s184, s185, s186, s187, s188, s189, s190, s191, s192, s193, s194, s195, s196, s197, s198, s199, s200, s201, s202, s203, s204, s205, s206, s207, s208, s209, s210, s211, s212, s213, s214, s215, s216, s217, s218, s219, s220, s221, s222, s223, s224, s225, s226, s227, s228, s229, s230, s231, s232, s233, s234, s235, s236, s237, s238, s239, s240, s241, s242, s243, s244, s245, s246, s247, s248, s249, s250, s251, s252, s253], []⟩ w := by
  conv => arg 2; whnf
  have HQ : Hid (∀ (a : Act) (w' : World), a.tmps.getD 6 undef = .bool true → a.defers = [] → Below w.heap.size w w' → Q .ret a w') := hQ
  have H : Hid (∀ w', Below w.heap.size w w' → Wf w' pw p q pc pq sd nb N O y g ws c M rs) := fun w' hb => h.below hb
  have k1 := h.wod.ar.hN'
  have k2 := h.wod.ar.hy
  have k3 := h.wod.ar.hO
  have k4 := h.wod.ar.hg
  have k5 := h.wod.ar.hl
  have VO : Hid (Vok (vwL N y g ws [] rs).1 (vwL N y g ws [] rs).2.2 rs) := view_ok hF k1 k2 k3 k4 rs
  have hrl := h.rl
  have hbn := VO.out.bl
  have hvl : Hid ((vwL N y g ws [] rs).1.length = 12) := VO.out.vl.trans hrl
  have KV : Hid (∀ w', Below w.heap.size w w' → Calls Try.prog 35 #[.pointer (some ⟨pw, 0, none⟩)] w' fun e w'' => ∃ r2 d2 na nc, e = .returned (.agg #[.slice r2 12 d2, .slice na (vwL N y g ws [] rs).2.2.length nc]) ∧ Lp w'' r2 (vwL N y g ws [] rs).1 ∧ Ln w'' na (vwL N y g ws [] rs).2.2 ∧ Below w'.heap.size w' w'') := fun w' hb => by
    refine (viewW_any (H.out w' hb)).mono ?_
    rintro e w'' ⟨r2, d2, na, nn, nc, rfl, h1, h2, rfl, h4⟩
    exact ⟨r2, d2, na, nc, rfl, h1, h2, h4⟩
  have KW : Hid (∀ w', Below w.heap.size w w' → Calls Try.prog 34 #[.pointer (some ⟨p, 0, none⟩)] w' fun e w'' => ∃ b cap, e = .returned (.slice (some ⟨b, 0, none⟩) (N + O) cap) ∧ Lies w'' (some ⟨b, 0, none⟩) ws ∧ Below w'.heap.size w' w'') := fun w' hb => by
    refine (words_any w' (H.out w' hb).wod.ar).mono ?_
    rintro e w'' ⟨b, cap, rfl, h1, h2, h3⟩
    exact ⟨b, cap, rfl, fun _ => ⟨b, rfl, fun i hi => h2 i (by omega)⟩, h3⟩
  have c0 := h.cells.1
  have lpw := h.cells.2.2.2.1
  clear hQ h hF
  obtain ⟨i0, hi, hz0, hz1, hz2⟩ := info_parts infoBl
  generalize (vwL N y g ws [] rs).1 = V at *
  generalize (vwL N y g ws [] rs).2.2 = ns at *
  go_wp2_with fail
  refine (KW.out w (Below.refl _ _)).mono ?_
  rintro e w1 ⟨b1, cap1, rfl, L1, hb1⟩
  go_wp2_with fail
  refine (KV.out w1 hb1).mono ?_
  rintro e w2 ⟨r2, d2, na, nc, rfl, hr2, hn2, hb2⟩
  have hB2 := hb1.trans (hb2.mono hb1.size)
  have hba := (Below.refl w2.heap.size w2).alloc (Nat.le_refl _) (.cells #[.slice r2 12 d2, .slice na ns.length nc] 80)
  have hB3 := hB2.trans (hba.mono hB2.size)
  have hv3 := heap_alloc_new w2 (.cells #[.slice r2 12 d2, .slice na ns.length nc] 80)
  have R3 : Hid (Lp _ r2 V ∧ Ln _ na ns ∧ Lies _ (some ⟨b1, 0, none⟩) ws) := ⟨hr2.below hba, hn2.below hba, (L1.below hb2).below hba⟩
  have sz3 : (w2.alloc (.cells #[.slice r2 12 d2, .slice na ns.length nc] 80)).heap.size = w2.heap.size + 1 := by simp
  clear hr2 hn2 L1 hba hb2 hb1
  go_upto_region 26 with fail
  generalize w2.alloc (.cells #[.slice r2 12 d2, .slice na ns.length nc] 80) = w3 at *
  have hs2 := hB2.size
  have y0 : w3.cell? ⟨w2.heap.size, 0, none⟩ = some (.slice r2 12 d2) := by simp [World.cell?, hv3]
  have y1 : w3.cell? ⟨w2.heap.size, 1, none⟩ = some (.slice na ns.length nc) := by simp [World.cell?, hv3]
  have y2 := (hB3.cell (p := ⟨pw, 0, none⟩) lpw).trans c0
  have HV3 : Hid (w3.heap[w2.heap.size]? = some (.cells #[.slice r2 12 d2, .slice na ns.length nc] 80 (0, 0))) := hv3
  have lv3 : w2.heap.size < w3.heap.size := by omega
  have hd := (Below.refl w3.heap.size w3).drew
  have hBd := hB3.trans (hd.mono hB3.size)
  clear hv3 c0
  have hfb : Hid (∀ nd ∈ ns, nd.2.length ≤ 100000) := fun nd hn => Nat.le_trans (VO.out.fb nd hn) (by omega)
  refine wp_region_noPanic ?_
  go_region_held3 (fun w' => w'.cell? ⟨w2.heap.size, 0, none⟩ = some (.slice r2 12 d2) ∧ w'.cell? ⟨w2.heap.size, 1, none⟩ = some (.slice na ns.length nc) ∧ w'.cell? ⟨pw, 0, none⟩ = some (.pointer (some ⟨p, 0, none⟩))) (first | exact ⟨y0, y1, y2⟩ | exact ⟨u0, u1, u2⟩ | exact ⟨t0, t1, t2⟩ | exact ⟨x0, x1, x2⟩ | exact ⟨q0, q1, q2⟩ | go_keep)
    (first
      | (go_at_call 35; refine (KV.out _ hBd).mono ?_; rintro e w4 ⟨r4, d4, na4, nc4, rfl, hr4, hn4, hb4'⟩; have hb4 : Below w3.heap.size w3 w4 := hd.trans hb4'; have u0 := (hb4.cell (p := ⟨w2.heap.size, 0, none⟩) lv3).trans y0; have u1 := (hb4.cell (p := ⟨w2.heap.size, 1, none⟩) lv3).trans y1; have lp3 : pw < w3.heap.size := Nat.lt_of_lt_of_le lpw hB3.size; have u2 := (hb4.cell (p := ⟨pw, 0, none⟩) lp3).trans y2)
      | (go_at_call 36; rw [← hvl.out]; refine (sameView_eq r2 r4 na na4 d2 d4 nc nc4 V ns w4 (by rw [hvl.out]; omega) (by omega) hfb.out (R3.out.1.below hb4) hr4 (R3.out.2.1.below hb4) hn4).mono ?_; rintro e w5 ⟨rfl, hb5'⟩; have hb5 : Below w3.heap.size w3 w5 := hb4.trans (hb5'.mono hb4.size); have t0 := (hb5.cell (p := ⟨w2.heap.size, 0, none⟩) lv3).trans y0; have t1 := (hb5.cell (p := ⟨w2.heap.size, 1, none⟩) lv3).trans y1; have t2 := (hb5.cell (p := ⟨pw, 0, none⟩) lp3).trans y2)
      | (go_at_call 34; refine (KW.out w5 (hB3.trans (hb5.mono hB3.size))).mono ?_; rintro e w6 ⟨b6, cap6, rfl, L6, hb6'⟩; have hb6 : Below w3.heap.size w3 w6 := hb5.trans (hb6'.mono hb5.size); have x0 := (hb6.cell (p := ⟨w2.heap.size, 0, none⟩) lv3).trans y0; have x1 := (hb6.cell (p := ⟨w2.heap.size, 1, none⟩) lv3).trans y1; have x2 := (hb6.cell (p := ⟨pw, 0, none⟩) lp3).trans y2)
      | (go_at_call 31; rw [← k5]; refine (sameLongs_any _ _ cap1 cap6 ws w6 (by omega) (R3.out.2.2.below hb6) L6).mono ?_; rintro e w7 ⟨rfl, hb7'⟩; have hb7 : Below w3.heap.size w3 w7 := hb6.trans (hb7'.mono hb6.size); have q0 := (hb7.cell (p := ⟨w2.heap.size, 0, none⟩) lv3).trans y0; have q1 := (hb7.cell (p := ⟨w2.heap.size, 1, none⟩) lv3).trans y1; have q2 := (hb7.cell (p := ⟨pw, 0, none⟩) lp3).trans y2))
  refine NoPanic.normal ?_
  have hB7 : Hid (Below w.heap.size w w7) := hB3.trans (hb7.mono hB3.size)
  have HV7 : Hid (w7.heap[w2.heap.size]? = some (.cells #[.slice r2 12 d2, .slice na ns.length nc] 80 (0, 0))) := (hb7.block _ lv3).trans HV3.out
  have R7 : Hid (Lp w7 r2 V ∧ Ln w7 na ns) := ⟨R3.out.1.below hb7, R3.out.2.1.below hb7⟩
  have lv7 := lt_of_some HV7.out
  clear q2 y0 y1 y2 R3 HV3 hb4 hb4' hb5 hb5' hb6 hb6' hb7 hb7' hr4 hn4 L6 hB2 hB3 hBd hd KV KW q0
  have szv : w.heap.size ≤ w7.heap.size := hB7.out.size
  go_wp2_with (at_make; refine wpList_make_full _ rfl _ _ 83 rfl w7.heap.size 4 i0 (.bool false) 1 Try.underlying83 hi hz0 hz1 .i64 .i64 _ _ ns.length rfl rfl rfl rfl (by rw [hz2]; omega) (by unfold maxLen; omega) (Nat.le_refl _) ?_; intro w8 hown8 hgrow8; have b8 : Hid (_ ∧ _) := ⟨made_led hown8, hgrow8⟩; clear hown8 hgrow8)
  obtain ⟨hr8, hg8⟩ := b8.out
  have hb78 : Below w7.heap.size w7 w8 := (Below.refl _ _).grown hg8 (Nat.le_refl _) (fun k e => by cases e)
  have hba8 := (Below.refl w8.heap.size w8).alloc (Nat.le_refl _) (.cells #[.slice (some ⟨w7.heap.size, 0, none⟩) ns.length ns.length] 83)
  have HS8 : Hid (Sk (w8.alloc (.cells #[.slice (some ⟨w7.heap.size, 0, none⟩) ns.length ns.length] 83)) w2.heap.size w8.heap.size ns.length r2 na (some ⟨w7.heap.size, 0, none⟩) d2 nc ns.length w7.heap.size (ldL ns.length [])) := ⟨(hba8.block _ (Nat.lt_of_lt_of_le lv7 hb78.size)).trans ((hb78.block _ lv7).trans HV7.out), heap_alloc_new _ _, row_alloc hr8 _⟩
  have HB8 : Hid (Below w7.heap.size w7 (w8.alloc (.cells #[.slice (some ⟨w7.heap.size, 0, none⟩) ns.length ns.length] 83))) := hb78.trans (hba8.mono hb78.size)
  clear u0 u1 u2 t0 t1 t2 x0 x1 x2 q1 hr8 hg8 hb78 hba8 b8
  have hs78 := HB8.out.size
  generalize w8.alloc (.cells #[.slice (some ⟨w7.heap.size, 0, none⟩) ns.length ns.length] 83) = w9 at *
  generalize w8.heap.size = lb at *
  generalize w2.heap.size = vb at *
  have KS : Hid (∀ (wr : World) (vs : List (Int × Int)) (k z : Int), Sk wr vb lb ns.length r2 na (some ⟨w7.heap.size, 0, none⟩) d2 nc ns.length w7.heap.size (ldL ns.length vs) → Below w7.heap.size w7 wr → Vto ns.length (k, z) → Calls Try.prog 37 #[.agg #[.int .i64 k, .int .i64 z], .pointer (some ⟨vb, 0, none⟩), .pointer (some ⟨lb, 0, none⟩)] wr fun e w' => e = .returned (.bool true) ∧ Hid (Sk w' vb lb ns.length r2 na (some ⟨w7.heap.size, 0, none⟩) d2 nc ns.length w7.heap.size (ldL ns.length (vs ++ [(k, z)]))) ∧ Hid (Below w7.heap.size w7 w')) := fun wr vs k z hS hB ht => by
    refine (see_any hS hbn k z ht).mono ?_
    rintro e w' ⟨rfl, h1, h2⟩
    rw [ldL_snoc vs (k, z) ht] at h1
    exact ⟨rfl, h1, hB.trans (h2.below hB.size (fun j e => (row_lt hS.row j e).1))⟩
  go_loopw [20] (fun iv wr => ∃ j : Nat, j ≤ 12 ∧ iv = .int .i64 j ∧ Hid (Sk wr vb lb ns.length r2 na (some ⟨w7.heap.size, 0, none⟩) d2 nc ns.length w7.heap.size (ldL ns.length (V.take j))) ∧ Hid (Below w7.heap.size w7 wr)) (fun iv _ => 12 - (intOf iv).toNat)
  case atStart => exact ⟨0, by omega, rfl, HS8, HB8⟩
  case round =>
    obtain ⟨j, hj, rfl, HS, HB⟩ := hrel
    clear HS8 HB8
    have y0 : wr.cell? ⟨vb, 0, none⟩ = some (.slice r2 12 d2) := by simp [World.cell?, HS.out.hv]
    by_cases hlt : j < 12
    · obtain ⟨b0, o0, e0, l0, hc⟩ := (R7.out.1.below HB.out) (by rw [hvl.out]; omega)
      obtain ⟨x1, x2⟩ := hc j (by rw [hvl.out]; exact hlt)
      rw [e0] at y0
      clear hc e0
      obtain ⟨k, z, hkz⟩ : ∃ k z, V.getD j (0, 0) = (k, z) := ⟨_, _, rfl⟩
      have ET : Hid (V.take (j + 1) = V.take j ++ [(k, z)]) := by show _ = _; rw [← hkz]; exact take_snoc V j (by rw [hvl.out]; exact hlt) (0, 0)
      have hto : Hid (Vto ns.length (k, z)) := by show Vto _ _; rw [← hkz]; exact VO.out.tv _ (by rw [List.getD_eq_getElem?_getD, List.getElem?_eq_getElem (by rw [hvl.out]; exact hlt)]; exact List.getElem_mem _)
      have hval : Hid (dk (rs.getD j 0) ≠ 3 → (k, z) = (dk (rs.getD j 0), dn (rs.getD j 0))) := by show _ → _; rw [← hkz]; exact VO.out.val j (by omega)
      have HKZ : Hid (V.getD j (0, 0) = (k, z)) := hkz
      rw [hkz] at x1 x2
      clear hkz
      have j0 : (0 : Int) ≤ (j : Int) := by omega
      have j1 : (j : Int) < 12 := by omega
      go_wp2_with fail
      refine (KS.out wr (V.take j) k z HS.out HB.out hto.out).mono ?_
      rintro e w10 ⟨rfl, HS10, HB10⟩
      have hW10 := H.out w10 (hB7.out.trans (HB10.out.mono szv))
      have y3 := hW10.cells.2.2.1
      have y4 := (hW10.rcell j hlt).1
      have hL10 := (R7.out.1.below HB10.out) (by rw [hvl.out]; omega)
      clear y0 x1 x2 hW10 HS HB l0
      generalize rs.getD j 0 = x at *
      go_wp2_with fail
      refine (decode_any x w10).mono ?_
      rintro e w11 ⟨rfl, hb11⟩
      have hs10 := HB10.out.size
      have hba := (Below.refl w11.heap.size w11).alloc (Nat.le_refl _) (.cells #[.int .i64 (dk x), .int .i64 (dn x)] 85)
      have hb12 : Below w10.heap.size w10 _ := hb11.trans (hba.mono hb11.size)
      have HS12 : Hid (Sk _ vb lb ns.length r2 na (some ⟨w7.heap.size, 0, none⟩) d2 nc ns.length w7.heap.size (ldL ns.length (V.take j ++ [(k, z)]))) := HS10.out.below hb12
      have HB12 : Hid (Below w7.heap.size w7 _) := HB10.out.trans (hb12.mono hs10)
      obtain ⟨b1', o1', e1, l1', hc1⟩ := (R7.out.1.below HB12.out) (by rw [hvl.out]; omega)
      have z0 := (by simp [World.cell?, HS12.out.hv] : (w11.alloc (.cells #[.int .i64 (dk x), .int .i64 (dn x)] 85)).cell? ⟨vb, 0, none⟩ = some (.slice r2 12 d2))
      rw [e1] at z0
      have z3 : (w11.alloc (.cells #[.int .i64 (dk x), .int .i64 (dn x)] 85)).cell? ⟨w11.heap.size, 0, none⟩ = some (.int .i64 (dk x)) := by simp [go_sem]
      have z4 : (w11.alloc (.cells #[.int .i64 (dk x), .int .i64 (dn x)] 85)).cell? ⟨w11.heap.size, 1, none⟩ = some (.int .i64 (dn x)) := by simp [go_sem]
      have HC1 : Hid (_) := hc1
      clear hc1 e1 hL10 hba hb12 y3 y4
      go_upto_region 36 with fail
      generalize w11.alloc (.cells #[.int .i64 (dk x), .int .i64 (dn x)] 85) = w12 at *
      generalize w11.heap.size = xb at *
      obtain ⟨z1, z2⟩ := HC1.out j (by rw [hvl.out]; exact hlt)
      rw [HKZ.out] at z1 z2
      have hval2 : Hid (dk x = 3 ∨ (k = dk x ∧ z = dn x)) := by
        by_cases c : dk x = 3
        · exact Or.inl c
        · have := hval.out c
          simp at this
          exact Or.inr this
      have fin : Hid (∀ (a : Act) (w' : World), Below w12.heap.size w12 w' → Sk w' vb lb ns.length r2 na (some ⟨w7.heap.size, 0, none⟩) d2 nc ns.length w7.heap.size (ldL ns.length (V.take (j + 1))) ∧ Below w7.heap.size w7 w') := fun a w' hb => ⟨by rw [ET.out]; exact HS12.out.below hb, HB12.out.trans (hb.mono HB12.out.size)⟩
      generalize dk x = u at *
      generalize dn x = v at *
      generalize dc x = cc at *
      clear HC1 HKZ hval HS12 HB12 HS10 HB10 hb11
      by_cases h0 : cc = 0
      · subst h0
        by_cases h3 : u = 3
        · subst h3
          clear hval2
          go_quiet (fail)
          go_wp2_with fail
          go_roundw
          case rel => exact ⟨j + 1, by omega, by go_num, (fin.out ⟨#[], []⟩ _ (below_drewN (Below.refl _ _) _)).1, (fin.out ⟨#[], []⟩ _ (below_drewN (Below.refl _ _) _)).2⟩
          case measure => simp [intOf]; omega
        · have hval3 : k = u ∧ z = v := hval2.out.elim (fun c => absurd c h3) id
          obtain ⟨rfl, rfl⟩ := hval3
          have h3b : (k != 3) = true := by simpa using h3
          clear hval2 h3
          go_quiet (fail)
          go_wp2_with fail
          go_roundw
          case rel => exact ⟨j + 1, by omega, by go_num, (fin.out ⟨#[], []⟩ _ (below_drewN (Below.refl _ _) _)).1, (fin.out ⟨#[], []⟩ _ (below_drewN (Below.refl _ _) _)).2⟩
          case measure => simp [intOf]; omega
      · have h0b : (cc == 0) = false := by simpa using h0
        clear hval2
        go_quiet (fail)
        go_wp2_with fail
        go_roundw
        case rel => exact ⟨j + 1, by omega, by go_num, (fin.out ⟨#[], []⟩ _ (below_drewN (Below.refl _ _) _)).1, (fin.out ⟨#[], []⟩ _ (below_drewN (Below.refl _ _) _)).2⟩
        case measure => simp [intOf]; omega
    · obtain rfl : j = 12 := by omega
      have HSb : Hid (Sk wr vb lb ns.length r2 na (some ⟨w7.heap.size, 0, none⟩) d2 nc ns.length w7.heap.size (ldL ns.length (V ++ flt (ns.take 0)))) := by
        have e1 : V ++ flt (ns.take 0) = V.take 12 := by
          rw [← hvl.out, List.take_length]
          simp [flt]
        show Sk _ _ _ _ _ _ _ _ _ _ _ _
        rw [e1]
        exact HS.out
      have HBb : Hid (Below w7.heap.size w7 wr) := HB.out
      clear HS HB
      go_wp2_with fail
      generalize wr = wb at *
      go_loopw [23] (fun iv wr => ∃ j : Nat, j ≤ ns.length ∧ iv = .int .i64 j ∧ Hid (Sk wr vb lb ns.length r2 na (some ⟨w7.heap.size, 0, none⟩) d2 nc ns.length w7.heap.size (ldL ns.length (V ++ flt (ns.take j)))) ∧ Hid (Below w7.heap.size w7 wr)) (fun iv _ => ns.length - (intOf iv).toNat)
      case atStart => exact ⟨0, by omega, rfl, HSb, HBb⟩
      case round =>
        obtain ⟨j, hj, rfl, HS, HB⟩ := hrel
        clear HSb HBb
        have y1 : wr.cell? ⟨vb, 1, none⟩ = some (.slice na ns.length nc) := by simp [World.cell?, HS.out.hv]
        by_cases hlt : j < ns.length
        · obtain ⟨b2, o2, fa, fc, e2, l2, z1, z2, z3⟩ := (R7.out.2.below HB.out).at hlt
          rw [e2] at y1
          have hled := VO.out.led j hlt
          have hrow := HS.out.row
          have hlg : ((ldL ns.length (V ++ flt (ns.take j))).map Value.bool)[j]? = some (.bool true) := by
            rw [List.getElem?_map]
            have := ldL_get ns.length (V ++ flt (ns.take j)) j hlt
            rw [List.getD_eq_getElem?_getD, List.getElem?_eq_getElem (by rw [ldL_len]; exact hlt)] at this
            rw [List.getElem?_eq_getElem (by rw [ldL_len]; exact hlt)]
            simp only [Option.getD_some] at this
            rw [Option.map_some, this, List.contains_iff_mem.2 hled]
          have z4 := (row_cell hrow hlg).1
          have z5 : wr.cell? ⟨lb, 0, none⟩ = some (.slice (some ⟨w7.heap.size, 0, none⟩) ns.length ns.length) := by simp [World.cell?, HS.out.hl]
          have hfit : Hid (_ = _) := VO.out.fit j hlt
          have hnto : Hid (∀ v ∈ (ns.getD j (0, [])).2, Vto ns.length v) := VO.out.nto j hlt
          have hfl : (ns.getD j (0, [])).2.length ≤ 12 := VO.out.fb _ (by rw [List.getD_eq_getElem?_getD, List.getElem?_eq_getElem hlt]; exact List.getElem_mem hlt)
          have EF : Hid (flt (ns.take (j + 1)) = flt (ns.take j) ++ (ns.getD j (0, [])).2) := flt_snoc ns j hlt
          have HAT : Hid (∀ w', Below w7.heap.size w7 w' → ∃ b o fa fc, na = some ⟨b, o, none⟩ ∧ b < w'.heap.size ∧ w'.cell? ⟨b, o + j * 2, none⟩ = some (.int .i64 (ns.getD j (0, [])).1) ∧ w'.cell? ⟨b, o + j * 2 + 1, none⟩ = some (.slice fa (ns.getD j (0, [])).2.length fc) ∧ Lp w' fa (ns.getD j (0, [])).2) := fun w' hb => (R7.out.2.below hb).at hlt
          generalize (ns.getD j (0, [])).1 = kd at *
          generalize (ns.getD j (0, [])).2 = fs at *
          have j0 : (0 : Int) ≤ (j : Int) := by omega
          have j1 : (j : Int) < (ns.length : Int) := by omega
          have hd := (Below.refl wr.heap.size wr).drew
          have HSd : Hid (Sk wr.drew vb lb ns.length r2 na (some ⟨w7.heap.size, 0, none⟩) d2 nc ns.length w7.heap.size (ldL ns.length (V ++ flt (ns.take j)))) := HS.out.below hd
          have HBd : Hid (Below w7.heap.size w7 wr.drew) := HB.out.trans (hd.mono HB.out.size)
          have PF : Hid (∀ w', Calls Try.prog 39 #[.int .i64 kd, .int .i64 (fs.length : Int)] w' fun e w'' => e = .returned (.int .i64 0) ∧ w'' = w') := fun w' => by
            have := fits_any kd fs.length w'
            rw [hfit.out] at this
            exact this
          clear hlg hrow hled HS HB e2
          go_upto_region 41 with fail
          refine wp_region_noPanic ?_
          go_region_held3 (fun w' => w'.cell? ⟨lb, 0, none⟩ = some (.slice (some ⟨w7.heap.size, 0, none⟩) ns.length ns.length) ∧ w'.cell? ⟨w7.heap.size, j, none⟩ = some (.bool true) ∧ w'.cell? ⟨vb, 1, none⟩ = some (.slice (some ⟨b2, o2, none⟩) ns.length nc) ∧ w'.cell? ⟨b2, o2 + j * 2, none⟩ = some (.int .i64 kd) ∧ w'.cell? ⟨b2, o2 + j * 2 + 1, none⟩ = some (.slice fa fs.length fc)) (go_keep)
            (first | (go_at_call 39; refine (PF.out _).mono ?_; rintro e w5 ⟨rfl, rfl⟩))
          refine NoPanic.normal ?_
          clear y1 z1 z2 z3 z4 z5 PF
          go_wp2_with fail
          have HSe : Hid (Sk wr.drew vb lb ns.length r2 na (some ⟨w7.heap.size, 0, none⟩) d2 nc ns.length w7.heap.size (ldL ns.length (V ++ flt (ns.take j) ++ fs.take 0))) := by
            show Sk _ _ _ _ _ _ _ _ _ _ _ _
            rw [List.take_zero, List.append_nil]
            exact HSd.out
          clear HSd hd
          generalize wr.drew = wd at *
          go_loopw [24] (fun iv wr => ∃ i : Nat, i ≤ fs.length ∧ iv = .int .i64 i ∧ Hid (Sk wr vb lb ns.length r2 na (some ⟨w7.heap.size, 0, none⟩) d2 nc ns.length w7.heap.size (ldL ns.length (V ++ flt (ns.take j) ++ fs.take i))) ∧ Hid (Below w7.heap.size w7 wr)) (fun iv _ => fs.length - (intOf iv).toNat)
          case atStart => exact ⟨0, by omega, rfl, HSe, HBd⟩
          case round =>
            obtain ⟨i, hi', rfl, HS, HB⟩ := hrel
            clear HSe HBd
            obtain ⟨b3, o3, fa3, fc3, e3, l3, z1, z2, z3⟩ := HAT.out _ HB.out
            have y1 := HS.out.cell1
            rw [e3] at y1
            clear e3
            by_cases hlt2 : i < fs.length
            · obtain ⟨b4, o4, e4, l4, hc4⟩ := z3 (by omega)
              obtain ⟨x1, x2⟩ := hc4 i hlt2
              subst e4
              clear hc4
              obtain ⟨k, z, hkz⟩ : ∃ k z, fs.getD i (0, 0) = (k, z) := ⟨_, _, rfl⟩
              have ET : Hid (fs.take (i + 1) = fs.take i ++ [(k, z)]) := by show _ = _; rw [← hkz]; exact take_snoc fs i hlt2 (0, 0)
              have hto : Hid (Vto ns.length (k, z)) := by show Vto _ _; rw [← hkz]; exact hnto.out _ (by rw [List.getD_eq_getElem?_getD, List.getElem?_eq_getElem hlt2]; exact List.getElem_mem _)
              rw [hkz] at x1 x2
              clear hkz
              have i0' : (0 : Int) ≤ (i : Int) := by omega
              have i1' : (i : Int) < (fs.length : Int) := by omega
              go_wp2_with fail
              refine (KS.out _ (V ++ flt (ns.take j) ++ fs.take i) k z HS.out HB.out hto.out).mono ?_
              rintro e w10 ⟨rfl, HS10, HB10⟩
              clear y1 z1 z2 x1 x2 HS HB
              go_wp2_with fail
              go_roundw
              case rel => exact ⟨i + 1, by omega, by go_num, by show Sk _ _ _ _ _ _ _ _ _ _ _ _; rw [ET.out, ← List.append_assoc]; exact HS10.out, HB10⟩
              case measure => simp [intOf]; omega
            · obtain rfl : i = fs.length := by omega
              have HSf : Hid (Sk wr vb lb ns.length r2 na (some ⟨w7.heap.size, 0, none⟩) d2 nc ns.length w7.heap.size (ldL ns.length (V ++ flt (ns.take (j + 1))))) := by
                show Sk _ _ _ _ _ _ _ _ _ _ _ _
                rw [EF.out, ← List.append_assoc]
                have := HS.out
                rw [List.take_length] at this
                exact this
              clear HS z3
              go_wp2_with fail
              refine ⟨⟨_, _, _, _, _, _, _, _, _, _, _, _, _, _, _, _, _, _, _, _, _, _, _, _, _, _, _, _, _, _, _, _, _, _, _, _, _, _, _, _, _, _, _, _, _, _, _, _, _, _, _, _, _, _, _, ?rel, rfl⟩, ?measure⟩
              case rel => exact ⟨j + 1, by omega, by go_num, HSf, HB⟩
              case measure => simp [intOf]; omega
        · obtain rfl : j = ns.length := by omega
          have hfin := hB7.out.trans (HB.out.mono szv)
          go_wp2_with fail
          exact HQ.out _ _ rfl rfl hfin

end Go.Proofs.Ytglddgjljohkiab.WVs
