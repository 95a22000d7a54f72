/- The document's world: Cut: what it does with things in place: a contract of its end. -/
import Derived.Test.YtogknhogphkddaaGreatJ10
import Derived.Test.YtogknhogphkddaaGreatJ08
namespace Go.Proofs.YtogknhogphkddaaGreat.Cut7
open Go.RowKit W Kp Stl

def begins (n : Nat) : Code → Bool
  | .region m _ _ => m == n
  | .seq a _ => begins n a
  | _ => false
def find (n : Nat) : Code → Option Code
  | .seq a b => match begins n a with
    | true => some (.seq a b)
    | false => match find n a with
      | some c => some c
      | none => find n b
  | .cond _ a b => match find n a with
    | some c => some c
    | none => find n b
  | .block _ c => find n c
  | .loop c => find n c
  | .scope c => find n c
  | _ => none

theorem set_two {α : Type} (l : List α) (i : Nat) (a b : α) : (l.set i a).set i b = l.set i b := by simp
theorem pair_cells {w : World} (a b c d : Int) : Lp (w.alloc (.cells #[.int .i64 a, .int .i64 b, .int .i64 c, .int .i64 d] 54)) (some ⟨w.heap.size, 0, none⟩) [(a, b), (c, d)] := fun _ => by
  have h := heap_alloc_new w (.cells #[.int .i64 a, .int .i64 b, .int .i64 c, .int .i64 d] 54)
  refine ⟨w.heap.size, 0, rfl, by simp, fun i hi => ?_⟩
  rcases (show i = 0 ∨ i = 1 by simp at hi; omega) with e | e <;> subst e <;> (constructor <;> (unfold World.cell?; dsimp only; rw [h]; rfl))

structure Far7 (rp rb : Nat) (most grow : Int) (F : Nat → Prop) (s : Wrs) (w : World) (ai : Option Addr) (ci : Nat) (L : List Bool) (j : Nat) (wr : World) (F' : Nat → Prop) : Prop where
  J : (wrO rp rb most grow).J F' { s with T := cuL L s.T j } wr
  tn : Tn F w F' wr
  row : wr.ownsRow 0 4 1 (.slice ai s.T.length ci) s.T.length (L.map Value.bool)
  no : ∀ k, some k = (Value.slice ai s.T.length ci).ownBlock → ¬ F' k
section
variable {rp rb : Nat} {most grow : Int} {F F' : Nat → Prop} {s : Wrs} {w wr : World} {ai : Option Addr} {ci j : Nat} {L : List Bool}

theorem Far7.next (h : Far7 rp rb most grow F s w ai ci L j wr F') {F2 : Nat → Prop} {w2 : World} (hJ : (wrO rp rb most grow).J F2 { s with T := (cuL L s.T j).set j (cuT L j (s.T.getD j t0)) } w2) (ht : Tn F' wr F2 w2) : Far7 rp rb most grow F s w ai ci L (j + 1) w2 F2 :=
  ⟨hJ, h.tn.trans ht, row_keep h.row (fun k e => ht.fr.block k (row_lt h.row k e).2 (h.no k e)), fun k e d => by
    rcases ht.sub k d with d | d
    · exact h.no k e d
    · have := (row_lt h.row k e).2
      omega⟩
end

section
variable {rp rb : Nat} {most grow : Int} {F : Nat → Prop} {s : Wrs} {w : World}

set_option maxRecDepth 100000 in
set_option maxHeartbeats 8000000 in
theorem tail7_wp {s1 s2 s3 s4 s5 s6 s8 s9 s10 s11 s12 s13 s14 s15 s16 s19 s20 s21 s22 s23 s24 s25 s26 s27 s28 s29 s30 s31 s32 s33 s34 s35 s36 s37 s38 s39 s40 s41 s42 s43 s44 s45 s46 s47 s48 s49 s50 s51 s52 s53 s54 s55 s56 s57 s58 s59 s60 s61 s62 s63 s64 s65 s66 s67 s68 s69 s70 s71 s72 s73 s74 s75 s76 s77 s78 s79 s80 s81 s82 s83 s84 s85 s86 s87 s88 s89 s90 s91 s92 s93 s94 s95 s96 s97 s98 s99 s100 s101 s102 s103 s104 s105 s106 s107 s108 s109 s110 s111 s112 s113 s114 s115 s116 s117 s118 s119 s120 s121 s122 s123 s124 s125 s126 s127 s128 s129 s130 s131 s132 s133 s134 s135 s136 s137 s138 s139 s140 s141 s142 s143 s144 s145 s146 s147 s148 s149 s150 s151 s152 s153 s154 s155 s156 s157 s158 s159 s160 s161 s162 s163 s164 s165 s166 s167 s168 s169 s170 s171 s172 s173 s174 s175 s176 s177 s178 s179 s180 s181 s182 s183 s184 s185 s186 s187 s188 s189 s190 s191 s192 s193 s194 s195 s196 s197 s198 s199 s200 s201 s202 s203 s204 s205 s206 s207 s208 s209 s210 s211 s212 s213 s214 s215 s216 s217 s218 s219 s220 s221 s222 s223 s224 s225 s226 s227 s228 s229 s230 s231 s232 s233 s234 s235 s236 s237 s238 s239 s240 s241 s242 s243 s244 s245 s246 s247 s248 s249 s250 s251 s252 s253 s254 s255 s256 s257 s258 s259 s260 s261 s262 s263 s264 s265 s266 s267 s268 s269 s270 s271 s272 s273 s274 s275 s276 s277 s278 s279 s280 s281 s282 s283 s284 s285 s286 s287 s288 s289 s290 s291 s292 s293 s294 s295 s296 s297 s298 s299 s300 s301 s302 s303 s304 s305 s306 s307 s308 s309 s310 s311 s312 s313 s314 s315 s316 s317 s318 : Value} {Q : Exit → Act → World → Prop} {ai ra qa : Option Addr} {ci rn rc qn qc : Nat} {L : List Bool} {w0 : World} {x2 x3 : Value} (hd2 : w0.cell? ⟨rp, 2, none⟩ = some x2) (hd3 : w0.cell? ⟨rp, 3, none⟩ = some x3) (hz2 : w0.frozen? ⟨rp, 2, none⟩ = false) (hz3 : w0.frozen? ⟨rp, 3, none⟩ = false) (hw : (w0.setCell ⟨rp, 2, none⟩ (.slice ra rn rc)).setCell ⟨rp, 3, none⟩ (.slice qa qn qc) = w) (h : (wrO rp rb most grow).J F s w) (hr : w.ownsRow 0 4 1 (.slice ai s.T.length ci) s.T.length (L.map Value.bool)) (hno : ∀ k, some k = (Value.slice ai s.T.length ci).ownBlock → ¬ F k) (hiv : Wiv s.T s.wt) (hL : Sok_ s.T L) (htl : s.T.length ≤ 10000)
    (hQ : ∀ (a : Act) (w' : World) (F' : Nat → Prop), a.tmps.getD 4 undef = .int .i64 0 → a.defers = [] → (wrO rp rb most grow).J F' { s with T := cuL L s.T s.T.length } w' → Tn F w F' w' → Q .ret a w') :
    Code.wp Tryz.prog ((find 44 (Tryz.f29.body.getD .skip)).getD .skip) Q ⟨#[.pointer (some ⟨rp, 0, none⟩), s1, s2, s3, s4, s5, s6, .slice ai s.T.length ci, s8, s9, s10, s11, s12, s13, s14, s15, s16, .slice ra rn rc, .slice qa qn qc, s19, s20, s21, s22, s23, s24, s25, s26, s27, s28, s29, s30, s31, s32, s33, s34, s35, s36, s37, s38, s39, s40, s41, s42, s43, s44, s45, s46, s47, s48, s49, s50, s51, s52, s53, s54, s55, s56, s57, s58, s59, s60, s61, s62, s63, s64, s65, s66, s67, s68, s69, s70, s71, s72, s73, s74, s75, s76, s77, s78, s79, s80, s81, s82, s83, s84, s85, s86, s87, s88, s89, s90, s91, s92, s93, s94, s95, s96, s97, s98, s99, s100, s101, s102, s103, s104, s105, s106, s107, s108, s109, s110, s111, s112, s113, s114, s115, s116, s117, s118, s119, s120, s121, s122, s123, s124, s125, s126, s127, s128, s129, s130, s131, s132, s133, s134, s135, s136, s137, s138, s139, s140, s141, s142, s143, s144, s145, s146, s147, s148, s149, s150, s151, s152, s153, s154, s155, s156, s157, s158, s159, s160, s161, s162, s163, s164, s165, s166, s167, s168, s169, s170, s171, s172, s173, s174, s175, s176, s177, s178, s179, s180, s181, s182, s183, s184, s185, s186, s187, s188, s189, s190, s191, s192, s193, s194, s195, s196, s197, s198, s199, s200, s201, s202, s203, s204, s205, s206, s207, s208, s209, s210, s211, s212, s213, s214, s215, s216, s217, s218, s219, s220, s221, s222, s223, s224, s225, s226, s227, s228, s229, s230, s231, s232, s233, s234, s235, s236, s237, s238, s239, s240, s241, s242, s243, s244, s245, s246, s247, s248, s249, s250, s251, s252, s253, s254, s255, s256, s257, s258, s259, s260, s261, s262, s263, s264, s265, s266, s267, s268, s269, s270, s271, s272, s273, s274, s275, s276, s277, s278, s279, s280, s281, s282, s283, s284, s285, s286, s287, s288, s289, s290, s291, s292, s293, s294, s295, s296, s297, s298, s299, s300, s301, s302, s303, s304, s305, s306, s307, s308, s309, s310, s311, s312, s313, s314, s315, s316, s317, s318], []⟩ w0 := by
  conv => arg 2; whnf
  have HQ : Hid (∀ (a : Act) (w' : World) (F' : Nat → Prop), a.tmps.getD 4 undef = .int .i64 0 → a.defers = [] → (wrO rp rb most grow).J F' { s with T := cuL L s.T s.T.length } w' → Tn F w F' w' → Q .ret a w') := hQ
  have H0 : Hid (∃ F', Far7 rp rb most grow F s w ai ci L 0 w F') := ⟨F, h, ⟨Fr.refl F w, fun _ d => Or.inl d⟩, hr, hno⟩
  have HV : Hid (Wiv s.T s.wt ∧ Sok_ s.T L) := ⟨hiv, hL⟩
  have HW : Hid ((w0.setCell ⟨rp, 2, none⟩ (.slice ra rn rc)).setCell ⟨rp, 3, none⟩ (.slice qa qn qc) = w) := hw
  clear hQ h hr hno hiv hL hw
  go_upto_region 45 with fail
  rw [HW.out]
  clear HW hd2 hd3 hz2 hz3
  go_wp2_with fail
  go_loopw [21] (fun iv wr => ∃ j : Nat, j ≤ s.T.length ∧ iv = .int .i64 j ∧ Hid (∃ F', Far7 rp rb most grow F s w ai ci L j wr F')) (fun iv _ => s.T.length - (intOf iv).toNat)
  case atStart => exact ⟨0, Nat.zero_le _, rfl, H0⟩
  case round =>
    clear H0
    obtain ⟨j, hj, rfl, HF⟩ := hrel
    obtain ⟨F1, hF1⟩ := HF.out
    obtain ⟨aT, cT, c9, tne, tx⟩ := wr_things hF1.J
    have hlen : (cuL L s.T j).length = s.T.length := cuL_len L s.T j
    have c0 : wr.cell? ⟨rp, 0, none⟩ = some (.slice aT s.T.length cT) := by rw [← hlen]; exact c9
    clear c9
    have lrp := World.block_lt_of_cell? wr _ c0
    by_cases hlt : j < s.T.length
    · have hTj : (cuL L s.T j)[j]? = some (s.T.getD j t0) := by
        have h1 := cuL_get L s.T j j hj hlt
        rw [if_neg (Nat.lt_irrefl j), List.getD_eq_getElem?_getD] at h1
        obtain ⟨x, hx⟩ : ∃ x, (cuL L s.T j)[j]? = some x := ⟨_, List.getElem?_eq_getElem (by rw [hlen]; exact hlt)⟩
        rw [hx] at h1 ⊢
        rw [← h1]
        rfl
      obtain ⟨b, ad, cp, rfl, u0, u1, u2, u3, hLp, hfn⟩ := tx j _ hTj
      have HTJ : Hid ((cuL L s.T j)[j]? = some (s.T.getD j t0)) := hTj
      obtain ⟨fl1, fl2, fb, ffz, fne⟩ := wr_flag (s := { s with T := cuL L s.T j }) hF1.J hTj (by rw [hlen]; exact c0)
      have hll := HV.out.2.len
      obtain ⟨ib, ic, e7⟩ := row_shape hF1.row (by omega)
      obtain ⟨rfl, rfl⟩ : ai = some ⟨ib, 0, none⟩ ∧ ci = ic := by simpa using e7
      have hig := (row_cell hF1.row (bool_at (L := L) (i := j) (by omega))).1
      have nib : ib ≠ b := fun e => hF1.no ib rfl (by rw [e]; exact fb)
      have lib := World.block_lt_of_cell? wr _ hig
      have lb := World.block_lt_of_cell? wr _ u0
      have HFR : Hid (Far7 rp rb most grow F s w (some ⟨ib, 0, none⟩) ci L j wr F1) := hF1
      have HAL : Hid (L.getD j false = true → Alv s.T j) := fun e => HV.out.2.al j e
      have HTL : Hid ((s.T.getD j t0).2.1.length ≤ 12) := HV.out.1.tl j
      have HFL : Hid ((wrO rp rb most grow).J F1 { s with T := (cuL L s.T j).set j ((s.T.getD j t0).1, (s.T.getD j t0).2.1, true, (s.T.getD j t0).2.2.2) } (wr.setCell ⟨b, j * 4 + 2, none⟩ (.bool true)) ∧ (wrO rp rb most grow).J F1 { s with T := (cuL L s.T j).set j ((s.T.getD j t0).1, (s.T.getD j t0).2.1, (s.T.getD j t0).2.2.1, true) } (wr.setCell ⟨b, j * 4 + 3, none⟩ (.bool true)) ∧ F1 b) := ⟨fl1, fl2, fb⟩
      have z1 := ffz (j * 4 + 1)
      have z2 := ffz (j * 4 + 2)
      have z3 := ffz (j * 4 + 3)
      have j0 : (0 : Int) ≤ (j : Int) := by omega
      have j1 : (j : Int) < (s.T.length : Int) := by omega
      have HC0 : Hid (wr.cell? ⟨rp, 0, none⟩ = some (.slice (some ⟨b, 0, none⟩) s.T.length cT)) := c0
      clear tx tne hF1 hTj fl1 fl2 fb ffz e7 HF hlen
      cases hg : L.getD j false
      · rw [hg] at hig
        have HN : Hid (∃ F', Far7 rp rb most grow F s w (some ⟨ib, 0, none⟩) ci L (j + 1) ((wr.setCell ⟨b, j * 4 + 3, none⟩ (.bool true)).setCell ⟨b, j * 4 + 1, none⟩ (.slice none 0 0)) F') := by
          have hc2 : (wr.setCell ⟨b, j * 4 + 3, none⟩ (.bool true)).cell? ⟨rp, 0, none⟩ = some (.slice (some ⟨b, 0, none⟩) s.T.length cT) := by
            have := HC0.out
            unfold World.cell? at this ⊢
            rw [Below.heap_setCell _ _ _ _ (show rp ≠ b from fun e => fne e.symm)]
            exact this
          obtain ⟨q1, q2⟩ := wr_fields (s := { s with T := (cuL L s.T j).set j ((s.T.getD j t0).1, (s.T.getD j t0).2.1, (s.T.getD j t0).2.2.1, true) }) HFL.out.2.1 (i := j) (x := ((s.T.getD j t0).1, (s.T.getD j t0).2.1, (s.T.getD j t0).2.2.1, true)) (by
            show ((cuL L s.T j).set j _)[j]? = _
            rw [List.getElem?_set_self (by rw [cuL_len]; exact hlt)]) (b := b) (cT := cT) (by
            show _ = some (Value.slice (some ⟨b, 0, none⟩) ((cuL L s.T j).set j _).length cT)
            rw [List.length_set, cuL_len]; exact hc2) none 0 [] (fun hp => absurd hp (by simp)) (fun _ _ hp => absurd hp (by simp))
          refine ⟨_, HFR.out.next (by
            have e : (cuL L s.T j).set j (cuT L j (s.T.getD j t0)) = ((cuL L s.T j).set j ((s.T.getD j t0).1, (s.T.getD j t0).2.1, (s.T.getD j t0).2.2.1, true)).set j ((s.T.getD j t0).1, [], (s.T.getD j t0).2.2.1, true) := by rw [set_two]; unfold cuT; rw [hg, if_neg (by simp)]
            rw [e]
            exact q1) ⟨((Fr.refl F1 wr).set b _ _ HFL.out.2.2).trans q2 (fun _ d => Or.inl d), fun k d => ?_⟩⟩
          rcases d with d | ⟨hp, _⟩
          · exact Or.inl d
          · exact absurd hp (by simp)
        clear hLp hfn HC0 HFL HFR HTJ
        as_aux_lemma =>
        go_wp2_with fail
        go_roundw
        case rel => exact ⟨j + 1, by omega, by go_num, HN⟩
        case measure => simp [intOf]; omega
      · rw [hg] at hig
        have al := HAL.out hg
        have HVF : Hid ((∀ v ∈ (s.T.getD j t0).2.1, v.1 = 3 → 0 ≤ v.2 ∧ Alv s.T v.2.toNat) ∧ ((s.T.getD j t0).1 = 3 ∨ (s.T.getD j t0).1 = 4 → (s.T.getD j t0).2.1.length = 2)) := ⟨HV.out.1.fv j al, HV.out.1.fl j al⟩
        have HG : Hid (L.getD j false = true) := hg
        -- the flag is stored; what the thing is then
        have hbx : ∀ k, k ≠ b → (wr.setCell ⟨b, j * 4 + 2, none⟩ (.bool true)).heap[k]? = wr.heap[k]? := fun k hk => Below.heap_setCell _ _ _ _ hk
        have HF2 : Hid ((wrO rp rb most grow).J F1 { s with T := (cuL L s.T j).set j ((s.T.getD j t0).1, (s.T.getD j t0).2.1, true, (s.T.getD j t0).2.2.2) } (wr.setCell ⟨b, j * 4 + 2, none⟩ (.bool true)) ∧ (wr.setCell ⟨b, j * 4 + 2, none⟩ (.bool true)).cell? ⟨rp, 0, none⟩ = some (.slice (some ⟨b, 0, none⟩) s.T.length cT) ∧ Tn F1 wr F1 (wr.setCell ⟨b, j * 4 + 2, none⟩ (.bool true)) ∧ Lb (wr.setCell ⟨b, j * 4 + 2, none⟩ (.bool true)) (some ⟨ib, 0, none⟩) L) := by
          refine ⟨HFL.out.1, ?_, ⟨(Fr.refl F1 wr).set b _ _ HFL.out.2.2, fun _ d => Or.inl d⟩, ?_⟩
          · have := HC0.out
            unfold World.cell? at this ⊢
            rw [hbx rp (fun e => fne e.symm)]
            exact this
          · have hrw := row_keep HFR.out.row (fun k e => hbx k (fun e' => by have e : some k = some ib := e; cases e; exact nib e'))
            rw [← hll] at hrw
            exact row_bools hrw
        have w2c : ∀ o, o ≠ j * 4 + 2 → ∀ v, wr.cell? ⟨b, o, none⟩ = some v → (wr.setCell ⟨b, j * 4 + 2, none⟩ (.bool true)).cell? ⟨b, o, none⟩ = some v := fun o ho v hv => by
          rw [World.cell?_setCell_other _ _ _ _ (fun e => ho (by injection e with _ e; exact e.symm))]
          exact hv
        have y0 := w2c (j * 4) (by omega) _ u0
        have y1 := w2c (j * 4 + 1) (by omega) _ u1
        have lb2 : b < (wr.setCell ⟨b, j * 4 + 2, none⟩ (.bool true)).heap.size := World.block_lt_of_cell? _ _ y0
        have zz1 : (wr.setCell ⟨b, j * 4 + 2, none⟩ (.bool true)).frozen? ⟨b, j * 4 + 1, none⟩ = false := by
          rw [World.frozen?_setCell]
          exact z1
        have fin : ∀ {w3 : World} (ad' : Option Addr) (c' : Nat) (vs : List (Int × Int)), Below (wr.setCell ⟨b, j * 4 + 2, none⟩ (.bool true)).heap.size (wr.setCell ⟨b, j * 4 + 2, none⟩ (.bool true)) w3 → Lp w3 ad' vs → (∀ b' o', 0 < vs.length → ad' = some ⟨b', o', none⟩ → (wr.setCell ⟨b, j * 4 + 2, none⟩ (.bool true)).heap.size ≤ b') → cuT L j (s.T.getD j t0) = ((s.T.getD j t0).1, vs, true, (s.T.getD j t0).2.2.2) →
            ∃ F', Far7 rp rb most grow F s w (some ⟨ib, 0, none⟩) ci L (j + 1) (w3.setCell ⟨b, j * 4 + 1, none⟩ (.slice ad' vs.length c')) F' := fun {w3} ad' c' vs hb3 hl3 hn3 he => by
          have hJ3 := (wrO rp rb most grow).below HF2.out.1 hb3
          have hc3 := (hb3.cell (p := ⟨rp, 0, none⟩) (World.block_lt_of_cell? _ _ HF2.out.2.1)).trans HF2.out.2.1
          obtain ⟨q1, q2⟩ := wr_fields (s := { s with T := (cuL L s.T j).set j ((s.T.getD j t0).1, (s.T.getD j t0).2.1, true, (s.T.getD j t0).2.2.2) }) hJ3 (i := j) (x := ((s.T.getD j t0).1, (s.T.getD j t0).2.1, true, (s.T.getD j t0).2.2.2)) (by
            show ((cuL L s.T j).set j _)[j]? = _
            rw [List.getElem?_set_self (by rw [cuL_len]; exact hlt)]) (b := b) (cT := cT) (by
            show _ = some (Value.slice (some ⟨b, 0, none⟩) ((cuL L s.T j).set j _).length cT)
            rw [List.length_set, cuL_len]; exact hc3) ad' c' vs hl3 (fun b' o' hp e d => by
            have h1 := hn3 b' o' hp e
            have h2 := (wrO rp rb most grow).lt HF2.out.1 b' d
            omega)
          refine ⟨_, HFR.out.next (by
            have e : (cuL L s.T j).set j (cuT L j (s.T.getD j t0)) = ((cuL L s.T j).set j ((s.T.getD j t0).1, (s.T.getD j t0).2.1, true, (s.T.getD j t0).2.2.2)).set j ((s.T.getD j t0).1, vs, true, (s.T.getD j t0).2.2.2) := by rw [set_two, he]
            rw [e]
            exact q1) ⟨(HF2.out.2.2.1.fr.trans (Fr.of hb3) (fun _ d => Or.inl d)).trans q2 (fun _ d => Or.inl d), fun k d => ?_⟩⟩
          rcases d with d | ⟨hp, o', e⟩
          · exact Or.inl d
          · have h1 := hn3 k o' hp e
            have h2 : (wr.setCell ⟨b, j * 4 + 2, none⟩ (.bool true)).heap.size = wr.heap.size := by simp [World.setCell]
            exact Or.inr (by omega)
        have HFI : Hid (∀ {w3 : World} (ad' : Option Addr) (c' : Nat) (vs : List (Int × Int)), Below (wr.setCell ⟨b, j * 4 + 2, none⟩ (.bool true)).heap.size (wr.setCell ⟨b, j * 4 + 2, none⟩ (.bool true)) w3 → Lp w3 ad' vs → (∀ b' o', 0 < vs.length → ad' = some ⟨b', o', none⟩ → (wr.setCell ⟨b, j * 4 + 2, none⟩ (.bool true)).heap.size ≤ b') → cuT L j (s.T.getD j t0) = ((s.T.getD j t0).1, vs, true, (s.T.getD j t0).2.2.2) →
            ∃ F', Far7 rp rb most grow F s w (some ⟨ib, 0, none⟩) ci L (j + 1) (w3.setCell ⟨b, j * 4 + 1, none⟩ (.slice ad' vs.length c')) F') := fin
        -- nothing else turns
        have HFS : Hid (∀ w3 : World, Below (wr.setCell ⟨b, j * 4 + 2, none⟩ (.bool true)).heap.size (wr.setCell ⟨b, j * 4 + 2, none⟩ (.bool true)) w3 → cuT L j (s.T.getD j t0) = ((s.T.getD j t0).1, (s.T.getD j t0).2.1, true, (s.T.getD j t0).2.2.2) → ∃ F', Far7 rp rb most grow F s w (some ⟨ib, 0, none⟩) ci L (j + 1) w3 F') := fun w3 hb3 he => by
          refine ⟨F1, HFR.out.next (by rw [he]; exact (wrO rp rb most grow).below HF2.out.1 hb3) ⟨HF2.out.2.2.1.fr.trans (Fr.of hb3) (fun _ d => Or.inl d), fun k d => Or.inl d⟩⟩
        have HCU : Hid (cuT L j (s.T.getD j t0) = ((s.T.getD j t0).1, (if (s.T.getD j t0).1 = 4 ∧ inS L ((s.T.getD j t0).2.1.getD 0 (0, 0)) = false then [(2, 0), (2, 0)] else if (s.T.getD j t0).1 = 3 ∧ inS L ((s.T.getD j t0).2.1.getD 0 (0, 0)) = false then [(2, 0), (s.T.getD j t0).2.1.getD 1 (0, 0)] else (s.T.getD j t0).2.1), true, (s.T.getD j t0).2.2.2)) := by
          show _ = _
          unfold cuT
          rw [HG.out, if_pos rfl]
        obtain ⟨aT2, cT2, c02, _, tx2⟩ := wr_things HF2.out.1
        obtain ⟨b2, ad2, cp2, e2, _, y12, _, _, hLp2, _⟩ := tx2 j ((s.T.getD j t0).1, (s.T.getD j t0).2.1, true, (s.T.getD j t0).2.2.2) (by
          show ((cuL L s.T j).set j _)[j]? = _
          rw [List.getElem?_set_self (by rw [cuL_len]; exact hlt)])
        obtain rfl : b = b2 := by
          have q := c02.symm.trans HF2.out.2.1
          rw [e2] at q
          have q2 : b2 = b := by injection q with q; injection q with q; injection q with q; injection q
          exact q2.symm
        obtain rfl : ad = ad2 := by
          have q := y1.symm.trans y12
          have q2 : ad = ad2 := by injection q with q; injection q
          exact q2
        have HLp : Hid (Lp (wr.setCell ⟨b, j * 4 + 2, none⟩ (.bool true)) ad (s.T.getD j t0).2.1) := hLp2
        have HLB : Hid (Lb (wr.setCell ⟨b, j * 4 + 2, none⟩ (.bool true)) (some ⟨ib, 0, none⟩) L) := HF2.out.2.2.2
        clear hLp2 tx2 c02 e2 y12 fin hLp hfn HC0 HFL HFR HTJ HF2 w2c hbx HAL HV hg
        generalize s.T.getD j t0 = t at *
        obtain ⟨kd, fs, od, dd⟩ := t
        dsimp only at u0 u1 u2 u3 y0 y1 HTL HVF HFI HFS HCU HLp
        have h34 : kd = 3 ∨ kd = 4 ∨ (kd ≠ 3 ∧ kd ≠ 4) := by omega
        rcases h34 with k3 | k4 | kn
        · subst k3
          have l2 := HVF.out.2 (Or.inl rfl)
          obtain ⟨f0, f1, rfl⟩ : ∃ f0 f1, fs = [f0, f1] := by
            match fs, l2 with
            | [f0, f1], _ => exact ⟨f0, f1, rfl⟩
          obtain ⟨fb, fo, rfl, lfb, hfc⟩ := HLp.out (by simp)
          obtain ⟨x0, x1⟩ := hfc 0 (by simp)
          obtain ⟨x2, x3⟩ := hfc 1 (by simp)
          have x0 : (wr.setCell ⟨b, j * 4 + 2, none⟩ (.bool true)).cell? ⟨fb, fo, none⟩ = some (.int .i64 f0.1) := by simpa using x0
          have x1 : (wr.setCell ⟨b, j * 4 + 2, none⟩ (.bool true)).cell? ⟨fb, fo + 1, none⟩ = some (.int .i64 f0.2) := by simpa using x1
          have x2 : (wr.setCell ⟨b, j * 4 + 2, none⟩ (.bool true)).cell? ⟨fb, fo + 2, none⟩ = some (.int .i64 f1.1) := by simpa using x2
          have x3 : (wr.setCell ⟨b, j * 4 + 2, none⟩ (.bool true)).cell? ⟨fb, fo + 3, none⟩ = some (.int .i64 f1.2) := by simpa using x3
          have PI := inSet_any (wr.setCell ⟨b, j * 4 + 2, none⟩ (.bool true)) (some ⟨ib, 0, none⟩) ci L f0 HLB.out (fun h3 => by
            obtain ⟨q1, q2⟩ := HVF.out.1 f0 (by simp) h3
            have := q2.1
            exact ⟨q1, by omega⟩) (by omega)
          rw [hll] at PI
          have HCV : Hid (cuT L j (3, [f0, f1], od, dd) = (3, (if inS L f0 = false then [(2, 0), f1] else [f0, f1]), true, dd)) := by
            show _ = _
            rw [HCU.out]
            simp
          obtain ⟨g0, g1⟩ := f0
          obtain ⟨g2, g3⟩ := f1
          dsimp only at x0 x1 x2 x3 PI HCV
          clear hfc HLp l2 HCU HVF HTL HLB
          go_wp2_with fail
          refine PI.mono ?_
          clear PI
          rintro e w3 ⟨rfl, hb3⟩
          dsimp only
          have v0 := (hb3.cell (p := ⟨b, j * 4, none⟩) lb2).trans y0
          have v1 := (hb3.cell (p := ⟨b, j * 4 + 1, none⟩) lb2).trans y1
          have v2 := (hb3.cell (p := ⟨fb, fo + 2, none⟩) lfb).trans x2
          have v3 := (hb3.cell (p := ⟨fb, fo + 3, none⟩) lfb).trans x3
          have vz : w3.frozen? ⟨b, j * 4 + 1, none⟩ = false := by
            have := zz1
            unfold World.frozen? at this ⊢
            dsimp only at this ⊢
            rw [hb3.block b lb2]
            exact this
          have lb3 : b < w3.heap.size := Nat.lt_of_lt_of_le lb2 hb3.size
          cases hin : inS L (g0, g1)
          · have HN : Hid (∃ F', Far7 rp rb most grow F s w (some ⟨ib, 0, none⟩) ci L (j + 1) ((w3.setCell ⟨b, j * 4 + 1, none⟩ (.slice (some ⟨w3.heap.size, 0, none⟩) 2 2)).alloc (.cells #[.int .i64 2, .int .i64 0, .int .i64 g2, .int .i64 g3] 54)) F') := by
              have h1 := HFI.out (w3 := w3.alloc (.cells #[.int .i64 2, .int .i64 0, .int .i64 g2, .int .i64 g3] 54)) (some ⟨w3.heap.size, 0, none⟩) 2 [(2, 0), (g2, g3)] (hb3.alloc hb3.size _) (pair_cells _ _ _ _) (fun b' o' _ e => by cases e; exact hb3.size) (by rw [HCV.out, hin]; rfl)
              have h2 : ([(2, 0), (g2, g3)] : List (Int × Int)).length = 2 := rfl
              rw [h2, World.setCell_alloc_past _ _ _ _ lb3] at h1
              exact h1
            clear HFI HFS HCV x0 x1 x2 x3 y0 y1 u0 u1 u2 u3
            go_wp2_with fail
            go_roundw
            case rel => exact ⟨j + 1, by omega, by go_num, HN⟩
            case measure => simp [intOf]; omega
          · have HN : Hid (∃ F', Far7 rp rb most grow F s w (some ⟨ib, 0, none⟩) ci L (j + 1) w3 F') := HFS.out w3 hb3 (by rw [HCV.out, hin]; rfl)
            clear HFI HFS HCV x0 x1 x2 x3 y0 y1 u0 u1 u2 u3
            go_wp2_with fail
            go_roundw
            case rel => exact ⟨j + 1, by omega, by go_num, HN⟩
            case measure => simp [intOf]; omega
        · subst k4
          have l2 := HVF.out.2 (Or.inr rfl)
          obtain ⟨f0, f1, rfl⟩ : ∃ f0 f1, fs = [f0, f1] := by
            match fs, l2 with
            | [f0, f1], _ => exact ⟨f0, f1, rfl⟩
          obtain ⟨fb, fo, rfl, lfb, hfc⟩ := HLp.out (by simp)
          obtain ⟨x0, x1⟩ := hfc 0 (by simp)
          obtain ⟨x2, x3⟩ := hfc 1 (by simp)
          have x0 : (wr.setCell ⟨b, j * 4 + 2, none⟩ (.bool true)).cell? ⟨fb, fo, none⟩ = some (.int .i64 f0.1) := by simpa using x0
          have x1 : (wr.setCell ⟨b, j * 4 + 2, none⟩ (.bool true)).cell? ⟨fb, fo + 1, none⟩ = some (.int .i64 f0.2) := by simpa using x1
          have x2 : (wr.setCell ⟨b, j * 4 + 2, none⟩ (.bool true)).cell? ⟨fb, fo + 2, none⟩ = some (.int .i64 f1.1) := by simpa using x2
          have x3 : (wr.setCell ⟨b, j * 4 + 2, none⟩ (.bool true)).cell? ⟨fb, fo + 3, none⟩ = some (.int .i64 f1.2) := by simpa using x3
          have PI := inSet_any (wr.setCell ⟨b, j * 4 + 2, none⟩ (.bool true)) (some ⟨ib, 0, none⟩) ci L f0 HLB.out (fun h3 => by
            obtain ⟨q1, q2⟩ := HVF.out.1 f0 (by simp) h3
            have := q2.1
            exact ⟨q1, by omega⟩) (by omega)
          rw [hll] at PI
          have HCV : Hid (cuT L j (4, [f0, f1], od, dd) = (4, (if inS L f0 = false then [(2, 0), (2, 0)] else [f0, f1]), true, dd)) := by
            show _ = _
            rw [HCU.out]
            simp
          obtain ⟨g0, g1⟩ := f0
          obtain ⟨g2, g3⟩ := f1
          dsimp only at x0 x1 x2 x3 PI HCV
          clear hfc HLp l2 HCU HVF HTL HLB
          go_wp2_with fail
          refine PI.mono ?_
          clear PI
          rintro e w3 ⟨rfl, hb3⟩
          dsimp only
          have v0 := (hb3.cell (p := ⟨b, j * 4, none⟩) lb2).trans y0
          have v1 := (hb3.cell (p := ⟨b, j * 4 + 1, none⟩) lb2).trans y1
          have v2 := (hb3.cell (p := ⟨fb, fo + 2, none⟩) lfb).trans x2
          have v3 := (hb3.cell (p := ⟨fb, fo + 3, none⟩) lfb).trans x3
          have vz : w3.frozen? ⟨b, j * 4 + 1, none⟩ = false := by
            have := zz1
            unfold World.frozen? at this ⊢
            dsimp only at this ⊢
            rw [hb3.block b lb2]
            exact this
          have lb3 : b < w3.heap.size := Nat.lt_of_lt_of_le lb2 hb3.size
          cases hin : inS L (g0, g1)
          · have HN : Hid (∃ F', Far7 rp rb most grow F s w (some ⟨ib, 0, none⟩) ci L (j + 1) ((w3.setCell ⟨b, j * 4 + 1, none⟩ (.slice (some ⟨w3.heap.size, 0, none⟩) 2 2)).alloc (.cells #[.int .i64 2, .int .i64 0, .int .i64 2, .int .i64 0] 54)) F') := by
              have h1 := HFI.out (w3 := w3.alloc (.cells #[.int .i64 2, .int .i64 0, .int .i64 2, .int .i64 0] 54)) (some ⟨w3.heap.size, 0, none⟩) 2 [(2, 0), (2, 0)] (hb3.alloc hb3.size _) (pair_cells _ _ _ _) (fun b' o' _ e => by cases e; exact hb3.size) (by rw [HCV.out, hin]; rfl)
              have h2 : ([(2, 0), (2, 0)] : List (Int × Int)).length = 2 := rfl
              rw [h2, World.setCell_alloc_past _ _ _ _ lb3] at h1
              exact h1
            clear HFI HFS HCV x0 x1 x2 x3 y0 y1 u0 u1 u2 u3
            go_wp2_with fail
            go_roundw
            case rel => exact ⟨j + 1, by omega, by go_num, HN⟩
            case measure => simp [intOf]; omega
          · have HN : Hid (∃ F', Far7 rp rb most grow F s w (some ⟨ib, 0, none⟩) ci L (j + 1) w3 F') := HFS.out w3 hb3 (by rw [HCV.out, hin]; rfl)
            clear HFI HFS HCV x0 x1 x2 x3 y0 y1 u0 u1 u2 u3
            go_wp2_with fail
            go_roundw
            case rel => exact ⟨j + 1, by omega, by go_num, HN⟩
            case measure => simp [intOf]; omega
        · have n3 : (kd == 3) = false := by simpa using kn.1
          have n4 : (kd == 4) = false := by simpa using kn.2
          have HN : Hid (∃ F', Far7 rp rb most grow F s w (some ⟨ib, 0, none⟩) ci L (j + 1) (wr.setCell ⟨b, j * 4 + 2, none⟩ (.bool true)) F') := HFS.out _ (Below.refl _ _) (by rw [HCU.out, if_neg (fun q => kn.2 q.1), if_neg (fun q => kn.1 q.1)])
          clear HFI HFS HCU HLp HLB HVF HTL kn
          go_wp2_with fail
          go_roundw
          case rel => exact ⟨j + 1, by omega, by go_num, HN⟩
          case measure => simp [intOf]; omega
    · obtain rfl : j = s.T.length := by omega
      have HN : Hid (∃ F', Far7 rp rb most grow F s w ai ci L s.T.length wr F') := HF
      clear tx tne hF1 HF
      go_wp2_with fail
      obtain ⟨F2, hF2⟩ := HN.out
      refine HQ.out _ _ F2 ?_ ?_ hF2.J hF2.tn
      · rfl
      · rfl
end

end Go.Proofs.YtogknhogphkddaaGreat.Cut7
