/- Joined: Gr10, Rnn. -/
import Derived.Test.YtogknhogphkddaaGreatGr9
import Derived.Test.YtogknhogphkddaaGreatJ02
/- The document's world: Cut: what stands beside: a contract of its end. -/
namespace Go.Proofs.YtogknhogphkddaaGreat.Cut7
open Go.RowKit W Kp Stl

theorem filt_next {α : Type} (p : α → Bool) (l : List α) (i : Nat) (h : i < l.length) (d : α) : (l.take (i + 1)).filter p = (l.take i).filter p ++ if p (l.getD i d) = true then [l.getD i d] else [] := by
  rw [take_snoc l i h d, List.filter_append]
  congr 1
  cases c : p (l.getD i d)
  · rw [List.filter_cons_of_neg (by rw [c]; simp)]
    simp
  · rw [List.filter_cons_of_pos c]
    simp
theorem getD_mapG {α β : Type} (f : α → β) (l : List α) (i : Nat) (d : α) (e : β) (h : i < l.length) : (l.map f).getD i e = f (l.getD i d) := by
  rw [List.getD_eq_getElem?_getD, List.getElem?_map, List.getD_eq_getElem?_getD, List.getElem?_eq_getElem h]
  rfl
theorem one_src {w : World} (eg het : Int) : ∀ a, (some ⟨w.heap.size, 0, none⟩ : Option Addr) = some a → ∀ k u, (ev [(eg, het)])[k]? = some u → (w.alloc (.cells #[.int .i64 eg, .int .i64 het] 71)).cell? (a.add k) = some u := fun a e k u hk => by
  have hsr := heap_alloc_new w (.cells #[.int .i64 eg, .int .i64 het] 71)
  cases e
  have hlk : k < 2 := by
    have := (List.getElem?_eq_some_iff.1 hk).1
    simpa [ev] using this
  rcases (show k = 0 ∨ k = 1 by omega) with rfl | rfl
  · simp [ev] at hk
    subst hk
    show World.cell? _ ⟨w.heap.size, 0, none⟩ = _
    unfold World.cell?
    rw [hsr]
    rfl
  · simp [ev] at hk
    subst hk
    show World.cell? _ ⟨w.heap.size, 1, none⟩ = _
    unfold World.cell?
    rw [hsr]
    rfl
theorem row_more {wr wq w10 : World} {ra ra' : Option Addr} {rc rc' : Nat} {R : List En} {e : En} (hb : Below wr.heap.size wr wq) (rx : wq.ownsRow wr.heap.size 71 2 (.slice ra R.length rc) R.length (ev R)) (fr : Fr (fun k => some k = (Value.slice ra R.length rc).ownBlock) wq w10) (ho : w10.ownsRow wr.heap.size 71 2 (.slice ra' (R.length + 1) rc') (R.length + 1) (ev R ++ ev [e])) :
    w10.ownsRow wr.heap.size 71 2 (.slice ra' (R ++ [e]).length rc') (R ++ [e]).length (ev (R ++ [e])) ∧ Below wr.heap.size wr w10 := by
  have h1 : (R ++ [e]).length = R.length + 1 := by simp
  have h2 : ev (R ++ [e]) = ev R ++ ev [e] := by simp [ev]
  rw [h1, h2]
  exact ⟨ho, hb.trans (fr.below hb.size (fun k e => (row_lt rx k e).1))⟩

section
variable {rp rb : Nat} {most grow : Int} {F : Nat → Prop} {s : Wrs} {w : World}

set_option maxRecDepth 100000 in
set_option maxHeartbeats 8000000 in
theorem tail5_wp {s1 s2 s3 s4 s5 s6 s9 s10 s12 s13 s14 s15 s16 s17 s18 s19 s20 s21 s22 s23 s24 s25 s26 s27 s28 s29 s30 s31 s32 s33 s34 s35 s36 s37 s38 s39 s40 s41 s42 s43 s44 s45 s46 s47 s48 s49 s50 s51 s52 s53 s54 s55 s56 s57 s58 s59 s60 s61 s62 s63 s64 s65 s66 s67 s68 s69 s70 s71 s72 s73 s74 s75 s76 s77 s78 s79 s80 s81 s82 s83 s84 s85 s86 s87 s88 s89 s90 s91 s92 s93 s94 s95 s96 s97 s98 s99 s100 s101 s102 s103 s104 s105 s106 s107 s108 s109 s110 s111 s112 s113 s114 s115 s116 s117 s118 s119 s120 s121 s122 s123 s124 s125 s126 s127 s128 s129 s130 s131 s132 s133 s134 s135 s136 s137 s138 s139 s140 s141 s142 s143 s144 s145 s146 s147 s148 s149 s150 s151 s152 s153 s154 s155 s156 s157 s158 s159 s160 s161 s162 s163 s164 s165 s166 s167 s168 s169 s170 s171 s172 s173 s174 s175 s176 s177 s178 s179 s180 s181 s182 s183 s184 s185 s186 s187 s188 s189 s190 s191 s192 s193 s194 s195 s196 s197 s198 s199 s200 s201 s202 s203 s204 s205 s206 s207 s208 s209 s210 s211 s212 s213 s214 s215 s216 s217 s218 s219 s220 s221 s222 s223 s224 s225 s226 s227 s228 s229 s230 s231 s232 s233 s234 s235 s236 s237 s238 s239 s240 s241 s242 s243 s244 s245 s246 s247 s248 s249 s250 s251 s252 s253 s254 s255 s256 s257 s258 s259 s260 s261 s262 s263 s264 s265 s266 s267 s268 s269 s270 s271 s272 s273 s274 s275 s276 s277 s278 s279 s280 s281 s282 s283 s284 s285 s286 s287 s288 s289 s290 s291 s292 s293 s294 s295 s296 s297 s298 s299 s300 s301 s302 s303 s304 s305 s306 s307 s308 s309 s310 s311 s312 s313 s314 s315 s316 s317 s318 : Value} {Q : Exit → Act → World → Prop} {ai : Option Addr} {ci db mb xb : Nat} {v0 v1 v2 : Value} {B L M D : List Bool} {C : List En} {wz : World} (h : (wrO rp rb most grow).J F s w) (hv : Wcv s) (hk : Rk w s db mb xb v0 v1 v2 most grow D wz ai ci L M C) (hD : D = s.rg.map (fun e => !isd B e.2)) (hL : Sok_ s.T L) (hC : ∀ e ∈ C, e ∈ s.rg) (hCl : C.length ≤ 1000)
    (hQ : ∀ (a : Act) (w' : World) (F' : Nat → Prop), a.tmps.getD 4 undef = .int .i64 0 → a.defers = [] → (wrO rp rb most grow).J F' ⟨cuL L s.T s.T.length, s.rs, s.rg.filter (fun e => isd B e.2 && isd L e.1), (s.wt ++ C).filter (fun e => isd L e.1)⟩ w' → Tn F w F' w' → Q .ret a w') :
    Code.wp Tryz.prog ((find 33 (Tryz.f29.body.getD .skip)).getD .skip) Q ⟨#[.pointer (some ⟨rp, 0, none⟩), s1, s2, s3, s4, s5, s6, .slice ai s.T.length ci, .slice (some ⟨db, 0, none⟩) s.rg.length s.rg.length, s9, s10, .pointer (some ⟨xb, 0, none⟩), s12, s13, s14, s15, s16, s17, s18, s19, s20, s21, s22, s23, s24, s25, s26, s27, s28, s29, s30, s31, s32, s33, s34, s35, s36, s37, s38, s39, s40, s41, s42, s43, s44, s45, s46, s47, s48, s49, s50, s51, s52, s53, s54, s55, s56, s57, s58, s59, s60, s61, s62, s63, s64, s65, s66, s67, s68, s69, s70, s71, s72, s73, s74, s75, s76, s77, s78, s79, s80, s81, s82, s83, s84, s85, s86, s87, s88, s89, s90, s91, s92, s93, s94, s95, s96, s97, s98, s99, s100, s101, s102, s103, s104, s105, s106, s107, s108, s109, s110, s111, s112, s113, s114, s115, s116, s117, s118, s119, s120, s121, s122, s123, s124, s125, s126, s127, s128, s129, s130, s131, s132, s133, s134, s135, s136, s137, s138, s139, s140, s141, s142, s143, s144, s145, s146, s147, s148, s149, s150, s151, s152, s153, s154, s155, s156, s157, s158, s159, s160, s161, s162, s163, s164, s165, s166, s167, s168, s169, s170, s171, s172, s173, s174, s175, s176, s177, s178, s179, s180, s181, s182, s183, s184, s185, s186, s187, s188, s189, s190, s191, s192, s193, s194, s195, s196, s197, s198, s199, s200, s201, s202, s203, s204, s205, s206, s207, s208, s209, s210, s211, s212, s213, s214, s215, s216, s217, s218, s219, s220, s221, s222, s223, s224, s225, s226, s227, s228, s229, s230, s231, s232, s233, s234, s235, s236, s237, s238, s239, s240, s241, s242, s243, s244, s245, s246, s247, s248, s249, s250, s251, s252, s253, s254, s255, s256, s257, s258, s259, s260, s261, s262, s263, s264, s265, s266, s267, s268, s269, s270, s271, s272, s273, s274, s275, s276, s277, s278, s279, s280, s281, s282, s283, s284, s285, s286, s287, s288, s289, s290, s291, s292, s293, s294, s295, s296, s297, s298, s299, s300, s301, s302, s303, s304, s305, s306, s307, s308, s309, s310, s311, s312, s313, s314, s315, s316, s317, s318], []⟩ wz := by
  conv => arg 2; whnf
  have HQ : Hid (∀ (a : Act) (w' : World) (F' : Nat → Prop), a.tmps.getD 4 undef = .int .i64 0 → a.defers = [] → (wrO rp rb most grow).J F' ⟨cuL L s.T s.T.length, s.rs, s.rg.filter (fun e => isd B e.2 && isd L e.1), (s.wt ++ C).filter (fun e => isd L e.1)⟩ w' → Tn F w F' w' → Q .ret a w') := hQ
  have HJ : Hid ((wrO rp rb most grow).J F s w) := h
  have HV : Hid (Wcv s) := hv
  have HK : Hid (Rk w s db mb xb v0 v1 v2 most grow D wz ai ci L M C) := hk
  have HD : Hid (D = s.rg.map (fun e => !isd B e.2)) := hD
  have HL : Hid (Sok_ s.T L) := hL
  have HC : Hid (∀ e ∈ C, e ∈ s.rg) := hC
  have htl := hv.tl
  have hgl := hv.gl
  have hwl := hv.wl
  have HRG : Hid (∀ w', Below w.heap.size w w' → ∃ v2 v3, w'.cell? ⟨rp, 2, none⟩ = some v2 ∧ w'.cell? ⟨rp, 3, none⟩ = some v3 ∧ w'.ownsRow 0 71 2 v2 s.rg.length (ev s.rg) ∧ w'.ownsRow 0 71 2 v3 s.wt.length (ev s.wt)) := fun w' hb => by
    obtain ⟨v2, v3, q1, q2, q3, q4, _⟩ := wr_regs ((wrO rp rb most grow).below h hb)
    exact ⟨v2, v3, q1, q2, q3, q4⟩
  obtain ⟨ie, hie, hze0, hze1, hze2⟩ := info_parts infoEr
  clear hQ h hv hk hD hL hC
  go_wp2_with fail
  go_loopw [17, 19] (fun rv iv wr' => ∃ (i : Nat) (ra : Option Addr) (rc : Nat) (R : List En), i ≤ s.rg.length ∧ rv = .slice ra R.length rc ∧ iv = .int .i64 i ∧ Hid (R = (s.rg.take i).filter (fun e => isd B e.2 && isd L e.1)) ∧ Hid (wr'.ownsRow wz.heap.size 71 2 (.slice ra R.length rc) R.length (ev R) ∧ Below wz.heap.size wz wr')) (fun _ iv _ => s.rg.length - (intOf iv).toNat)
  case atStart => exact ⟨0, none, 0, [], Nat.zero_le _, rfl, rfl, rfl, ⟨World.ownsRow_nil _ _ _ _, Below.refl _ _⟩⟩
  case round =>
    obtain ⟨i, ra, rc, R, hi, rfl, rfl, HR, HBW⟩ := hrel
    have hKb := HK.out.below HBW.out.2
    obtain ⟨v2', v3', d2, _, r2, _⟩ := HRG.out wr hKb.bl
    obtain ⟨a9, c9, e9⟩ := row_slice r2
    subst e9
    by_cases hlt : i < s.rg.length
    · obtain ⟨fb9, fo9, rfl, lfb, hfc⟩ := row_pairs r2 (by omega)
      obtain ⟨y0, y1⟩ := hfc i hlt
      have hmem : s.rg.getD i (0, 0) ∈ s.rg := getD_in hlt
      obtain ⟨⟨g0, g1⟩, n0, n1⟩ := HV.out.gv _ hmem
      obtain ⟨eg, het, hEE⟩ : ∃ eg et : Nat, s.rg.getD i (0, 0) = ((eg : Int), (et : Int)) := ⟨(s.rg.getD i (0, 0)).1.toNat, (s.rg.getD i (0, 0)).2.toNat, by rw [show (((s.rg.getD i (0, 0)).1.toNat : Nat) : Int) = (s.rg.getD i (0, 0)).1 by omega, show (((s.rg.getD i (0, 0)).2.toNat : Nat) : Int) = (s.rg.getD i (0, 0)).2 by omega]⟩
      have HFN := filt_next (fun e : En => isd B e.2 && isd L e.1) s.rg i hlt (0, 0)
      have hDi : D.getD i false = !isd B (s.rg.getD i (0, 0)).2 := by
        rw [HD.out]
        exact getD_mapG (fun e : En => !isd B e.2) s.rg i (0, 0) false hlt
      rw [hEE] at y0 y1 g1 n1 HFN hDi
      dsimp only at y0 y1 g1 n1 HFN hDi
      have g1 : eg < s.T.length := by simpa using g1.1
      have hl' := HL.out.len
      obtain ⟨ib, ic, e8⟩ := row_shape hKb.ri (by omega)
      obtain ⟨rfl, rfl⟩ : ai = some ⟨ib, 0, none⟩ ∧ ci = ic := by simpa using e8
      have hde := (row_cell hKb.rd (bool_at (L := D) (i := i) (by rw [HD.out, List.length_map]; exact hlt))).1
      have hig := (row_cell hKb.ri (bool_at (L := L) (i := eg) (by omega))).1
      have q0 : (0 : Int) ≤ (i : Int) := by omega
      have q1 : (i : Int) < (s.rg.length : Int) := by omega
      have q2 : (0 : Int) ≤ (eg : Int) := by omega
      have q3 : (eg : Int) < (s.T.length : Int) := by omega
      have eL : isd L (eg : Int) = L.getD eg false := rfl
      rw [eL] at HFN
      have HFN : Hid ((s.rg.take (i + 1)).filter (fun e => isd B e.2 && isd L e.1) = R ++ if (isd B (het : Int) && L.getD eg false) = true then [((eg : Int), (het : Int))] else []) := by show _ = _; rw [HFN, HR.out]
      clear hfc e8 r2 hKb g0 n0 n1 hmem eL
      cases hd : D.getD i false
      · rw [hd] at hde
        have hB : isd B (het : Int) = true := by
          rw [hd] at hDi
          simpa using hDi.symm
        cases hg : L.getD eg false
        · rw [hg] at hig
          have HN : Hid (R = (s.rg.take (i + 1)).filter (fun e => isd B e.2 && isd L e.1)) := by show _ = _; rw [HFN.out, hB, hg]; simp
          clear HFN HR hDi hd hB hg hEE
          as_aux_lemma =>
          go_wp2_with fail
          go_roundw
          case rel => exact ⟨i + 1, ra, rc, R, by omega, rfl, by go_num, HN, HBW⟩
          case measure => simp [intOf]; omega
        · rw [hg] at hig
          have HN : Hid (R ++ [((eg : Int), (het : Int))] = (s.rg.take (i + 1)).filter (fun e => isd B e.2 && isd L e.1)) := by show _ = _; rw [HFN.out, hB, hg]; simp
          have HSC : Hid (∀ a, (some ⟨wr.heap.size, 0, none⟩ : Option Addr) = some a → ∀ k u, (ev [((eg : Int), (het : Int))])[k]? = some u → (wr.alloc (.cells #[.int .i64 (eg : Int), .int .i64 (het : Int)] 71)).cell? (a.add k) = some u) := one_src _ _
          have HBS : Hid (Below wr.heap.size wr (wr.alloc (.cells #[.int .i64 (eg : Int), .int .i64 (het : Int)] 71))) := (Below.refl wr.heap.size wr).alloc (Nat.le_refl _) _
          have rx2 := row_keep HBW.out.1 (fun k e => HBS.out.block k (row_lt HBW.out.1 k e).2)
          have hRl : R.length ≤ 1000 := by
            rw [HR.out]
            have h1 := List.length_filter_le (fun e : En => isd B e.2 && isd L e.1) (s.rg.take i)
            rw [List.length_take] at h1
            omega
          clear HFN HR hDi hd hB hg hEE
          as_aux_lemma =>
          go_upto_region 36 with (at_builtin; refine wpList_append_src _ rfl _ _ 58 rfl wz.heap.size 71 ie (.agg #[.int .i64 0, .int .i64 0]) 2 16 Tryz.underlying58 hie hze0 hze1 hze2 rfl (by decide) (.slice ra R.length rc) R.length (ev R) rfl rx2 (some ⟨wr.heap.size, 0, none⟩) 1 1 (ev [((eg : Int), (het : Int))]) rfl rfl (fun e => by cases e) HSC.out (ev_one _) (by unfold maxLen; omega) (by omega) (by have := HBW.out.2.size; simp; omega) ?_; intro ra' rc' w10 hown10 hgrow10 _; have HB10 : Hid (w10.ownsRow wz.heap.size 71 2 (.slice ra' (R ++ [((eg : Int), (het : Int))]).length rc') (R ++ [((eg : Int), (het : Int))]).length (ev (R ++ [((eg : Int), (het : Int))])) ∧ Below wz.heap.size wz w10) := (row_more HBW.out.2 HBW.out.1 ((Fr.of HBS.out).grown hgrow10 (fun k e => Or.inl (by simpa using e.symm))) hown10))
          clear hown10 hgrow10 rx2
          go_wp2_with fail
          go_roundw
          case rel => exact ⟨i + 1, ra', rc', R ++ [((eg : Int), (het : Int))], by omega, by simp, by go_num, HN, HB10⟩
          case measure => simp [intOf]; omega
      · rw [hd] at hde
        have hB : isd B (het : Int) = false := by
          rw [hd] at hDi
          simpa using hDi.symm
        have HN : Hid (R = (s.rg.take (i + 1)).filter (fun e => isd B e.2 && isd L e.1)) := by show _ = _; rw [HFN.out, hB]; simp
        clear HFN HR hDi hd hB hEE hig
        as_aux_lemma =>
        go_wp2_with fail
        go_roundw
        case rel => exact ⟨i + 1, ra, rc, R, by omega, rfl, by go_num, HN, HBW⟩
        case measure => simp [intOf]; omega
    · obtain rfl : i = s.rg.length := by omega
      have HRF : Hid (R = s.rg.filter (fun e => isd B e.2 && isd L e.1)) := by
        have h1 := HR.out
        rw [List.take_length] at h1
        exact h1
      have HK5 : Hid (Rk w s db mb xb v0 v1 v2 most grow D wr ai ci L M C) := hKb
      have HB5 : Hid (wr.ownsRow w.heap.size 71 2 (.slice ra R.length rc) R.length (ev R) ∧ (∀ k, some k = (Value.slice ra R.length rc).ownBlock → k < wr.heap.size ∧ wz.heap.size ≤ k)) := ⟨row_base HBW.out.1 (fun k e => Nat.le_trans HK.out.bl.size (row_lt HBW.out.1 k e).1), fun k e => ⟨(row_lt HBW.out.1 k e).2, (row_lt HBW.out.1 k e).1⟩⟩
      have HIB : Hid (∀ k, some k = (Value.slice ai s.T.length ci).ownBlock → k < wz.heap.size ∧ w.heap.size ≤ k) := fun k e => ⟨(row_lt HK.out.ri k e).2, (row_lt HK.out.ri k e).1⟩
      clear hKb HR HBW HK r2
      go_wp2_with fail
      generalize hwe : wr = w5 at *
      clear hwe
      obtain ⟨X, hX⟩ : ∃ X, Hid (s.wt ++ C = X) := ⟨_, rfl⟩
      go_loopw [18, 20] (fun rv iv wr' => ∃ (i : Nat) (qa : Option Addr) (qc : Nat) (P : List En), i ≤ X.length ∧ rv = .slice qa P.length qc ∧ iv = .int .i64 i ∧ Hid (P = (X.take i).filter (fun e => isd L e.1)) ∧ Hid (wr'.ownsRow w5.heap.size 71 2 (.slice qa P.length qc) P.length (ev P) ∧ Below w5.heap.size w5 wr')) (fun _ iv _ => X.length - (intOf iv).toNat)
      case atStart => exact ⟨0, none, 0, [], Nat.zero_le _, rfl, rfl, rfl, ⟨World.ownsRow_nil _ _ _ _, Below.refl _ _⟩⟩
      case round =>
        obtain ⟨i, qa, qc, P, hi, rfl, rfl, HR, HBW⟩ := hrel
        have hKb := HK5.out.below HBW.out.2
        obtain ⟨ax, cx, hx, rx⟩ := hKb.xx
        rw [hX.out] at hx rx
        have x3 : wr.cell? ⟨xb, 3, none⟩ = some (.slice ax X.length cx) := by simp [World.cell?, hx]
        have hWl : X.length ≤ 2000 := by rw [← hX.out, List.length_append]; omega
        by_cases hlt : i < X.length
        · obtain ⟨fb9, fo9, rfl, lfb, hfc⟩ := row_pairs rx (by omega)
          obtain ⟨y0, y1⟩ := hfc i hlt
          have hmem : X.getD i (0, 0) ∈ s.wt ++ C := by rw [hX.out]; exact getD_in hlt
          obtain ⟨⟨g0, g1⟩, n0⟩ : (0 ≤ (X.getD i (0, 0)).1 ∧ Alv s.T (X.getD i (0, 0)).1.toNat) ∧ 0 ≤ (X.getD i (0, 0)).2 := by
            rcases List.mem_append.1 hmem with d | d
            · exact ⟨HV.out.wg _ d, (HV.out.iv.wv _ d).1⟩
            · have := HV.out.gv _ (HC.out _ d)
              exact ⟨this.1, this.2.1⟩
          obtain ⟨eg, het, hEE⟩ : ∃ eg et : Nat, X.getD i (0, 0) = ((eg : Int), (et : Int)) := ⟨(X.getD i (0, 0)).1.toNat, (X.getD i (0, 0)).2.toNat, by rw [show (((X.getD i (0, 0)).1.toNat : Nat) : Int) = (X.getD i (0, 0)).1 by omega, show (((X.getD i (0, 0)).2.toNat : Nat) : Int) = (X.getD i (0, 0)).2 by omega]⟩
          have HFN := filt_next (fun e : En => isd L e.1) X i hlt (0, 0)
          rw [hEE] at y0 y1 g1 HFN
          dsimp only at y0 y1 g1 HFN
          have g1 : eg < s.T.length := by simpa using g1.1
          have hl' := HL.out.len
          obtain ⟨ib, ic, e8⟩ := row_shape hKb.ri (by omega)
          obtain ⟨rfl, rfl⟩ : ai = some ⟨ib, 0, none⟩ ∧ ci = ic := by simpa using e8
          have hig := (row_cell hKb.ri (bool_at (L := L) (i := eg) (by omega))).1
          have q0 : (0 : Int) ≤ (i : Int) := by omega
          have q1 : (i : Int) < (X.length : Int) := by omega
          have q2 : (0 : Int) ≤ (eg : Int) := by omega
          have q3 : (eg : Int) < (s.T.length : Int) := by omega
          have eL : isd L (eg : Int) = L.getD eg false := rfl
          rw [eL] at HFN
          have HFN : Hid ((X.take (i + 1)).filter (fun e => isd L e.1) = P ++ if (L.getD eg false) = true then [((eg : Int), (het : Int))] else []) := by show _ = _; rw [HFN, HR.out]
          have lxb := lt_of_some hx
          clear hfc e8 rx hKb g0 n0 hmem eL hx hEE
          cases hg : L.getD eg false
          · rw [hg] at hig
            have HN : Hid (P = (X.take (i + 1)).filter (fun e => isd L e.1)) := by show _ = _; rw [HFN.out, hg]; simp
            clear HFN HR hg
            as_aux_lemma =>
            go_wp2_with fail
            go_roundw
            case rel => exact ⟨i + 1, qa, qc, P, by omega, rfl, by go_num, HN, HBW⟩
            case measure => simp [intOf]; omega
          · rw [hg] at hig
            have HN : Hid (P ++ [((eg : Int), (het : Int))] = (X.take (i + 1)).filter (fun e => isd L e.1)) := by show _ = _; rw [HFN.out, hg]; simp
            have HSC : Hid (∀ a, (some ⟨wr.heap.size, 0, none⟩ : Option Addr) = some a → ∀ k u, (ev [((eg : Int), (het : Int))])[k]? = some u → (wr.alloc (.cells #[.int .i64 (eg : Int), .int .i64 (het : Int)] 71)).cell? (a.add k) = some u) := one_src _ _
            have HBS : Hid (Below wr.heap.size wr (wr.alloc (.cells #[.int .i64 (eg : Int), .int .i64 (het : Int)] 71))) := (Below.refl wr.heap.size wr).alloc (Nat.le_refl _) _
            have rx2 := row_keep HBW.out.1 (fun k e => HBS.out.block k (row_lt HBW.out.1 k e).2)
            have hRl : P.length ≤ 2000 := by
              rw [HR.out]
              have h1 := List.length_filter_le (fun e : En => isd L e.1) (X.take i)
              rw [List.length_take] at h1
              omega
            clear HFN HR hg
            as_aux_lemma =>
            go_upto_region 41 with (at_builtin; refine wpList_append_src _ rfl _ _ 58 rfl w5.heap.size 71 ie (.agg #[.int .i64 0, .int .i64 0]) 2 16 Tryz.underlying58 hie hze0 hze1 hze2 rfl (by decide) (.slice qa P.length qc) P.length (ev P) rfl rx2 (some ⟨wr.heap.size, 0, none⟩) 1 1 (ev [((eg : Int), (het : Int))]) rfl rfl (fun e => by cases e) HSC.out (ev_one _) (by unfold maxLen; omega) (by omega) (by have := HBW.out.2.size; simp; omega) ?_; intro ra' rc' w10 hown10 hgrow10 _; have HB10 : Hid (w10.ownsRow w5.heap.size 71 2 (.slice ra' (P ++ [((eg : Int), (het : Int))]).length rc') (P ++ [((eg : Int), (het : Int))]).length (ev (P ++ [((eg : Int), (het : Int))])) ∧ Below w5.heap.size w5 w10) := (row_more HBW.out.2 HBW.out.1 ((Fr.of HBS.out).grown hgrow10 (fun k e => Or.inl (by simpa using e.symm))) hown10))
            clear hown10 hgrow10 rx2
            go_wp2_with fail
            go_roundw
            case rel => exact ⟨i + 1, ra', rc', P ++ [((eg : Int), (het : Int))], by omega, by simp, by go_num, HN, HB10⟩
            case measure => simp [intOf]; omega
        · obtain rfl : i = X.length := by omega
          have HPF : Hid (P = (s.wt ++ C).filter (fun e => isd L e.1)) := by
            have h1 := HR.out
            rw [List.take_length] at h1
            rw [hX.out]
            exact h1
          have hB6 : Below w.heap.size w wr := hKb.bl
          obtain ⟨F', hJ6, hT6, hF6⟩ := wr_beside HJ.out R P (.slice ra R.length rc) (.slice qa P.length qc) wr hB6 (row_keep HB5.out.1 (fun k e => HBW.out.2.block k (HB5.out.2 k e).1)) (row_base HBW.out.1 (fun k e => Nat.le_trans HK5.out.bl.size (row_lt HBW.out.1 k e).1)) (fun k e e' => by
            have h1 := (HB5.out.2 k e).1
            have h2 := (row_lt HBW.out.1 k e').1
            omega)
          obtain ⟨v2', v3', d2, d3, _, _⟩ := HRG.out wr hB6
          have fz : ∀ o, wr.frozen? ⟨rp, o, none⟩ = false := (wr_cells ((wrO rp rb most grow).below HJ.out hB6)).2.2.2.2.2.1
          have z2 := fz 2
          have z3 := fz 3
          have HRI : Hid (((wr.setCell ⟨rp, 2, none⟩ (.slice ra R.length rc)).setCell ⟨rp, 3, none⟩ (.slice qa P.length qc)).ownsRow 0 4 1 (.slice ai s.T.length ci) s.T.length (L.map Value.bool)) := row_base (row_keep hKb.ri (fun k e => (Below.heap_setCell _ _ _ _ (show k ≠ rp from fun e' => by
            have h1 := (HIB.out k e).2
            have h2 : rp < w.heap.size := World.block_lt_of_cell? w _ (wr_cells HJ.out).1
            omega)).trans (Below.heap_setCell _ _ _ _ (show k ≠ rp from fun e' => by
            have h1 := (HIB.out k e).2
            have h2 : rp < w.heap.size := World.block_lt_of_cell? w _ (wr_cells HJ.out).1
            omega)))) (fun _ _ => Nat.zero_le _)
          have HNO : Hid (∀ k, some k = (Value.slice ai s.T.length ci).ownBlock → ¬ F' k) := fun k e d => by
            obtain ⟨h1, h2⟩ := HIB.out k e
            rcases hF6 k d with d | d | d
            · have := (wrO rp rb most grow).lt HJ.out k d
              omega
            · have := (HB5.out.2 k d).2
              omega
            · have h3 := (row_lt HBW.out.1 k d).1
              have h4 := row_lt HK5.out.ri k e
              omega
          have HJ6 : Hid ((wrO rp rb most grow).J F' { s with rg := R, wt := P } ((wr.setCell ⟨rp, 2, none⟩ (.slice ra R.length rc)).setCell ⟨rp, 3, none⟩ (.slice qa P.length qc)) ∧ Tn F w F' ((wr.setCell ⟨rp, 2, none⟩ (.slice ra R.length rc)).setCell ⟨rp, 3, none⟩ (.slice qa P.length qc))) := ⟨hJ6, hT6⟩
          clear hJ6 hT6 hF6 hKb hx rx HBW HK5 fz HR
          iterate 28 go_step
          refine tail7_wp (s := { s with rg := R, wt := P }) d2 d3 z2 z3 rfl HJ6.out.1 HRI.out HNO.out ⟨HV.out.iv.fl, HV.out.iv.fv, fun e he => ?_, HV.out.iv.tl⟩ HL.out htl ?_
          · have he : e ∈ P := he
            rw [HPF.out] at he
            rcases List.mem_append.1 (List.mem_filter.1 he).1 with d | d
            · exact HV.out.iv.wv e d
            · exact (HV.out.gv e (HC.out e d)).2
          · intro a' w' F2 ha hd hJ2 hT2
            refine HQ.out a' w' F2 ha hd ?_ (HJ6.out.2.trans hT2)
            rw [← HRF.out, ← HPF.out]
            exact hJ2
end

end Go.Proofs.YtogknhogphkddaaGreat.Cut7

/- A row without an address is empty. -/
namespace Go.Proofs.YtogknhogphkddaaGreat
open Go.RowKit W Kp Stl

theorem row_none {w : World} {base n m : Nat} {e : TypeId} {ad : Option Addr} {cap : Nat} {xs : List Value} (h : w.ownsRow base e m (.slice ad n cap) n xs) : ad = none → n = 0 ∧ cap = 0 := fun e0 => by
  subst e0
  rcases h.2 with ⟨hv, hn⟩ | ⟨g, c, cur, hv, _⟩
  · simp at hv
    exact ⟨hn, hv.2⟩
  · simp at hv

end Go.Proofs.YtogknhogphkddaaGreat
