/- The document's world: View: what waits at a guardian is shown: a contract of its function's end. -/
import Derived.Test.YtogknhogphkddaaGreatJ34
import Derived.Test.YtogknhogphkddaaGreatJ12
namespace Go.Proofs.YtogknhogphkddaaGreat.Vr4
open Go.RowKit W Kp Stl

def Vals (w0 : World) (mb bb vb fb : Nat) (T : List Tw1) (M : Vst → Int → Vst) (n : Nat) : Prop :=
  ∀ (w : World) (s : Vst) (va vn vr : Value) (m : List Vnd) (v : Int × Int), Wv w0 w mb bb vb fb s va vn vr m → VOk (tI T.length) s → Vq T v → T.length ≤ s.1.length + n →
    Calls Tryz.prog 34 (valA v.1 v.2 mb bb vb fb) w fun e w' => ∃ va' vn' m', e = .returned (.agg #[.int .i64 (vst M (tI T.length) s (wI v)).1.1, .int .i64 (vst M (tI T.length) s (wI v)).1.2]) ∧ Wv w0 w' mb bb vb fb (vst M (tI T.length) s (wI v)).2 va' vn' vr m' ∧ Kx w0 w m w' m'
structure Own (w3 : World) (xb rb tb : Nat) (x kd : Int) (ft : Value) (o d : Bool) : Prop where
  x : w3.heap[xb]? = some (.cells #[.int .i64 3, .int .i64 x] 54 (0, 0))
  r : w3.heap[rb]? = some (.cells #[.int .i64 0, .int .i64 0] 54 (0, 0))
  t : w3.heap[tb]? = some (.cells #[.int .i64 kd, ft, .bool o, .bool d] 73 (0, 0))
theorem Own.kx {w0 w3 wr : World} {m1 m' : List Vnd} {xb rb tb : Nat} {x kd : Int} {ft : Value} {o d : Bool} (h : Own w3 xb rb tb x kd ft o d) (k : Kx w0 w3 m1 wr m') : Own wr xb rb tb x kd ft o d :=
  ⟨(k.1.oth _ _ _ _ h.x (by unfold Tyw; decide)).trans h.x, (k.1.oth _ _ _ _ h.r (by unfold Tyw; decide)).trans h.r, (k.1.oth _ _ _ _ h.t (by unfold Tyw; decide)).trans h.t⟩
theorem val_src {w : World} (a b : Int) : ∀ ad, (some ⟨w.heap.size, 0, none⟩ : Option Addr) = some ad → ∀ k u, (ev [(a, b)])[k]? = some u → (w.alloc (.cells #[.int .i64 a, .int .i64 b] 54)).cell? (ad.add k) = some u := fun ad e k u hk => by
  have hsr := heap_alloc_new w (.cells #[.int .i64 a, .int .i64 b] 54)
  cases e
  have hlk : k < 2 := by
    have := (List.getElem?_eq_some_iff.1 hk).1
    simpa [ev] using this
  rcases (show k = 0 ∨ k = 1 by omega) with rfl | rfl
  · simp [ev] at hk
    subst hk
    show World.cell? _ ⟨w.heap.size, 0, none⟩ = _
    unfold World.cell?
    rw [hsr]
    rfl
  · simp [ev] at hk
    subst hk
    show World.cell? _ ⟨w.heap.size, 1, none⟩ = _
    unfold World.cell?
    rw [hsr]
    rfl

section
variable {w0 w3 wb : World} {mb bb vb fb : Nat} {vr : Value}

set_option maxRecDepth 100000 in
set_option maxHeartbeats 8000000 in
theorem tailB_wp {s0 s1 s7 s11 s12 s13 s14 s15 s16 s17 s18 s19 s20 s21 s22 s23 s24 s25 s26 s27 s28 s29 s30 s31 s32 s33 s34 s35 s36 s37 s38 s39 s40 s41 s42 s43 s44 s45 s46 s47 s48 s49 s50 s51 s52 s53 s54 s55 s56 s57 s58 s59 s60 s61 s62 s63 s64 s65 s66 s67 s68 s69 s70 s71 s72 s73 s74 s75 s76 s77 s78 s79 s80 s81 s82 s83 s84 s85 s86 s87 s88 s89 s90 s91 s92 s93 s94 s95 s96 s97 s98 s99 s100 s101 s102 s103 s104 s105 s106 s107 s108 s109 s110 s111 s112 s113 s114 s115 s116 s117 s118 s119 s120 s121 s122 : Value} {Q : Exit → Act → World → Prop} {wz : World} {mB m1 mz : List Vnd} {P : List (Int × Int) × Vst} {la : Option Addr} {lc n n' rp xb rb tb : Nat} {vaz vnz ft : Value} {k0 x kd : Int} {od dd : Bool} {v0 : List (Int × Int)} {T : List Tw1} {wt : List En} {M : Vst → Int → Vst} {sA : Vst} {l0 : List Int}
    (h : Lr w0 w3 wz mb bb vb fb vr m1 P la lc vaz vnz mz) (hP : P = vls M (tI T.length) sA l0) (hM : Vmet (tI T.length) (kdW T) (shW T wt) n' M) (hI : Vals w0 mb bb vb fb T M n') (hO : VOk (tI T.length) sA) (hn' : T.length ≤ sA.1.length + n') (ho : Own w3 xb rb tb x kd ft od dd) (hw : Wvw T wt) (hbx : w0.cell? ⟨bb, 0, none⟩ = some (.pointer (some ⟨rp, 0, none⟩))) (hwa : ∃ a3 c3, w0.cell? ⟨rp, 3, none⟩ = some (.slice a3 wt.length c3) ∧ Lp w0 a3 wt)
    (hn : ∀ P' : List (Int × Int) × Vst, P' = vls M (tI T.length) sA (l0 ++ if kd = 5 then (wt.filter (fun e => e.1 == x)).map (fun e => ew 3 e.2) else []) → P'.2.2[n]? = some (k0, v0) ∧ P'.2.2.length ≤ 100000 ∧ P'.1.length ≤ 100000) (hpl : ∀ k, k ≤ wt.length → (vls M (tI T.length) sA (l0 ++ ((wt.take k).filter (fun e => e.1 == x)).map (fun e => ew 3 e.2))).1.length ≤ 100000)
    (hlt : rb < w3.heap.size) (hlo : w0.heap.size ≤ rb) (hfb : ¬ Fb m1 rb) (hwb : wb.heap.size ≤ rb) (hK : Kx w0 wb mB w3 m1)
    (hQ : ∀ (a : Act) (w' : World) (va vn : Value) (m2 : List Vnd) (P' : List (Int × Int) × Vst), P' = vls M (tI T.length) sA (l0 ++ if kd = 5 then (wt.filter (fun e => e.1 == x)).map (fun e => ew 3 e.2) else []) → a.tmps.getD 6 undef = .pointer (some ⟨rb, 0, none⟩) → a.defers = [] → w'.cell? ⟨rb, 0, none⟩ = some (.int .i64 3) → w'.cell? ⟨rb, 1, none⟩ = some (.int .i64 n) → Wv w0 w' mb bb vb fb (P'.2.1, P'.2.2.set n (k0, P'.1)) va vn vr m2 → Kx w0 wb mB w' m2 → Q .ret a w') :
    Code.wp Tryz.prog ((find 18 (Tryz.f34.body.getD .skip)).getD .skip) Q ⟨#[s0, s1, .pointer (some ⟨bb, 0, none⟩), .pointer (some ⟨vb, 0, none⟩), .pointer (some ⟨fb, 0, none⟩), .pointer (some ⟨xb, 0, none⟩), .pointer (some ⟨rb, 0, none⟩), s7, .int .i64 n, .pointer (some ⟨tb, 0, none⟩), .slice la P.1.length lc, s11, s12, s13, s14, s15, s16, s17, s18, s19, s20, s21, s22, s23, s24, s25, s26, s27, s28, s29, s30, s31, s32, s33, s34, s35, s36, s37, s38, s39, s40, s41, s42, s43, s44, s45, s46, s47, s48, s49, s50, s51, s52, s53, s54, s55, s56, s57, s58, s59, s60, s61, s62, s63, s64, s65, s66, s67, s68, s69, s70, s71, s72, s73, s74, s75, s76, s77, s78, s79, s80, s81, s82, s83, s84, s85, s86, s87, s88, s89, s90, s91, s92, s93, s94, s95, s96, s97, s98, s99, s100, s101, s102, s103, s104, s105, s106, s107, s108, s109, s110, s111, s112, s113, s114, s115, s116, s117, s118, s119, s120, s121, s122], []⟩ wz := by
  conv => arg 2; whnf
  have HQ : Hid (∀ (a : Act) (w' : World) (va vn : Value) (m2 : List Vnd) (P' : List (Int × Int) × Vst), P' = vls M (tI T.length) sA (l0 ++ if kd = 5 then (wt.filter (fun e => e.1 == x)).map (fun e => ew 3 e.2) else []) → a.tmps.getD 6 undef = .pointer (some ⟨rb, 0, none⟩) → a.defers = [] → w'.cell? ⟨rb, 0, none⟩ = some (.int .i64 3) → w'.cell? ⟨rb, 1, none⟩ = some (.int .i64 n) → Wv w0 w' mb bb vb fb (P'.2.1, P'.2.2.set n (k0, P'.1)) va vn vr m2 → Kx w0 wb mB w' m2 → Q .ret a w') := hQ
  obtain ⟨a3, c3, hw3, hLw⟩ := hwa
  have HC : Hid (∀ w', Below w0.heap.size w0 w' → w'.cell? ⟨bb, 0, none⟩ = some (.pointer (some ⟨rp, 0, none⟩)) ∧ w'.cell? ⟨rp, 3, none⟩ = some (.slice a3 wt.length c3) ∧ Lp w' a3 wt) := fun w' hb => ⟨(hb.cell (p := ⟨bb, 0, none⟩) (World.block_lt_of_cell? w0 _ hbx)).trans hbx, (hb.cell (p := ⟨rp, 3, none⟩) (World.block_lt_of_cell? w0 _ hw3)).trans hw3, hLw.below hb⟩
  have HO : Hid (Own w3 xb rb tb x kd ft od dd) := ho
  have HI : Hid (Vals w0 mb bb vb fb T M n') := hI
  have HW : Hid (Wvw T wt) := hw
  have HG : Hid (∀ l, Vgo (tI T.length) (kdW T) (shW T wt) sA (vls M (tI T.length) sA l).2 (vls M (tI T.length) sA l).1) := fun l => vls_go hM hO (by rw [tI_len]; exact hn') l
  have HN : Hid ((∀ P' : List (Int × Int) × Vst, P' = vls M (tI T.length) sA (l0 ++ if kd = 5 then (wt.filter (fun e => e.1 == x)).map (fun e => ew 3 e.2) else []) → P'.2.2[n]? = some (k0, v0) ∧ P'.2.2.length ≤ 100000 ∧ P'.1.length ≤ 100000) ∧ T.length ≤ sA.1.length + n') := ⟨hn, hn'⟩
  have HPL : Hid (∀ k, k ≤ wt.length → (vls M (tI T.length) sA (l0 ++ ((wt.take k).filter (fun e => e.1 == x)).map (fun e => ew 3 e.2))).1.length ≤ 100000) := hpl
  have HRB : Hid (rb < w3.heap.size ∧ w0.heap.size ≤ rb ∧ ¬ Fb m1 rb ∧ wb.heap.size ≤ rb ∧ Kx w0 wb mB w3 m1) := ⟨hlt, hlo, hfb, hwb, hK⟩
  have HL : Hid (Lr w0 w3 wz mb bb vb fb vr m1 P la lc vaz vnz mz) := h
  have HP : Hid (P = vls M (tI T.length) sA (l0 ++ ((wt.take 0).filter (fun e => e.1 == x)).map (fun e => ew 3 e.2))) := by show _ = _; rw [hP]; simp
  have hwl := hw.l2
  obtain ⟨ie, hie, hze0, hze1, hze2⟩ := info_parts infoVal
  clear hQ hn hI hw ho h hbx hw3 hLw hlt hlo hfb hwb hK hO hM hn' hpl hP
  -- the end
  have HEND : Hid (∀ {wr : World} {P' : List (Int × Int) × Vst} {la' : Option Addr} {lc' : Nat} {va' vn' : Value} {m' : List Vnd}, Lr w0 w3 wr mb bb vb fb vr m1 P' la' lc' va' vn' m' → P' = vls M (tI T.length) sA (l0 ++ if kd = 5 then (wt.filter (fun e => e.1 == x)).map (fun e => ew 3 e.2) else []) → wr.heap[rb]? = some (.cells #[.int .i64 0, .int .i64 0] 54 (0, 0)) ∧ ¬ Fb m' rb ∧ Kx w0 wb mB wr m') := fun {wr P' la' lc' va' vn' m'} hL _ => by
    refine ⟨(HO.out.kx hL.kx).r, fun d => ?_, HRB.out.2.2.2.2.trans hL.kx⟩
    rcases hL.kx.2 rb d with d | d
    · exact HRB.out.2.2.1 d
    · have := HRB.out.1
      omega
  go_wp2_with fail
  go_loopw [10, 13] (fun lv iv wr => ∃ (j : Nat) (P' : List (Int × Int) × Vst) (la' : Option Addr) (lc' : Nat) (va' vn' : Value) (m' : List Vnd), j ≤ wt.length ∧ lv = .slice la' P'.1.length lc' ∧ iv = .int .i64 j ∧ Hid ((kd ≠ 5 → j = 0) ∧ P' = vls M (tI T.length) sA (l0 ++ ((wt.take j).filter (fun e => e.1 == x)).map (fun e => ew 3 e.2))) ∧ Hid (Lr w0 w3 wr mb bb vb fb vr m1 P' la' lc' va' vn' m')) (fun _ iv _ => wt.length - (intOf iv).toNat)
  case atStart => exact ⟨0, P, la, lc, vaz, vnz, mz, Nat.zero_le _, rfl, rfl, ⟨fun _ => rfl, HP.out⟩, HL⟩
  case round =>
    clear HP HL
    obtain ⟨j, P', la', lc', va', vn', m', hj, rfl, rfl, HP, HL⟩ := hrel
    obtain ⟨z1, z2, z3⟩ := HC.out wr HL.out.wv.bel
    have ow := HO.out.kx HL.out.kx
    have t0 : wr.cell? ⟨tb, 0, none⟩ = some (.int .i64 kd) := by simp [World.cell?, ow.t]
    have x1 : wr.cell? ⟨xb, 1, none⟩ = some (.int .i64 x) := by simp [World.cell?, ow.x]
    have q0 : (0 : Int) ≤ (j : Int) := by omega
    clear ow
    by_cases k5 : kd = 5
    · subst k5
      by_cases hlt : j < wt.length
      · have q1 : (j : Int) < (wt.length : Int) := by omega
        obtain ⟨fb9, fo9, rfl, lfb, hfc⟩ := z3 (by omega)
        obtain ⟨y0, y1⟩ := hfc j hlt
        have hmem : wt.getD j (0, 0) ∈ wt := getD_in hlt
        obtain ⟨e0, e1, e2⟩ := HW.out.wv _ hmem
        have HFN := Cut7.filt_next (fun e : En => e.1 == x) wt j hlt (0, 0)
        obtain ⟨eg, et, hen⟩ : ∃ eg et, wt.getD j (0, 0) = (eg, et) := ⟨_, _, rfl⟩
        have HEN : Hid (wt.getD j (0, 0) = (eg, et)) := hen
        rw [hen] at y0 y1 e0 e1 e2 HFN hmem
        dsimp only at y0 y1 e0 e1 e2 HFN
        clear hen
        cases hq : (eg == x)
        · have HN2 : Hid (((5 : Int) ≠ 5 → j + 1 = 0) ∧ P' = vls M (tI T.length) sA (l0 ++ ((wt.take (j + 1)).filter (fun e => e.1 == x)).map (fun e => ew 3 e.2))) := ⟨fun c => absurd rfl c, by rw [HFN, hq]; simpa using HP.out.2⟩
          clear HFN HP hfc hmem
          have HL2 : Hid (∀ q, Lr w0 w3 (wr.drewN q) mb bb vb fb vr m1 P' la' lc' va' vn' m') := fun q => HL.out.below (below_drewN (Below.refl _ _) q)
          as_aux_lemma =>
          go_wp2_with fail
          go_quiet (fail)
          go_wp2_with fail
          go_roundw
          case rel => exact ⟨j + 1, P', la', lc', va', vn', m', by omega, rfl, by go_num, HN2, HL2.out _⟩
          case measure => simp [intOf]; omega
        · have exg : eg = x := by simpa using hq
          have hvq : Vq T (3, et) := ⟨vc3_in et e1 (by have := HW.out.l1; have := e2.1; omega), fun _ => ⟨e1, e2⟩⟩
          have hgo := HG.out (l0 ++ ((wt.take j).filter (fun e => e.1 == x)).map (fun e => ew 3 e.2))
          rw [← HP.out.2] at hgo
          have HPC : Hid (∀ W : World, Lr w0 w3 W mb bb vb fb vr m1 P' la' lc' va' vn' m' → Calls Tryz.prog 34 (valA 3 et mb bb vb fb) W fun e w' => ∃ va5 vn5 m5, e = .returned (.agg #[.int .i64 (vst M (tI T.length) P'.2 (wI (3, et))).1.1, .int .i64 (vst M (tI T.length) P'.2 (wI (3, et))).1.2]) ∧ Lr w0 w3 w' mb bb vb fb vr m1 (P'.1, (vst M (tI T.length) P'.2 (wI (3, et))).2) la' lc' va5 vn5 m5 ∧ Kx w0 W m' w' m5) := fun W hL => by
            refine (HI.out W P'.2 va' vn' vr m' (3, et) hL.wv hgo.ok hvq (by have h1 := hgo.le; have h2 := HN.out.2; omega)).mono ?_
            rintro e w5 ⟨va5, vn5, m5, rfl, hW5, hK5⟩
            exact ⟨va5, vn5, m5, rfl, hL.call hW5 hK5, hK5⟩
          have HL0 : Hid (∀ q, Lr w0 w3 (wr.drewN q) mb bb vb fb vr m1 P' la' lc' va' vn' m') := fun q => HL.out.below (below_drewN (Below.refl _ _) q)
          have HN2 : Hid (((5 : Int) ≠ 5 → j + 1 = 0) ∧ (P'.1 ++ [(vst M (tI T.length) P'.2 (wI (3, et))).1], (vst M (tI T.length) P'.2 (wI (3, et))).2) = vls M (tI T.length) sA (l0 ++ ((wt.take (j + 1)).filter (fun e => e.1 == x)).map (fun e => ew 3 e.2))) := ⟨fun c => absurd rfl c, by
            rw [HFN, hq, if_pos rfl, List.map_append, ← List.append_assoc]
            show _ = vls M (tI T.length) sA (_ ++ [wI (3, et)])
            rw [vls_snoc, ← HP.out.2]⟩
          have hPl : P'.1.length ≤ 100000 := by rw [HP.out.2]; exact HPL.out j hj
          have y2 := HL.out.wv.cells.2.2.1
          generalize vst M (tI T.length) P'.2 (wI (3, et)) = V at *
          obtain ⟨⟨v1, v2⟩, sB⟩ := V
          dsimp only at HPC HN2
          clear HFN HP hfc hmem hgo hvq e0 HL
          go_wp2_with fail
          go_quiet (fail)
          go_wp2_with fail
          have HL1 := HL0.out nq
          have u1 : (wr.drewN nq).cell? ⟨fb, 0, none⟩ = some (fnV mb bb vb fb) := y2
          have u2 : (wr.drewN nq).cell? ⟨bb, 0, none⟩ = some (.pointer (some ⟨rp, 0, none⟩)) := z1
          have u3 : (wr.drewN nq).cell? ⟨rp, 3, none⟩ = some (.slice (some ⟨fb9, fo9, none⟩) wt.length c3) := z2
          have u4 : (wr.drewN nq).cell? ⟨fb9, fo9 + j * 2 + 1, none⟩ = some (.int .i64 et) := y1
          generalize wr.drewN nq = W at *
          have n1 : W.heap.size ≠ fb := by have : fb < W.heap.size := World.block_lt_of_cell? W _ u1; omega
          have n2 : W.heap.size ≠ bb := by have : bb < W.heap.size := World.block_lt_of_cell? W _ u2; omega
          have n3 : W.heap.size ≠ rp := by have : rp < W.heap.size := World.block_lt_of_cell? W _ u3; omega
          have n4 : W.heap.size ≠ fb9 := by have : fb9 < W.heap.size := World.block_lt_of_cell? W _ u4; omega
          have PC := HPC.out W.drew (HL1.below (Below.refl _ W).drew)
          have PD := HPC.out (W.alloc (.cells #[.int .i64 0, .int .i64 0] 54)).drew (HL1.below ((Below.refl _ W).alloc (Nat.le_refl _) _).drew)
          have HL1 : Hid (Lr w0 w3 W mb bb vb fb vr m1 P' la' lc' va' vn' m') := HL1
          clear HL0 HPC y0 y1 y2 z1 z2 z3 t0 x1
          go_region_held3 (fun w' => w'.cell? ⟨fb, 0, none⟩ = some (fnV mb bb vb fb) ∧ w'.cell? ⟨bb, 0, none⟩ = some (.pointer (some ⟨rp, 0, none⟩)) ∧ w'.cell? ⟨rp, 3, none⟩ = some (.slice (some ⟨fb9, fo9, none⟩) wt.length c3) ∧ w'.cell? ⟨fb9, fo9 + j * 2 + 1, none⟩ = some (.int .i64 et)) (go_keep) (first | (go_at_call 34; refine PC.mono ?_; clear PC PD; rintro e w5 ⟨va5, vn5, m5, rfl, hL5, _⟩; have HL5 : Hid (Lr w0 w3 w5 mb bb vb fb vr m1 (P'.1, sB) la' lc' va5 vn5 m5) := hL5; obtain ⟨b1, b2, b3⟩ := HC.out w5 hL5.wv.bel; have b4 := hL5.wv.cells.2.2.1; obtain ⟨_, _, eb, _, hfc5⟩ := b3 (by omega); cases eb; have b5 := (hfc5 j hlt).2; rw [HEN.out] at b5; clear hL5 b3 hfc5) | (go_at_call 34; refine PD.mono ?_; clear PC PD; rintro e w5 ⟨va5, vn5, m5, rfl, hL5, hK5⟩; have hla := HL1.out.late hL5 (show Kx w0 (W.alloc (.cells #[.int .i64 0, .int .i64 0] 54)) m' w5 m5 from (Kx.of (Below.refl _ _).drew).trans hK5) v1 v2; have HL6 : Hid (Lr w0 w3 ((w5.setCell ⟨W.heap.size, 0, none⟩ (.int .i64 v1)).setCell ⟨W.heap.size, 1, none⟩ (.int .i64 v2)) mb bb vb fb vr m1 (P'.1, sB) la' lc' va5 vn5 m5 ∧ w5.heap[W.heap.size]? = some (.cells #[.int .i64 0, .int .i64 0] 54 (0, 0))) := ⟨hla.2, hla.1⟩; have c0 : w5.cell? ⟨W.heap.size, 0, none⟩ = some (.int .i64 0) := (by simp [World.cell?, hla.1]); have c1 : w5.cell? ⟨W.heap.size, 1, none⟩ = some (.int .i64 0) := (by simp [World.cell?, hla.1]); have c2 : w5.frozen? ⟨W.heap.size, 0, none⟩ = false := (by simp [World.frozen?, hla.1]); have c4 : w5.frozen? ⟨W.heap.size, 1, none⟩ = false := (by simp [World.frozen?, hla.1]); obtain ⟨b1, b2, b3⟩ := HC.out w5 hL5.wv.bel; have b4 := hL5.wv.cells.2.2.1; obtain ⟨_, _, eb, _, hfc5⟩ := b3 (by omega); cases eb; have b5 := (hfc5 j hlt).2; rw [HEN.out] at b5; clear hL5 b3 hfc5 hla hK5))
          all_goals
            first
            | (have HY : Hid (Lr w0 w3 (w5.alloc (.cells #[.int .i64 v1, .int .i64 v2] 54)) mb bb vb fb vr m1 (P'.1, sB) la' lc' va5 vn5 m5 ∧ (w5.alloc (.cells #[.int .i64 v1, .int .i64 v2] 54)).cell? ⟨w5.heap.size, 0, none⟩ = some (.int .i64 v1) ∧ (w5.alloc (.cells #[.int .i64 v1, .int .i64 v2] 54)).cell? ⟨w5.heap.size, 1, none⟩ = some (.int .i64 v2)) := ⟨HL5.out.below ((Below.refl _ w5).alloc (Nat.le_refl _) _), by have hh := heap_alloc_new w5 (.cells #[.int .i64 v1, .int .i64 v2] 54); unfold World.cell?; dsimp only; rw [hh]; rfl, by have hh := heap_alloc_new w5 (.cells #[.int .i64 v1, .int .i64 v2] 54); unfold World.cell?; dsimp only; rw [hh]; rfl⟩
               clear HL5 b1 b2 b4 b5
               generalize w5.alloc (.cells #[.int .i64 v1, .int .i64 v2] 54) = w6 at *
               generalize w5.heap.size = yb at *)
            | (have HY : Hid (Lr w0 w3 ((w5.setCell ⟨W.heap.size, 0, none⟩ (.int .i64 v1)).setCell ⟨W.heap.size, 1, none⟩ (.int .i64 v2)) mb bb vb fb vr m1 (P'.1, sB) la' lc' va5 vn5 m5 ∧ ((w5.setCell ⟨W.heap.size, 0, none⟩ (.int .i64 v1)).setCell ⟨W.heap.size, 1, none⟩ (.int .i64 v2)).cell? ⟨W.heap.size, 0, none⟩ = some (.int .i64 v1) ∧ ((w5.setCell ⟨W.heap.size, 0, none⟩ (.int .i64 v1)).setCell ⟨W.heap.size, 1, none⟩ (.int .i64 v2)).cell? ⟨W.heap.size, 1, none⟩ = some (.int .i64 v2)) := ⟨HL6.out.1, by rw [World.cell?_setCell_other _ _ _ _ (by simp)]; exact World.cell?_setCell_same _ _ _ (u := .int .i64 0) c0, World.cell?_setCell_same _ _ _ (u := .int .i64 0) ((World.cell?_setCell_other _ _ _ _ (by simp)).trans c1)⟩
               clear HL6 b1 b2 b4 b5 c0 c1 c2 c4
               generalize (w5.setCell ⟨W.heap.size, 0, none⟩ (.int .i64 v1)).setCell ⟨W.heap.size, 1, none⟩ (.int .i64 v2) = w6 at *
               clear u1 u2 u3 u4 n1 n2 n3 n4 HL1
               generalize W.heap.size = yb at *)
          all_goals
            have k1 := HY.out.2.1
            have k2 := HY.out.2.2
            have HBS : Hid (Below w6.heap.size w6 (w6.alloc (.cells #[.int .i64 v1, .int .i64 v2] 54))) := (Below.refl w6.heap.size w6).alloc (Nat.le_refl _) _
            have HSC : Hid (∀ a, (some ⟨w6.heap.size, 0, none⟩ : Option Addr) = some a → ∀ k u, (ev [(v1, v2)])[k]? = some u → (w6.alloc (.cells #[.int .i64 v1, .int .i64 v2] 54)).cell? (a.add k) = some u) := val_src v1 v2
            have rx2 := row_keep HY.out.1.row (fun k e => HBS.out.block k (row_lt HY.out.1.row k e).2)
            dsimp only at rx2
            have hsz : Hid (w3.heap.size ≤ w6.heap.size) := HY.out.1.kx.1.size
            go_upto_region 20 with (at_builtin; refine wpList_append_src _ rfl _ _ 38 rfl w3.heap.size 54 ie (.agg #[.int .i64 0, .int .i64 0]) 2 16 Tryz.underlying38 hie hze0 hze1 hze2 rfl (by decide) (.slice la' P'.1.length lc') P'.1.length (ev P'.1) rfl rx2 (some ⟨w6.heap.size, 0, none⟩) 1 1 (ev [(v1, v2)]) rfl rfl (fun e => by cases e) HSC.out (ev_one _) (by unfold maxLen; omega) (by omega) (by have := hsz.out; simp; omega) ?_; intro ra' rc' w10 hown10 hgrow10 hnb10; have HB10 : Hid (Lr w0 w3 w10 mb bb vb fb vr m1 (P'.1 ++ [(v1, v2)], sB) ra' rc' va5 vn5 m5) := (HY.out.1.push HBS.out hgrow10 hown10 hnb10))
            clear hown10 hgrow10 hnb10 rx2
            go_wp2_with fail
            go_roundw
            case rel => exact ⟨j + 1, (P'.1 ++ [(v1, v2)], sB), ra', rc', va5, vn5, m5, by omega, by simp, by go_num, HN2, HB10⟩
            case measure => simp [intOf]; omega
      · obtain rfl : j = wt.length := by omega
        have HPE : Hid (P' = vls M (tI T.length) sA (l0 ++ if (5 : Int) = 5 then (wt.filter (fun e => e.1 == x)).map (fun e => ew 3 e.2) else [])) := by
          have h1 := HP.out.2
          rw [List.take_length] at h1
          show _ = _
          rw [if_pos rfl]
          exact h1
        obtain ⟨hr9, hf9, hk9⟩ := HEND.out HL.out HPE.out
        obtain ⟨nn1, nn2, _⟩ := HN.out.1 _ HPE.out
        obtain ⟨g, gC, u, evn, c1, c2, c3', c4, c5, c6, c7, c8, c9, hgr, HFI⟩ := fin_mem HL.out nn1 nn2 hr9 HRB.out.1 HRB.out.2.1 hf9 HRB.out.2.2.2.1 hk9
        have g0 : (0 : Int) ≤ (n : Int) := by omega
        have g1 : (n : Int) < (m'.length : Int) := by omega
        clear hr9 hf9 hk9 nn1 nn2 evn
        go_wp2_with fail
        obtain ⟨⟨m2, a1, a2⟩, a3, a4⟩ := HFI.out
        exact HQ.out _ _ _ _ m2 P' HPE.out rfl rfl a3 a4 a1 a2
    · have k5b : (kd == 5) = false := by simpa using k5
      have hj0 := HP.out.1 k5
      subst hj0
      have HPE : Hid (P' = vls M (tI T.length) sA (l0 ++ if kd = 5 then (wt.filter (fun e => e.1 == x)).map (fun e => ew 3 e.2) else [])) := by
        have h1 := HP.out.2
        show _ = _
        rw [if_neg k5]
        simpa using h1
      obtain ⟨hr9, hf9, hk9⟩ := HEND.out HL.out HPE.out
      obtain ⟨nn1, nn2, _⟩ := HN.out.1 _ HPE.out
      obtain ⟨g, gC, u, evn, c1, c2, c3', c4, c5, c6, c7, c8, c9, hgr, HFI⟩ := fin_mem HL.out nn1 nn2 hr9 HRB.out.1 HRB.out.2.1 hf9 HRB.out.2.2.2.1 hk9
      have g0 : (0 : Int) ≤ (n : Int) := by omega
      have g1 : (n : Int) < (m'.length : Int) := by omega
      clear hr9 hf9 hk9 nn1 nn2 evn
      go_wp2_with fail
      all_goals
        obtain ⟨⟨m2, a1, a2⟩, a3, a4⟩ := HFI.out
        exact HQ.out _ _ _ _ m2 P' HPE.out rfl rfl a3 a4 a1 a2
end

end Go.Proofs.YtogknhogphkddaaGreat.Vr4
