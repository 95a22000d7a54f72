/- GroveBreaks: its walk. -/
import Derived.Test.YtjhnhbeimjnloaaJ30
import Derived.Test.YtjhnhbeimjnloaaOpenZ
namespace Go.Proofs.Ytjhnhbeimjnloaa.GBk
open Go.RowKit W Kp Stl

set_option maxRecDepth 100000 in
set_option maxHeartbeats 16000000 in
theorem walk (n o : Int) (a : Option Addr) (cc : Nat) (l : List S6) (w : World) (hl : L6 w a l) :
    Calls Try.prog 3 #[.int .i64 n, .int .i64 o, .slice a l.length cc] w fun e w' => e = .returned (.bool true) ∧ Below w.heap.size w w' := by
  obtain ⟨g, hg⟩ := gfn_ex
  have HL : Hid (L6 w a l) := hl
  have HG : Hid (∀ T wt, Wiv T wt → Gok T wt (g T wt)) := hg
  clear hl hg
  by_cases hlen : 250 < l.length
  · go_enter Try.func3, Try.ntmps3
    go_wp2_with fail
    refine (groveBegun_any w).mono ?_
    rintro e w1 ⟨rfl, hb1⟩
    have h2 : (250 : Int) < (l.length : Int) := by omega
    go_wp2_with fail
    go_ret
    exact ⟨rfl, hb1⟩
  · have h2 : ¬ ((250 : Int) < (l.length : Int)) := by omega
    by_cases hno : n < 16 ∨ 256 < n ∨ o < 0 ∨ 1024 < o
    · have HNO : Hid (n < 16 ∨ 256 < n ∨ o < 0 ∨ 1024 < o) := hno
      clear hno
      go_enter Try.func3, Try.ntmps3
      go_wp2_with fail
      refine (groveBegun_any w).mono ?_
      rintro e w1 ⟨rfl, hb1⟩
      go_wp2_with fail
      refine (newG_no n o w1 HNO.out).mono ?_
      rintro e w2 ⟨rfl, hb2⟩
      have hB2 := hb1.trans (hb2.mono hb1.size)
      have hba := (Below.refl w2.heap.size w2).alloc (Nat.le_refl _) (.cells #[.int .i64 1, .int .i64 (-1)] 26)
      have hB3 := hB2.trans (hba.mono hB2.size)
      clear hb1 hb2 hB2 hba
      go_wp2_with fail
      go_ret
      exact ⟨rfl, hB3⟩
    · have hn0 : 16 ≤ n ∧ n ≤ 256 ∧ 0 ≤ o ∧ o ≤ 1024 := by omega
      obtain ⟨n, rfl⟩ := Int.eq_ofNat_of_zero_le (show 0 ≤ n by omega)
      obtain ⟨o, rfl⟩ := Int.eq_ofNat_of_zero_le (show 0 ≤ o by omega)
      have HN : Hid (16 ≤ n ∧ n ≤ 256 ∧ o ≤ 1024) := ⟨by omega, by omega, by omega⟩
      have HM : Hid ((-1000000 : Int) ≤ o ∧ (o : Int) ≤ 1000000 ∧ (-1000000 : Int) ≤ n ∧ (n : Int) ≤ 1000000) := ⟨by omega, by omega, by omega, by omega⟩
      clear hno hn0
      go_enter Try.func3, Try.ntmps3
      go_wp2_with fail
      refine (groveBegun_any w).mono ?_
      rintro e w1 ⟨rfl, hb1⟩
      go_wp2_with fail
      refine (newG_yes n o w1 HN.out.1 HN.out.2.1 HN.out.2.2).mono ?_
      rintro e w2 ⟨gp, rb, F1, rfl, J1, lo1, b1⟩
      have hba := (Below.refl w2.heap.size w2).alloc (Nat.le_refl _) (.cells #[.int .i64 0, .int .i64 0] 26)
      have HS : Hid ((grO gp n o rb).J F1 ws0 (w2.alloc (.cells #[.int .i64 0, .int .i64 0] 26)) ∧ Gi ws0 0 ∧ Nrg ws0 ∧ ∀ b, F1 b → w1.heap.size ≤ b) := ⟨(grO gp n o rb).below J1 hba, Gi.start, ⟨rfl, rfl⟩, lo1⟩
      have HB2 : Hid (Below w1.heap.size w1 (w2.alloc (.cells #[.int .i64 0, .int .i64 0] 26))) := b1.trans (hba.mono b1.size)
      clear J1 lo1 b1 hba
      go_upto_region 8 with fail
      generalize w2.alloc (.cells #[.int .i64 0, .int .i64 0] 26) = w3 at *
      go_wp2_with fail
      go_loopw [9] (fun iv wr => ∃ (i : Nat) (s : Wrs) (F : Nat → Prop), i ≤ l.length ∧ iv = .int .i64 i ∧ Hid ((grO gp n o rb).J F s wr ∧ Gi s i ∧ Nrg s ∧ ∀ b, F b → w1.heap.size ≤ b) ∧ Hid (Below w1.heap.size w1 wr)) (fun iv _ => l.length - (intOf iv).toNat)
      case atStart => exact ⟨0, ws0, F1, Nat.zero_le _, rfl, HS, HB2⟩
      case round =>
        clear HS HB2
        obtain ⟨i, s, F, hi, rfl, HS, HB⟩ := hrel
        by_cases hil : i < l.length
        · obtain ⟨b0, p0, e0, l0, hc⟩ := HL.out (by omega)
          obtain ⟨hc6, _⟩ := hc i hil
          subst e0
          clear hc
          have hbw := hb1.trans (HB.out.mono hb1.size)
          obtain ⟨y0, y1, y2, y3, y4, y5⟩ := hc6.below hbw l0
          have i0 : (0 : Int) ≤ (i : Int) := by omega
          have i1 : (i : Int) < (l.length : Int) := by omega
          generalize l.getD i s60 = st at *
          obtain ⟨sk, sR, sA, sB, sI, sn⟩ := st
          dsimp only at *
          by_cases h9 : sk = 9
          · have t9 : (sk != 9) = false := by rw [h9]; rfl
            have HS2 : Hid ((grO gp n o rb).J F s wr ∧ Gi s (i + 1) ∧ Nrg s ∧ ∀ b, F b → w1.heap.size ≤ b) := ⟨HS.out.1, HS.out.2.1.more (Nat.le_succ _), HS.out.2.2⟩
            clear HS hc6 hbw h9
            go_wp2_with fail
            go_roundw
            case rel => exact ⟨i + 1, s, F, by omega, by go_num, HS2, HB⟩
            case measure => simp [intOf]; omega
          · have t9 : (sk != 9) = true := by simpa using h9
            have P := doJ_any HS.out.1 HS.out.2.1 HG.out (by omega) HM.out.1 HM.out.2.1 HM.out.2.2.1 HM.out.2.2.2 sk sR sA sB sI sn
            have HN2 : Hid (Nrg (s.dos g n o sk sR sA sB sI sn).2) := HS.out.2.2.1.dos g n o sk sR sA sB sI sn h9
            clear hc6 hbw h9
            generalize s.dos g n o sk sR sA sB sI sn = D at *
            obtain ⟨cd, s2⟩ := D
            dsimp only at P HN2
            go_wp2_with fail
            refine P.mono ?_
            clear P
            rintro e w10 ⟨F2, rfl, H2⟩
            have HS2 : Hid ((grO gp n o rb).J F2 s2 w10 ∧ Gi s2 (i + 1) ∧ Nrg s2 ∧ ∀ b, F2 b → w1.heap.size ≤ b) := ⟨H2.out.1, H2.out.2.1, HN2.out, fun b d => (H2.out.2.2.sub b d).elim (HS.out.2.2.2 b) (fun c => Nat.le_trans HB.out.size c)⟩
            have HB10 : Hid (Below w1.heap.size w1 w10) := HB.out.trans (H2.out.2.2.fr.below HB.out.size (fun k d => HS.out.2.2.2 k d))
            clear H2 HS HB y0 y1 y2 y3 y4 y5
            go_wp2_with fail
            go_roundw
            case rel => exact ⟨i + 1, s2, F2, by omega, by go_num, HS2, HB10⟩
            case measure => simp [intOf]; omega
        · obtain rfl : i = l.length := by omega
          have hl250 : l.length ≤ 250 := by omega
          have i1 : ¬ ((l.length : Int) < (l.length : Int)) := by omega
          obtain ⟨gl, hgl, _⟩ := HS.out.1
          have PV := viewG_any hgl (HS.out.2.1.wvw (by omega)) HS.out.2.1.g5 HS.out.2.1.rv
          have HNV : Hid (Nvw (Vr4.vwW s.T s.wt s.rs).1 (Vr4.vwW s.T s.wt s.rs).2.2) := HS.out.2.1.nvw (by omega) HS.out.2.2.1
          obtain ⟨Z, HZ⟩ : ∃ Z, Hid (Vr4.vwW s.T s.wt s.rs = Z) := ⟨_, rfl⟩
          rw [HZ.out] at PV HNV
          obtain ⟨V, ms, ns⟩ := Z
          dsimp only at PV HNV
          have HLT : Hid (∀ b, F b → b < wr.heap.size) := (grO gp n o rb).lt HS.out.1
          clear hgl
          as_aux_lemma =>
          go_wp2_with fail
          refine PV.mono ?_
          clear PV
          rintro e v1 ⟨r2, d2, na, nn, nc, rfl, hLp, hLn, hnn, b1⟩
          subst hnn
          have ba := (Below.refl v1.heap.size v1).alloc (Nat.le_refl _) (.cells #[.slice r2 12 d2, .slice na ns.length nc] 35)
          have hx2 := heap_alloc_new v1 (.cells #[.slice r2 12 d2, .slice na ns.length nc] 35)
          have bw2 : Below wr.heap.size wr (v1.alloc (.cells #[.slice r2 12 d2, .slice na ns.length nc] 35)) := b1.trans (ba.mono b1.size)
          have HV2 : Hid (LpN (v1.alloc (.cells #[.slice r2 12 d2, .slice na ns.length nc] 35)) wr.heap.size r2 V ∧ LnN (v1.alloc (.cells #[.slice r2 12 d2, .slice na ns.length nc] 35)) wr.heap.size na ns ∧ (v1.alloc (.cells #[.slice r2 12 d2, .slice na ns.length nc] 35)).heap[v1.heap.size]? = some (.cells #[.slice r2 12 d2, .slice na ns.length nc] 35 (0, 0)) ∧ wr.heap.size ≤ v1.heap.size) := ⟨hLp.below ba, hLn.below ba, hx2, b1.size⟩
          have HJ2 : Hid ((grO gp n o rb).J F s (v1.alloc (.cells #[.slice r2 12 d2, .slice na ns.length nc] 35)) ∧ Below w1.heap.size w1 (v1.alloc (.cells #[.slice r2 12 d2, .slice na ns.length nc] 35))) := ⟨(grO gp n o rb).below HS.out.1 bw2, HB.out.trans (bw2.mono HB.out.size)⟩
          have P14 := doJ_any HJ2.out.1 HS.out.2.1 HG.out (by omega) HM.out.1 HM.out.2.1 HM.out.2.2.1 HM.out.2.2.2 16 0 0 0 0 0
          rw [dos16] at P14
          dsimp only at P14
          clear ba hx2 bw2 hLp hLn b1
          go_wp2_with fail
          generalize v1.alloc (.cells #[.slice r2 12 d2, .slice na ns.length nc] 35) = v2 at *
          generalize v1.heap.size = xb at *
          have HGI : Hid (Gi s l.length ∧ Nrg s ∧ ∀ b, F b → w1.heap.size ≤ b) := ⟨HS.out.2.1, HS.out.2.2⟩
          have HC : Hid (s.ccd (g s.T s.wt) o true = 0 ∨ (s.ccd (g s.T s.wt) o true = 3 ∧ s.cut (g s.T s.wt) o true = s)) := ccd_03 _ _ _ _
          have HBR : Hid (s.ccd (g s.T s.wt) o true = 0 → ∀ In, Grn (nT ns) [] (frs (nT ns) V true) In → (Vr4.vwW (nT (ns.map (cNd In))) [] V).1 = (Vr4.vwW (s.cut (g s.T s.wt) o true).T (s.cut (g s.T s.wt) o true).wt (s.cut (g s.T s.wt) o true).rs).1 ∧ (Vr4.vwW (nT (ns.map (cNd In))) [] V).2.2 = (Vr4.vwW (s.cut (g s.T s.wt) o true).T (s.cut (g s.T s.wt) o true).wt (s.cut (g s.T s.wt) o true).rs).2.2 ∧ (usd (s.cut (g s.T s.wt) o true).T).2 = (szV (Vr4.vwW (s.cut (g s.T s.wt) o true).T (s.cut (g s.T s.wt) o true).wt (s.cut (g s.T s.wt) o true).rs).2.2 : Int)) := fun hc In hI => breaks HGI.out.1 (by omega) (HG.out _ _ HGI.out.1.iv) HGI.out.2.1 hc HZ.out hI
          have HN2 : Hid (Nrg (s.cut (g s.T s.wt) o true)) := HGI.out.2.1.cut _ _ _
          have HZ2 : Hid (s.cut (g s.T s.wt) o true = s → Vr4.vwW (s.cut (g s.T s.wt) o true).T (s.cut (g s.T s.wt) o true).wt (s.cut (g s.T s.wt) o true).rs = (V, ms, ns)) := fun e => by
            rw [e]
            exact HZ.out
          clear HS HB HZ
          generalize s.ccd (g s.T s.wt) o true = cd at *
          generalize s.cut (g s.T s.wt) o true = s2 at *
          refine P14.mono ?_
          clear P14
          rintro e v3 ⟨F3, rfl, H3⟩
          have hT := H3.out.2.2
          have nfx : ¬ F xb := fun d => by have h1 := HLT.out xb d; have h2 := HV2.out.2.2.2; omega
          have HV3 : Hid (LpN v3 wr.heap.size r2 V ∧ LnN v3 wr.heap.size na ns ∧ v3.heap[xb]? = some (.cells #[.slice r2 12 d2, .slice na ns.length nc] 35 (0, 0))) := ⟨HV2.out.1.fr hT.fr HLT.out, HV2.out.2.1.fr hT.fr HLT.out, (hT.fr.block xb (lt_of_some HV2.out.2.2.1) nfx).trans HV2.out.2.2.1⟩
          have HJ3 : Hid ((grO gp n o rb).J F3 s2 v3 ∧ Gi s2 (l.length + 1) ∧ Below w1.heap.size w1 v3) := ⟨H3.out.1, H3.out.2.1, HJ2.out.2.trans (hT.fr.below HJ2.out.2.size (fun k d => HGI.out.2.2 k d))⟩
          clear hT nfx H3 HJ2 HV2 HLT HGI
          have x0 : v3.cell? ⟨xb, 0, none⟩ = some (.slice r2 12 d2) := by simp [World.cell?, HV3.out.2.2]
          have x1 : v3.cell? ⟨xb, 1, none⟩ = some (.slice na ns.length nc) := by simp [World.cell?, HV3.out.2.2]
          obtain ⟨gl, hgl, _⟩ := HJ3.out.1
          have HGL : Hid (Gvy gp n o gl s2 v3) := hgl
          clear hgl
          have HVW : Hid (∀ w', Below v3.heap.size v3 w' → Calls Try.prog 9 #[.pointer (some ⟨gp, 0, none⟩)] w' fun e w'' => ∃ r2 d2 na nn nc, e = .returned (.agg #[.slice r2 12 d2, .slice na nn nc]) ∧ LpN w'' w'.heap.size r2 (Vr4.vwW s2.T s2.wt s2.rs).1 ∧ LnN w'' w'.heap.size na (Vr4.vwW s2.T s2.wt s2.rs).2.2 ∧ nn = (Vr4.vwW s2.T s2.wt s2.rs).2.2.length ∧ Below w'.heap.size w' w'') := fun w' hb => viewG_any (HGL.out.below hb) (HJ3.out.2.1.wvw (by omega)) HJ3.out.2.1.g5 HJ3.out.2.1.rv
          have HNV2 : Hid (Nvw (Vr4.vwW s2.T s2.wt s2.rs).1 (Vr4.vwW s2.T s2.wt s2.rs).2.2) := HJ3.out.2.1.nvw (by omega) HN2.out
          have HUS : Hid (∀ w', Below v3.heap.size v3 w' → Calls Try.prog 13 #[.pointer (some ⟨gp, 0, none⟩)] w' fun e w'' => e = .returned (.tuple #[.int .i64 (usd s2.T).1, .int .i64 (usd s2.T).2]) ∧ Below w'.heap.size w' w'') := fun w' hb => usedG_any (HGL.out.below hb) HJ3.out.2.1.tl (by have := HJ3.out.2.1.tj; omega)
          have HB3 : Hid (Below w1.heap.size w1 v3) := HJ3.out.2.2
          clear HJ3 HGL HN2
          rcases HC.out with hc0 | ⟨hc3, hcs⟩
          · -- it is cut
            have HBK := HBR.out hc0
            subst hc0
            have HBK : Hid (_) := HBK
            clear HC HBR HZ2
            obtain ⟨Z2, HZ3⟩ : ∃ Z2, Hid (Vr4.vwW s2.T s2.wt s2.rs = Z2) := ⟨_, rfl⟩
            rw [HZ3.out] at HVW HNV2 HBK
            have HBK : Hid (∀ In, Grn (nT ns) [] (frs (nT ns) V true) In → (Vr4.vwW (nT (ns.map (cNd In))) [] V).1 = Z2.1 ∧ (Vr4.vwW (nT (ns.map (cNd In))) [] V).2.2 = Z2.2.2 ∧ (usd s2.T).2 = (szV Z2.2.2 : Int)) := HBK.out
            have HVW : Hid (_) := HVW.out
            have HNV2 : Hid (Nvw Z2.1 Z2.2.2) := HNV2.out
            clear HZ3
            generalize usd s2.T = us at *
            obtain ⟨us1, us2⟩ := us
            obtain ⟨V2, ms2, ns2⟩ := Z2
            dsimp only at HBK HVW HUS HNV2
            have hnl := HNV.out.nl
            have hV12 : Hid (V.length = 12) := HNV.out.vl
            have PL := least_any HNV.out r2 na d2 nc HV3.out.1.1 HV3.out.2.1.ln
            go_wp2_with fail
            refine PL.mono ?_
            clear PL
            rintro e v4 ⟨ad, ic, In, rfl, HIN, b4⟩
            have lxb : xb < v3.heap.size := lt_of_some HV3.out.2.2
            have x0' := (b4.cell (p := ⟨xb, 0, none⟩) lxb).trans x0
            have x1' := (b4.cell (p := ⟨xb, 1, none⟩) lxb).trans x1
            have HX4 : Hid (v4.heap[xb]? = some (.cells #[.slice r2 12 d2, .slice na ns.length nc] 35 (0, 0)) ∧ Lp v4 r2 V ∧ Ln v4 na ns ∧ Below v3.heap.size v3 v4) := ⟨(b4.block xb lxb).trans HV3.out.2.2, HV3.out.1.1.below b4, (HV3.out.2.1.ln).below b4, b4⟩
            have lxb4 : xb < v4.heap.size := lt_of_some HX4.out.1
            clear x0 x1 b4 lxb HV3
            have ba5 := (Below.refl v4.heap.size v4).alloc (Nat.le_refl _) (.cells #[.slice ad ns.length ic] 38)
            have hib := heap_alloc_new v4 (.cells #[.slice ad ns.length ic] 38)
            have s5 : (v4.alloc (.cells #[.slice ad ns.length ic] 38)).heap.size = v4.heap.size + 1 := by simp
            have HC0 : Hid (Ct (v4.alloc (.cells #[.slice ad ns.length ic] 38)) ((v4.alloc (.cells #[.slice ad ns.length ic] 38)).alloc (.cells #[.slice r2 12 d2, .slice none 0 0] 35)) (v4.heap.size + 1) (.slice r2 12 d2) (.slice none 0 0) []) := ⟨(Below.refl _ _).alloc (Nat.le_refl _) _, by rw [s5]; exact Nat.le_refl _, by
              have := heap_alloc_new (v4.alloc (.cells #[.slice ad ns.length ic] 38)) (.cells #[.slice r2 12 d2, .slice none 0 0] 35)
              rw [s5] at this
              exact this, World.ownsRow_nil _ _ _ _, fun x hx => by cases hx⟩
            have HX5 : Hid ((v4.alloc (.cells #[.slice ad ns.length ic] 38)).heap[xb]? = some (.cells #[.slice r2 12 d2, .slice na ns.length nc] 35 (0, 0)) ∧ Lp (v4.alloc (.cells #[.slice ad ns.length ic] 38)) r2 V ∧ Ln (v4.alloc (.cells #[.slice ad ns.length ic] 38)) na ns ∧ Below v3.heap.size v3 (v4.alloc (.cells #[.slice ad ns.length ic] 38))) := ⟨(ba5.block xb lxb4).trans HX4.out.1, HX4.out.2.1.below ba5, HX4.out.2.2.1.below ba5, HX4.out.2.2.2.trans (ba5.mono HX4.out.2.2.2.size)⟩
            have HDD : Hid (∀ w', Below (v4.alloc (.cells #[.slice ad ns.length ic] 38)).heap.size (v4.alloc (.cells #[.slice ad ns.length ic] 38)) w' → ∀ v : Int × Int, (v.1 = 3 → 0 ≤ v.2 ∧ v.2 < ns.length) → Calls Try.prog 12 #[.agg #[.int .i64 v.1, .int .i64 v.2], .pointer (some ⟨v4.heap.size, 0, none⟩)] w' fun e w'' => e = .returned (.bool (!inS In v)) ∧ Below w'.heap.size w' w'') := fun w' hb v hv => by
              have hr5 := row_keep HIN.out.1 (fun k e => ba5.block k (row_lt HIN.out.1 k e).2)
              exact dead_any ((hb.block _ (lt_of_some hib)).trans hib) (row_keep hr5 (fun k e => hb.block k (row_lt hr5 k e).2)) HIN.out.2.1 v hv (by omega)
            have HGR : Hid (Grn (nT ns) [] (frs (nT ns) V true) In) := HIN.out.2.2
            go_wp2_with fail
            clear x0' x1' ba5 hib s5 HX4 lxb4 HIN
            generalize v4.alloc (.cells #[.slice ad ns.length ic] 38) = v5 at *
            generalize v5.alloc (.cells #[.slice r2 12 d2, .slice none 0 0] 35) = v6 at *
            generalize v4.heap.size + 1 = cb at *
            generalize v4.heap.size = ib at *
            have lx5 : xb < v5.heap.size := lt_of_some HX5.out.1
            obtain ⟨ie, hie, hze0, hze1, hze2⟩ := info_parts infoVal
            obtain ⟨ij, hij, hzj0, hzj1, hzj2⟩ := info_parts infoNode
            have HXW : Hid (∀ w', Below v5.heap.size v5 w' → w'.cell? ⟨xb, 0, none⟩ = some (.slice r2 12 d2) ∧ w'.cell? ⟨xb, 1, none⟩ = some (.slice na ns.length nc)) := fun w' hb => by
              have := (hb.block xb lx5).trans HX5.out.1
              exact ⟨by simp [World.cell?, this], by simp [World.cell?, this]⟩
            as_aux_lemma =>
            go_loopw [14] (fun iv wr => ∃ (i : Nat) (vn : Value) (m : List Vnd), i ≤ ns.length ∧ iv = .int .i64 i ∧ Hid (Ct v5 wr cb (.slice r2 12 d2) vn m) ∧ Hid (nds m = (ns.take i).map (cNd In))) (fun iv _ => ns.length - (intOf iv).toNat)
            case atStart => exact ⟨0, _, [], Nat.zero_le _, rfl, HC0, rfl⟩
            case round =>
              clear HC0
              obtain ⟨i, vn, m, hi, rfl, HC, HND⟩ := hrel
              obtain ⟨x0, x1⟩ := HXW.out wr HC.out.be
              have q0 : (0 : Int) ≤ (i : Int) := by omega
              have hml : m.length = i := by
                have := congrArg List.length HND.out
                rw [List.length_map, List.length_take] at this
                simp [nds] at this
                omega
              by_cases hlt : i < ns.length
              · have q1' : (i : Int) < (ns.length : Int) := by omega
                obtain ⟨b, oo, fa, fc, e, lb, z1, z2, hLf⟩ := HX5.out.2.2.1.at hlt
                subst e
                obtain ⟨⟨kd, fs⟩, hn⟩ : ∃ n, ns.getD i (0, []) = n := ⟨_, rfl⟩
                have hfl := HNV.out.tl i hlt
                have hf2 := HNV.out.f2 i hlt
                have hfd := HNV.out.fd i hlt
                rw [hn] at z1 z2 hLf hfl hf2 hfd
                dsimp only at z1 z2 hLf hfl hf2 hfd
                have HFD : Hid (∀ v ∈ fs, v.1 = 3 → 0 ≤ v.2 ∧ v.2 < ns.length) := fun v hv => vq_lt (hfd v hv)
                have HNW : Hid (∀ w', Below v5.heap.size v5 w' → w'.cell? ⟨b, oo + i * 2, none⟩ = some (.int .i64 kd) ∧ w'.cell? ⟨b, oo + i * 2 + 1, none⟩ = some (.slice fa fs.length fc) ∧ Lp w' fa fs) := fun w' hb => ⟨(hb.cell (p := ⟨b, oo + i * 2, none⟩) lb).trans z1, (hb.cell (p := ⟨b, oo + i * 2 + 1, none⟩) lb).trans z2, hLf.below hb⟩
                have HNN : Hid (ns.getD i (0, []) = (kd, fs)) := hn
                obtain ⟨br, hbr⟩ : ∃ br, brk In (kd, fs) = br := ⟨_, rfl⟩
                have HBRK : Hid (brk In (kd, fs) = br) := hbr
                clear z1 z2 hLf hn hfd hbr
                obtain ⟨z1, z2, hL7⟩ := HNW.out wr HC.out.be
                have hba := (Below.refl wr.heap.size wr).alloc (Nat.le_refl _) (.cells #[.int .i64 kd, .slice none 0 0] 44)
                have be8 : Below v5.heap.size v5 (wr.alloc (.cells #[.int .i64 kd, .slice none 0 0] 44)) := HC.out.be.trans (hba.mono HC.out.be.size)
                obtain ⟨_, z2', hL8⟩ := HNW.out _ be8
                obtain ⟨_, x1'⟩ := HXW.out _ be8
                have HNB0 : Hid (Nb wr (wr.alloc (.cells #[.int .i64 kd, .slice none 0 0] 44)) wr.heap.size kd none 0 [] ∧ Below v5.heap.size v5 (wr.alloc (.cells #[.int .i64 kd, .slice none 0 0] 44))) := ⟨⟨hba, Nat.le_refl _, heap_alloc_new _ _, World.ownsRow_nil _ _ _ _⟩, be8⟩
                have zk := (two_cells (heap_alloc_new wr (.cells #[.int .i64 kd, .slice none 0 0] 44))).1
                have PD0 := HDD.out _ be8 (fs.getD 0 (0, 0))
                have HF0 : Hid (kd = 4 → ∃ fb fo, fa = some ⟨fb, fo, none⟩ ∧ 0 < fs.length ∧ (wr.alloc (.cells #[.int .i64 kd, .slice none 0 0] 44)).cell? ⟨fb, fo, none⟩ = some (.int .i64 (fs.getD 0 (0, 0)).1) ∧ (wr.alloc (.cells #[.int .i64 kd, .slice none 0 0] 44)).cell? ⟨fb, fo + 1, none⟩ = some (.int .i64 (fs.getD 0 (0, 0)).2) ∧ ((fs.getD 0 (0, 0)).1 = 3 → 0 ≤ (fs.getD 0 (0, 0)).2 ∧ (fs.getD 0 (0, 0)).2 < ns.length)) := fun h4 => by
                  have h2 := hf2 (Or.inr h4)
                  obtain ⟨fb, fo, e, _, hcl⟩ := hL8 (by omega)
                  obtain ⟨p0, p1⟩ := hcl 0 (by omega)
                  rw [Nat.zero_mul, Nat.add_zero] at p0 p1
                  exact ⟨fb, fo, e, by omega, p0, p1, HFD.out _ (getD_in (by omega))⟩
                clear hba be8 hL7 hL8 hf2 lb
                go_upto_region 24 with fail
                clear z1 z2 x0 x1
                generalize hw7 : wr = w7 at *
                clear hw7
                generalize w7.alloc (.cells #[.int .i64 kd, .slice none 0 0] 44) = w8 at *
                generalize w7.heap.size = nb at *
                go_cut [16] (fun b16 wc => b16 = .bool br ∧ Hid (Below w8.heap.size w8 wc))
                case first =>
                  by_cases h4 : kd = 4
                  · obtain ⟨fb, fo, e, hpos, p0, p1, pq⟩ := HF0.out h4
                    subst e
                    have t4 : (kd == 4) = true := by simpa using h4
                    have PD1 := PD0 pq
                    have HE : Hid ((!inS In (fs.getD 0 (0, 0))) = br) := by
                      have := HBRK.out
                      unfold brk at this
                      dsimp only at this
                      rw [t4, Bool.true_and] at this
                      exact this
                    clear PD0 h4 pq HF0
                    generalize fs.getD 0 (0, 0) = f0 at *
                    go_wp2_with fail
                    refine PD1.mono ?_
                    clear PD1
                    rintro e w9 ⟨rfl, hb9⟩
                    rw [HE.out]
                    go_wp2_with fail
                    go_meet
                    case rel => exact ⟨rfl, hb9⟩
                  · have t4 : (kd == 4) = false := by simpa using h4
                    have HE : Hid (false = br) := by
                      have := HBRK.out
                      unfold brk at this
                      dsimp only at this
                      rw [t4, Bool.false_and] at this
                      exact this
                    clear PD0 h4 HF0
                    go_wp2_with fail
                    go_meet
                    case rel => exact ⟨by rw [HE.out], Below.refl _ _⟩
                case rest =>
                  obtain ⟨rfl, HB9⟩ := hcut
                  have HN9 : Hid (Nb w7 wc nb kd none 0 []) := HNB0.out.1.below HB9.out
                  clear HNB0 HB9 zk z2' x1' PD0 HF0
                  go_wp2_with fail
                  go_loopw [17] (fun kv wr => ∃ (k : Nat) (L : List (Int × Int)) (fa' : Option Addr) (fc' : Nat), k ≤ fs.length ∧ kv = .int .i64 k ∧ Hid (L = (fs.take k).map (elx In (kd, fs))) ∧ Hid (Nb w7 wr nb kd fa' fc' L)) (fun kv _ => fs.length - (intOf kv).toNat)
                  case atStart => exact ⟨0, [], none, 0, Nat.zero_le _, rfl, rfl, HN9⟩
                  case round =>
                    clear HN9
                    obtain ⟨k, L, fa', fc', hk, rfl, HQ, HN⟩ := hrel
                    have be9 : Below v5.heap.size v5 wr := HC.out.be.trans (HN.out.be.mono HC.out.be.size)
                    obtain ⟨_, z2, hL9⟩ := HNW.out wr be9
                    obtain ⟨_, x1⟩ := HXW.out wr be9
                    have k0 : (0 : Int) ≤ (k : Int) := by omega
                    have hLl : L.length ≤ 12 := by
                      rw [HQ.out, List.length_map, List.length_take]
                      omega
                    by_cases hlk : k < fs.length
                    · have k1 : (k : Int) < (fs.length : Int) := by omega
                      obtain ⟨fb, fo, e, lfb, hcl⟩ := hL9 (by omega)
                      subst e
                      obtain ⟨y0, y1⟩ := hcl k hlk
                      have hmv := HFD.out _ (getD_in (x := (0, 0)) hlk)
                      have HTK : Hid ((fs.take (k + 1)).map (elx In (kd, fs)) = (fs.take k).map (elx In (kd, fs)) ++ [elx In (kd, fs) (fs.getD k (0, 0))]) := by
                        show _ = _
                        rw [take_snoc fs k hlk (0, 0), List.map_append]
                        rfl
                      obtain ⟨⟨e1, e2⟩, he⟩ : ∃ e, fs.getD k (0, 0) = e := ⟨_, rfl⟩
                      rw [he] at y0 y1 hmv HTK
                      dsimp only at y0 y1
                      have HEL : Hid (elx In (kd, fs) (e1, e2) = if br = true ∨ inS In (e1, e2) = false then (2, 0) else (e1, e2)) := by
                        show _ = _
                        unfold elx
                        rw [HBRK.out]
                      have lnb : nb < wr.heap.size := lt_of_some HN.out.nc
                      have l7 : w7.heap.size ≤ wr.heap.size := HN.out.be.size
                      clear hcl he
                      cases br
                      · have ba := (Below.refl wr.heap.size wr).alloc (Nat.le_refl _) (.cells #[.int .i64 e1, .int .i64 e2] 41)
                        have PD := HDD.out _ (be9.trans (ba.mono be9.size)) (e1, e2) hmv
                        have HXB : Hid ((wr.alloc (.cells #[.int .i64 e1, .int .i64 e2] 41)).heap[wr.heap.size]? = some (.cells #[.int .i64 e1, .int .i64 e2] 41 (0, 0)) ∧ Nb w7 (wr.alloc (.cells #[.int .i64 e1, .int .i64 e2] 41)) nb kd fa' fc' L ∧ ∀ j, some j = (Value.slice fa' L.length fc').ownBlock → j < wr.heap.size) := ⟨heap_alloc_new _ _, HN.out.below ba, fun j e => (row_lt HN.out.row j e).2⟩
                        clear ba hmv be9 hL9
                        go_wp2_with fail
                        refine PD.mono ?_
                        clear PD
                        rintro e w11 ⟨rfl, hb11⟩
                        have hx11 := (hb11.block _ (lt_of_some HXB.out.1)).trans HXB.out.1
                        have HN11 : Hid (Nb w7 w11 nb kd fa' fc' L) := HXB.out.2.1.below hb11
                        obtain ⟨p0, p1, pf, _⟩ := two_cells hx11
                        have pf0 := pf 0
                        have pf1 := pf 1
                        have HOB := HXB.out.2.2
                        have HOB : Hid (∀ j, some j = (Value.slice fa' L.length fc').ownBlock → j < wr.heap.size) := HOB
                        clear hb11 HXB
                        cases hin : inS In (e1, e2)
                        · rw [hin] at HEL
                          have HTK : Hid ((fs.take (k + 1)).map (elx In (kd, fs)) = (fs.take k).map (elx In (kd, fs)) ++ [(2, 0)]) := by
                            show _ = _
                            rw [HTK.out, HEL.out, if_pos (Or.inr rfl)]
                          have hF : Fr (fun k => k = wr.heap.size) w11 ((w11.setCell ⟨wr.heap.size, 0, none⟩ (.int .i64 2)).setCell ⟨wr.heap.size, 1, none⟩ (.int .i64 0)) := ((Fr.refl (fun k => k = wr.heap.size) w11).set _ 0 _ rfl).set _ 1 _ rfl
                          have HY : Hid (Nb w7 ((w11.setCell ⟨wr.heap.size, 0, none⟩ (.int .i64 2)).setCell ⟨wr.heap.size, 1, none⟩ (.int .i64 0)) nb kd fa' fc' L ∧ ((w11.setCell ⟨wr.heap.size, 0, none⟩ (.int .i64 2)).setCell ⟨wr.heap.size, 1, none⟩ (.int .i64 0)).cell? ⟨wr.heap.size, 0, none⟩ = some (.int .i64 2) ∧ ((w11.setCell ⟨wr.heap.size, 0, none⟩ (.int .i64 2)).setCell ⟨wr.heap.size, 1, none⟩ (.int .i64 0)).cell? ⟨wr.heap.size, 1, none⟩ = some (.int .i64 0)) := ⟨HN11.out.turn hF l7 (fun e => by have := HOB.out _ e; omega) hx11, by rw [World.cell?_setCell_other _ _ _ _ (by simp)]; exact World.cell?_setCell_same _ _ _ p0, World.cell?_setCell_same _ _ _ ((World.cell?_setCell_other _ _ _ _ (by simp)).trans p1)⟩
                          clear hin HEL hF hx11 HN11
                          go_upto_region 31 with fail
                          clear p0 p1 pf pf0 pf1
                          generalize (w11.setCell ⟨wr.heap.size, 0, none⟩ (.int .i64 2)).setCell ⟨wr.heap.size, 1, none⟩ (.int .i64 0) = W6 at *
                          clear y0 y1 z2 x1 l7 lnb HN HOB
                          generalize wr.heap.size = yb at *
                          obtain ⟨q1, q2, hq⟩ : ∃ q1 q2 : Int, q1 = 2 ∧ q2 = 0 := ⟨2, 0, rfl, rfl⟩
                          rw [← hq.1, ← hq.2] at HY HTK
                          clear hq
                          have u1 : W6.cell? ⟨yb, 0, none⟩ = some (.int .i64 q1) := HY.out.2.1
                          have u2 : W6.cell? ⟨yb, 1, none⟩ = some (.int .i64 q2) := HY.out.2.2
                          have u3 : W6.cell? ⟨nb, 1, none⟩ = some (.slice fa' L.length fc') := by simp [World.cell?, HY.out.1.nc]
                          have HBS : Hid (Below W6.heap.size W6 (W6.alloc (.cells #[.int .i64 q1, .int .i64 q2] 41))) := (Below.refl W6.heap.size W6).alloc (Nat.le_refl _) _
                          have HSC : Hid (∀ a, (some ⟨W6.heap.size, 0, none⟩ : Option Addr) = some a → ∀ k u, (ev [(q1, q2)])[k]? = some u → (W6.alloc (.cells #[.int .i64 q1, .int .i64 q2] 41)).cell? (a.add k) = some u) := Tld.val_src q1 q2
                          have rx2 := row_keep HY.out.1.row (fun k e => HBS.out.block k (row_lt HY.out.1.row k e).2)
                          have hsz : Hid (w7.heap.size ≤ W6.heap.size) := HY.out.1.be.size
                          go_upto_region 27 with (at_builtin; refine wpList_append_src _ rfl _ _ 32 rfl w7.heap.size 41 ie (.agg #[.int .i64 0, .int .i64 0]) 2 16 Try.underlying32 hie hze0 hze1 hze2 rfl (by decide) (.slice fa' L.length fc') L.length (ev L) rfl rx2 (some ⟨W6.heap.size, 0, none⟩) 1 1 (ev [(q1, q2)]) rfl rfl (fun e => by cases e) HSC.out (ev_one _) (by unfold maxLen; omega) (by omega) (by have := hsz.out; simp; omega) ?_; intro ra' rc' w12 hown12 hgrow12 _; have HP12 : Hid (Nb w7 (w12.setCell ⟨nb, 1, none⟩ (.slice ra' (L.length + 1) rc')) nb kd ra' rc' (L ++ [(q1, q2)]) ∧ w12.heap[nb]? = some (.cells #[.int .i64 kd, .slice fa' L.length fc'] 44 (0, 0))) := (HY.out.1.push HBS.out hgrow12 hown12); have s0 : w12.cell? ⟨nb, 1, none⟩ = some (.slice fa' L.length fc') := (by simp [World.cell?, HP12.out.2]); have s1 : w12.frozen? ⟨nb, 1, none⟩ = false := (by simp [World.frozen?, HP12.out.2]))
                          clear hown12 hgrow12 rx2
                          go_wp2_with fail
                          go_roundw
                          case rel => exact ⟨k + 1, L ++ [(q1, q2)], ra', rc', by omega, by go_num, by show _ = _; rw [HQ.out, HTK.out], HP12.out.1⟩
                          case measure => simp [intOf]; omega
                        · rw [hin] at HEL
                          have HTK : Hid ((fs.take (k + 1)).map (elx In (kd, fs)) = (fs.take k).map (elx In (kd, fs)) ++ [(e1, e2)]) := by
                            show _ = _
                            rw [HTK.out, HEL.out, if_neg (by simp)]
                          have HY : Hid (Nb w7 w11 nb kd fa' fc' L ∧ w11.cell? ⟨wr.heap.size, 0, none⟩ = some (.int .i64 e1) ∧ w11.cell? ⟨wr.heap.size, 1, none⟩ = some (.int .i64 e2)) := ⟨HN11.out, p0, p1⟩
                          clear hin HEL hx11 HN11
                          go_upto_region 31 with fail
                          clear p0 p1 pf pf0 pf1
                          generalize hW6 : w11 = W6 at *
                          clear hW6 y0 y1 z2 x1 l7 lnb HN HOB
                          generalize wr.heap.size = yb at *
                          generalize e1 = q1 at *
                          generalize e2 = q2 at *
                          have u1 : W6.cell? ⟨yb, 0, none⟩ = some (.int .i64 q1) := HY.out.2.1
                          have u2 : W6.cell? ⟨yb, 1, none⟩ = some (.int .i64 q2) := HY.out.2.2
                          have u3 : W6.cell? ⟨nb, 1, none⟩ = some (.slice fa' L.length fc') := by simp [World.cell?, HY.out.1.nc]
                          have HBS : Hid (Below W6.heap.size W6 (W6.alloc (.cells #[.int .i64 q1, .int .i64 q2] 41))) := (Below.refl W6.heap.size W6).alloc (Nat.le_refl _) _
                          have HSC : Hid (∀ a, (some ⟨W6.heap.size, 0, none⟩ : Option Addr) = some a → ∀ k u, (ev [(q1, q2)])[k]? = some u → (W6.alloc (.cells #[.int .i64 q1, .int .i64 q2] 41)).cell? (a.add k) = some u) := Tld.val_src q1 q2
                          have rx2 := row_keep HY.out.1.row (fun k e => HBS.out.block k (row_lt HY.out.1.row k e).2)
                          have hsz : Hid (w7.heap.size ≤ W6.heap.size) := HY.out.1.be.size
                          go_upto_region 27 with (at_builtin; refine wpList_append_src _ rfl _ _ 32 rfl w7.heap.size 41 ie (.agg #[.int .i64 0, .int .i64 0]) 2 16 Try.underlying32 hie hze0 hze1 hze2 rfl (by decide) (.slice fa' L.length fc') L.length (ev L) rfl rx2 (some ⟨W6.heap.size, 0, none⟩) 1 1 (ev [(q1, q2)]) rfl rfl (fun e => by cases e) HSC.out (ev_one _) (by unfold maxLen; omega) (by omega) (by have := hsz.out; simp; omega) ?_; intro ra' rc' w12 hown12 hgrow12 _; have HP12 : Hid (Nb w7 (w12.setCell ⟨nb, 1, none⟩ (.slice ra' (L.length + 1) rc')) nb kd ra' rc' (L ++ [(q1, q2)]) ∧ w12.heap[nb]? = some (.cells #[.int .i64 kd, .slice fa' L.length fc'] 44 (0, 0))) := (HY.out.1.push HBS.out hgrow12 hown12); have s0 : w12.cell? ⟨nb, 1, none⟩ = some (.slice fa' L.length fc') := (by simp [World.cell?, HP12.out.2]); have s1 : w12.frozen? ⟨nb, 1, none⟩ = false := (by simp [World.frozen?, HP12.out.2]))
                          clear hown12 hgrow12 rx2
                          go_wp2_with fail
                          go_roundw
                          case rel => exact ⟨k + 1, L ++ [(q1, q2)], ra', rc', by omega, by go_num, by show _ = _; rw [HQ.out, HTK.out], HP12.out.1⟩
                          case measure => simp [intOf]; omega
                      · have HTK : Hid ((fs.take (k + 1)).map (elx In (kd, fs)) = (fs.take k).map (elx In (kd, fs)) ++ [(2, 0)]) := by
                          show _ = _
                          rw [HTK.out, HEL.out, if_pos (Or.inl rfl)]
                        have HY : Hid (Nb w7 (wr.alloc (.cells #[.int .i64 2, .int .i64 0] 41)) nb kd fa' fc' L ∧ (wr.alloc (.cells #[.int .i64 2, .int .i64 0] 41)).cell? ⟨wr.heap.size, 0, none⟩ = some (.int .i64 2) ∧ (wr.alloc (.cells #[.int .i64 2, .int .i64 0] 41)).cell? ⟨wr.heap.size, 1, none⟩ = some (.int .i64 0)) := by
                          obtain ⟨p0, p1, _⟩ := two_cells (heap_alloc_new wr (.cells #[.int .i64 2, .int .i64 0] 41))
                          exact ⟨HN.out.below ((Below.refl _ wr).alloc (Nat.le_refl _) _), p0, p1⟩
                        clear HEL hmv be9 hL9
                        go_upto_region 31 with fail
                        generalize wr.alloc (.cells #[.int .i64 2, .int .i64 0] 41) = W6 at *
                        clear y0 y1 z2 x1 l7 lnb HN
                        generalize wr.heap.size = yb at *
                        obtain ⟨q1, q2, hq⟩ : ∃ q1 q2 : Int, q1 = 2 ∧ q2 = 0 := ⟨2, 0, rfl, rfl⟩
                        rw [← hq.1, ← hq.2] at HY HTK
                        clear hq
                        have u1 : W6.cell? ⟨yb, 0, none⟩ = some (.int .i64 q1) := HY.out.2.1
                        have u2 : W6.cell? ⟨yb, 1, none⟩ = some (.int .i64 q2) := HY.out.2.2
                        have u3 : W6.cell? ⟨nb, 1, none⟩ = some (.slice fa' L.length fc') := by simp [World.cell?, HY.out.1.nc]
                        have HBS : Hid (Below W6.heap.size W6 (W6.alloc (.cells #[.int .i64 q1, .int .i64 q2] 41))) := (Below.refl W6.heap.size W6).alloc (Nat.le_refl _) _
                        have HSC : Hid (∀ a, (some ⟨W6.heap.size, 0, none⟩ : Option Addr) = some a → ∀ k u, (ev [(q1, q2)])[k]? = some u → (W6.alloc (.cells #[.int .i64 q1, .int .i64 q2] 41)).cell? (a.add k) = some u) := Tld.val_src q1 q2
                        have rx2 := row_keep HY.out.1.row (fun k e => HBS.out.block k (row_lt HY.out.1.row k e).2)
                        have hsz : Hid (w7.heap.size ≤ W6.heap.size) := HY.out.1.be.size
                        go_upto_region 27 with (at_builtin; refine wpList_append_src _ rfl _ _ 32 rfl w7.heap.size 41 ie (.agg #[.int .i64 0, .int .i64 0]) 2 16 Try.underlying32 hie hze0 hze1 hze2 rfl (by decide) (.slice fa' L.length fc') L.length (ev L) rfl rx2 (some ⟨W6.heap.size, 0, none⟩) 1 1 (ev [(q1, q2)]) rfl rfl (fun e => by cases e) HSC.out (ev_one _) (by unfold maxLen; omega) (by omega) (by have := hsz.out; simp; omega) ?_; intro ra' rc' w12 hown12 hgrow12 _; have HP12 : Hid (Nb w7 (w12.setCell ⟨nb, 1, none⟩ (.slice ra' (L.length + 1) rc')) nb kd ra' rc' (L ++ [(q1, q2)]) ∧ w12.heap[nb]? = some (.cells #[.int .i64 kd, .slice fa' L.length fc'] 44 (0, 0))) := (HY.out.1.push HBS.out hgrow12 hown12); have s0 : w12.cell? ⟨nb, 1, none⟩ = some (.slice fa' L.length fc') := (by simp [World.cell?, HP12.out.2]); have s1 : w12.frozen? ⟨nb, 1, none⟩ = false := (by simp [World.frozen?, HP12.out.2]))
                        clear hown12 hgrow12 rx2
                        go_wp2_with fail
                        go_roundw
                        case rel => exact ⟨k + 1, L ++ [(q1, q2)], ra', rc', by omega, by go_num, by show _ = _; rw [HQ.out, HTK.out], HP12.out.1⟩
                        case measure => simp [intOf]; omega
                    · obtain rfl : k = fs.length := by omega
                      rw [List.take_length] at HQ
                      have HCT : Hid (Ct v5 wr cb (.slice r2 12 d2) vn m) := HC.out.below HN.out.be
                      obtain ⟨aN, cN, eN⟩ := row_slice HC.out.row
                      subst eN
                      have u0 : wr.cell? ⟨cb, 1, none⟩ = some (.slice aN m.length cN) := by simp [World.cell?, HCT.out.cc]
                      have u1 : wr.cell? ⟨nb, 0, none⟩ = some (.int .i64 kd) := by simp [World.cell?, HN.out.nc]
                      have u2 : wr.cell? ⟨nb, 1, none⟩ = some (.slice fa' L.length fc') := by simp [World.cell?, HN.out.nc]
                      have HBS : Hid (Below wr.heap.size wr (wr.alloc (.cells #[.int .i64 kd, .slice fa' L.length fc'] 44))) := (Below.refl wr.heap.size wr).alloc (Nat.le_refl _) _
                      have HSC : Hid (∀ a, (some ⟨wr.heap.size, 0, none⟩ : Option Addr) = some a → ∀ k u, (nv [(kd, fa', fc', L)])[k]? = some u → (wr.alloc (.cells #[.int .i64 kd, .slice fa' L.length fc'] 44)).cell? (a.add k) = some u) := nodeS_src kd fa' L.length fc' L rfl
                      have rx2 := row_keep HCT.out.row (fun k e => HBS.out.block k (row_lt HCT.out.row k e).2)
                      have hsz : Hid (v5.heap.size ≤ wr.heap.size) := HCT.out.be.size
                      have hmm : m.length ≤ 10000 := by omega
                      have HNX : Hid (nds (m ++ [(kd, fa', fc', L)]) = (ns.take (i + 1)).map (cNd In)) := by
                        show _ = _
                        rw [take_snoc ns i hlt (0, []), List.map_append, ← HND.out, HNN.out]
                        simp [nds, cNd_el, HQ.out]
                      have HLV : Hid (Lv wr fa' L) := Lv.of HN.out.row
                      clear hml
                      go_upto_region 22 with (at_builtin; refine wpList_append_src _ rfl _ _ 33 rfl v5.heap.size 44 ij (.agg #[.int .i64 0, .slice none 0 0]) 2 32 Try.underlying33 hij hzj0 hzj1 hzj2 rfl (by decide) (.slice aN m.length cN) m.length (nv m) rfl rx2 (some ⟨wr.heap.size, 0, none⟩) 1 1 (nv [(kd, fa', fc', L)]) rfl rfl (fun e => by cases e) HSC.out (fun u hu => by simp [nv] at hu; rcases hu with hu | hu <;> (subst hu; rfl)) (by unfold maxLen; omega) (by omega) (by have := hsz.out; simp; omega) ?_; intro rn' rk' w12 hown12 hgrow12 _; have HP12 : Hid (Ct v5 (w12.setCell ⟨cb, 1, none⟩ (.slice rn' (m.length + 1) rk')) cb (.slice r2 12 d2) (.slice rn' (m.length + 1) rk') (m ++ [(kd, fa', fc', L)]) ∧ w12.heap[cb]? = some (.cells #[.slice r2 12 d2, .slice aN m.length cN] 35 (0, 0))) := (HCT.out.push ((Fr.of HBS.out).grown hgrow12 (fun k e => Or.inl (by simpa using e.symm))) (by rw [List.length_append, nv_append]; exact hown12) HLV.out); have s0 : w12.cell? ⟨cb, 1, none⟩ = some (.slice aN m.length cN) := (by simp [World.cell?, HP12.out.2]); have s1 : w12.frozen? ⟨cb, 1, none⟩ = false := (by simp [World.frozen?, HP12.out.2]))
                      clear hown12 hgrow12 rx2
                      go_wp2_with fail
                      go_roundw
                      case rel => exact ⟨i + 1, _, m ++ [(kd, fa', fc', L)], by omega, by go_num, HP12.out.1, HNX⟩
                      case measure => simp [intOf]; omega
              · obtain rfl : i = ns.length := by omega
                rw [List.take_length] at HND
                obtain ⟨aN, cN, eN⟩ := row_slice HC.out.row
                subst eN
                have HCN : Hid (_) := HNV.out.cn In
                have HBK1 := HBK.out In HGR.out
                have hus : us2 = (szV ns2 : Int) := HBK1.2.2
                have HBK2 : Hid (_) := HBK1
                subst hus
                have HML : Hid (m.length = ns.length) := hml
                have b39 : Below v3.heap.size v3 wr := HX5.out.2.2.2.trans (HC.out.be.mono HX5.out.2.2.2.size)
                have HLV : Hid (Lp wr r2 V) := HX5.out.2.1.below HC.out.be
                have HTO : Hid (∀ w', Below wr.heap.size wr w' → Calls Try.prog 14 #[.agg #[.slice r2 12 d2, .slice aN m.length cN]] w' fun e w'' => ∃ r2 d2 na nn nc, e = .returned (.agg #[.slice r2 12 d2, .slice na nn nc]) ∧ LpN w'' w'.heap.size r2 V2 ∧ LnN w'' w'.heap.size na ns2 ∧ nn = ns2.length ∧ Below w'.heap.size w' w'') := fun w' hb => by
                  have hT : nT (ns.map (cNd In)) = nT (nds m) := by rw [HND.out]
                  have P := Tld.told_any (w := w') (T := nT (ns.map (cNd In))) (l := V) (ra := r2) (na := aN) (rc := d2) (nc := cN) (HLV.out.below hb) ((HC.out.below hb).nodes hT) (by rw [hV12.out]; decide) HCN.out.1 (fun i hi => (nT_alv _ _).2 (by rwa [nT_len] at hi)) HCN.out.2
                  rw [nT_len, List.length_map, hV12.out, HBK2.out.1, HBK2.out.2.1] at P
                  rw [HML.out]
                  exact P
                have PU := HUS.out wr b39
                have u0 : wr.cell? ⟨cb, 0, none⟩ = some (.slice r2 12 d2) := by simp [World.cell?, HC.out.cc]
                have u1 : wr.cell? ⟨cb, 1, none⟩ = some (.slice aN m.length cN) := by simp [World.cell?, HC.out.cc]
                have lcb : cb < wr.heap.size := lt_of_some HC.out.cc
                have HB39 : Hid (Below v3.heap.size v3 wr) := b39
                have HFL : Hid (V2.length = 12 ∧ ns2.length ≤ 10000 ∧ ∀ nd ∈ ns2, nd.2.length ≤ 12) := ⟨HNV2.out.vl, HNV2.out.nl, fun nd hnd => by
                  obtain ⟨q, hq, eq⟩ := List.mem_iff_getElem.1 hnd
                  have := HNV2.out.tl q hq
                  rw [List.getD_eq_getElem?_getD, List.getElem?_eq_getElem hq] at this
                  have this : ns2[q].2.length ≤ 12 := this
                  rwa [eq] at this⟩
                clear hml b39 HBK1
                as_aux_lemma =>
                go_wp2_with fail
                refine PU.mono ?_
                clear PU
                rintro e w13 ⟨rfl, hb13⟩
                have u0' := (hb13.cell (p := ⟨cb, 0, none⟩) lcb).trans u0
                have u1' := (hb13.cell (p := ⟨cb, 1, none⟩) lcb).trans u1
                have P14 := HTO.out w13 hb13
                have HB13 : Hid (Below v3.heap.size v3 w13) := HB39.out.trans (hb13.mono HB39.out.size)
                clear u0 u1 hb13 HTO
                go_wp2_with fail
                refine P14.mono ?_
                clear P14
                rintro e w14 ⟨r4, d4, na4, nn4, nc4, rfl, hp4, hn4, hnn4, b14⟩
                subst hnn4
                have HB14 : Hid (Below v3.heap.size v3 w14) := HB13.out.trans (b14.mono HB13.out.size)
                have HP4 : Hid (Lp w14 r4 V2 ∧ Ln w14 na4 ns2) := ⟨hp4.1, hn4.ln⟩
                have P15 := HVW.out w14 HB14.out
                clear u0' u1' b14 hp4 hn4
                go_wp2_with fail
                refine P15.mono ?_
                clear P15
                rintro e w15 ⟨r5, d5, na5, nn5, nc5, rfl, hp5, hn5, hnn5, b15⟩
                subst hnn5
                have HB15 : Hid (Below v3.heap.size v3 w15) := HB14.out.trans (b15.mono HB14.out.size)
                have PS := sameView_eq r4 r5 na4 na5 d4 d5 nc4 nc5 V2 ns2 w15 (by rw [HFL.out.1]; decide) (by have := HFL.out.2.1; omega) (fun nd hnd => by have := HFL.out.2.2 nd hnd; omega) (HP4.out.1.below b15) hp5.1 (HP4.out.2.below b15) hn5.ln
                rw [HFL.out.1] at PS
                clear b15 hp5 hn5
                go_wp2_with fail
                refine PS.mono ?_
                clear PS
                rintro e w16 ⟨rfl, hb16⟩
                have HB16 : Hid (Below v3.heap.size v3 w16) := HB15.out.trans (hb16.mono HB15.out.size)
                have P17 := HVW.out w16 HB16.out
                clear hb16
                go_wp2_with fail
                refine P17.mono ?_
                clear P17
                rintro e w17 ⟨r6, d6, na6, nn6, nc6, rfl, hp6, hn6, hnn6, b17⟩
                subst hnn6
                have HB17 : Hid (Below v3.heap.size v3 w17) := HB16.out.trans (b17.mono HB16.out.size)
                have PZ := size_any r6 na6 12 d6 nc6 w17 (by have := HFL.out.2.1; omega) (fun nd hnd => by have := HFL.out.2.2 nd hnd; omega) hn6.ln
                clear b17 hp6 hn6
                generalize szV ns2 = zz at *
                go_wp2_with fail
                refine PZ.mono ?_
                clear PZ
                rintro e w18 ⟨rfl, hb18⟩
                have HB18 : Hid (Below v3.heap.size v3 w18) := HB17.out.trans (hb18.mono HB17.out.size)
                have hB9 := hb1.trans ((HB3.out.trans (HB18.out.mono HB3.out.size)).mono hb1.size)
                clear hb18
                go_wp2_with fail
                go_ret
                exact ⟨rfl, hB9⟩
          · -- it is refused
            have e9 := HZ2.out hcs
            rw [e9] at HVW HNV2
            subst hc3
            have HVW : Hid (_) := HVW.out
            have hV12 := HNV.out.vl
            have PV := HVW.out v3.drew (Below.refl _ _).drew
            have lxb : xb < v3.heap.size := lt_of_some HV3.out.2.2
            dsimp only at PV
            clear HC HBR HZ2 HUS e9 hcs HVW
            have HV12 : Hid (V.length = 12) := hV12
            clear hV12
            go_wp2_with fail
            go_region_held3 (fun w' => w'.cell? ⟨xb, 0, none⟩ = some (.slice r2 12 d2) ∧ w'.cell? ⟨xb, 1, none⟩ = some (.slice na ns.length nc)) (first | exact ⟨k0, k1⟩ | exact ⟨x0, x1⟩ | (go_keep; done)) (first | (go_at_call 9; refine PV.mono ?_; clear PV; rintro e v4 ⟨r3, d3, na3, nn3, nc3, rfl, hp3, hn3, hnn3, b3⟩; subst hnn3; have b34 : Below v3.heap.size v3 v4 := ((Below.refl v3.heap.size v3).drew).trans b3; have k0 := (b34.cell (p := ⟨xb, 0, none⟩) lxb).trans x0; have k1 := (b34.cell (p := ⟨xb, 1, none⟩) lxb).trans x1; have PS := sameView_eq r2 r3 na na3 d2 d3 nc nc3 V ns v4 (by rw [HV12.out]; decide) (by have := HNV.out.nl; omega) (fun nd hnd => (by obtain ⟨q, hq, eq⟩ := List.mem_iff_getElem.1 hnd; have := HNV.out.tl q hq; rw [List.getD_eq_getElem?_getD, List.getElem?_eq_getElem hq] at this; have this : ns[q].2.length ≤ 12 := this; rw [eq] at this; omega)) (HV3.out.1.1.below b34) hp3.1 (HV3.out.2.1.ln.below b34) hn3.ln; rw [HV12.out] at PS; have HB34 : Hid (Below v3.heap.size v3 v4) := b34; clear b34 b3 hp3 hn3 x0 x1) | (go_at_call 10; refine PS.mono ?_; clear PS; rintro e v5 ⟨rfl, hb5⟩; have HB5 : Hid (Below v3.heap.size v3 v5) := HB34.out.trans (hb5.mono HB34.out.size); have k0 := (hb5.cell (p := ⟨xb, 0, none⟩) (Nat.lt_of_lt_of_le lxb HB34.out.size)).trans k0; have k1 := (hb5.cell (p := ⟨xb, 1, none⟩) (Nat.lt_of_lt_of_le lxb HB34.out.size)).trans k1; clear hb5))
            all_goals
              have hB9 := hb1.trans ((HB3.out.trans (HB5.out.mono HB3.out.size)).mono hb1.size)
              go_wp2_with fail
              go_ret
              exact ⟨rfl, hB9⟩

end Go.Proofs.Ytjhnhbeimjnloaa.GBk
