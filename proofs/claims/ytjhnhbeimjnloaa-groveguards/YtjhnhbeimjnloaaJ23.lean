/- Joined: GGs, GGsP. -/
import Derived.Test.YtjhnhbeimjnloaaJ22
import Derived.Test.YtjhnhbeimjnloaaRows
import Derived.ProofKit
import Derived.OpenShut
import Derived.Lib.SmallJoins
import Derived.ShutString
import Derived.ChangeOld
import Derived.Below
/- GroveGuards: its walk. -/
namespace Go.Proofs.Ytjhnhbeimjnloaa.GGs
open Go.RowKit W Kp Stl

theorem vls_pre (M : Vst → Int → Vst) (T : List Int) : ∀ (l : List Int) (r : List (Int × Int) × Vst) (k : Nat), k < r.1.length → (l.foldl (fun r x => (r.1 ++ [(vst M T r.2 x).1], (vst M T r.2 x).2)) r).1.getD k (0, 0) = r.1.getD k (0, 0)
  | [], _, _, _ => rfl
  | x :: l, r, k, h => by
    rw [List.foldl_cons, vls_pre M T l _ k (by simp; omega)]
    dsimp only
    rw [List.getD_eq_getElem?_getD, List.getElem?_append_left h, ← List.getD_eq_getElem?_getD]
theorem vls_at (M : Vst → Int → Vst) (T : List Int) : ∀ (l : List Int) (r : List (Int × Int) × Vst) (i : Nat), i < l.length → dk (l.getD i 0) ≠ 3 → (l.foldl (fun r x => (r.1 ++ [(vst M T r.2 x).1], (vst M T r.2 x).2)) r).1.getD (r.1.length + i) (0, 0) = (dk (l.getD i 0), dn (l.getD i 0))
  | [], _, _, h, _ => by simp at h
  | x :: l, r, 0, _, h3 => by
    have h3 : dk x ≠ 3 := h3
    rw [List.foldl_cons, Nat.add_zero, vls_pre M T l _ r.1.length (by simp)]
    dsimp only
    rw [List.getD_eq_getElem?_getD, List.getElem?_append_right (Nat.le_refl _), Nat.sub_self]
    unfold vst
    rw [if_neg h3]
    rfl
  | x :: l, r, i + 1, h, h3 => by
    have ih := vls_at M T l (r.1 ++ [(vst M T r.2 x).1], (vst M T r.2 x).2) i (by simpa using h) h3
    rw [List.foldl_cons]
    simp only [List.length_append, List.length_cons, List.length_nil] at ih
    rw [show r.1.length + (i + 1) = r.1.length + (0 + 1) + i by omega]
    exact ih
theorem vw_o {s : Wrs} {j : Nat} (h : Gi s j) (i : Nat) (hi : i < 12) (h3 : (s.rs.getD i (0, 0)).1 ≠ 3) : (Vr4.vwW s.T s.wt s.rs).1.getD i (0, 0) = s.rs.getD i (0, 0) := by
  have hl := h.rl
  have e : (s.rs.map wI).getD i 0 = wI (s.rs.getD i (0, 0)) := by
    rw [List.getD_eq_getElem?_getD, List.getElem?_map, List.getD_eq_getElem?_getD, List.getElem?_eq_getElem (by omega)]
    rfl
  have d := wI_dec (h.rt i)
  have := vls_at (met (tI s.T.length) (kdW s.T) (shW s.T s.wt) s.T.length) (tI s.T.length) (s.rs.map wI) ([], ([], [])) i (by simp; omega) (by rw [e, d.1]; exact h3)
  rw [e, d.1, d.2] at this
  simpa [Vr4.vwW, vls] using this

section
variable {gp rb gb base j : Nat} {most grow : Int} {F : Nat → Prop} {s : Wrs} {w w' : World} {g : Gfn}
set_option maxRecDepth 100000 in
set_option maxHeartbeats 2000000 in
theorem cl_any (h : Sg gp rb gb base most grow F s j w) (hg : ∀ T wt, Wiv T wt → Gok T wt (g T wt)) (hj : j ≤ 9000) (g0 : -1000000 ≤ grow) (g1 : grow ≤ 1000000) (m0 : -1000000 ≤ most) (m1 : most ≤ 1000000) (k R A B I m : Int) :
    Calls Try.prog 16 #[hsV k R A B I m, .pointer (some ⟨gb, 0, none⟩)] w fun e w' => ∃ F', e = .returned (.bool ((s.dos g most grow k R A B I m).1 == 0)) ∧ Sg gp rb gb base most grow F' (s.dos g most grow k R A B I m).2 (j + 1) w' ∧ Below base w w' := by
  have ba := (Below.refl w.heap.size w).alloc (Nat.le_refl _) (hsC k R A B I m)
  have hx := heap_alloc_new w (hsC k R A B I m)
  have h1 := h.below ba
  obtain ⟨q0, q1, q2, q3, q4, q5⟩ := hs_cells hx
  obtain ⟨c0, _⟩ := h1.cell
  have P := doS_any h1 hg hj g0 g1 m0 m1 k R A B I m
  have HB : Hid (Below base w (w.alloc (hsC k R A B I m)) ∧ ∀ F' w', Tn F (w.alloc (hsC k R A B I m)) F' w' → Below base (w.alloc (hsC k R A B I m)) w') := ⟨ba.mono h.bl, fun F' w' t => h1.low t⟩
  clear h h1 ba hx hg hj g0 g1 m0 m1
  generalize s.dos g most grow k R A B I m = D at *
  obtain ⟨cd, s2⟩ := D
  dsimp only at *
  go_enter Try.func16, Try.ntmps16
  go_wp2_with fail
  refine P.mono ?_
  clear P
  rintro e w2 ⟨F2, rfl, S2, t2⟩
  have H2 : Hid (_ ∧ _) := ⟨S2, HB.out.1.trans (HB.out.2 F2 w2 t2)⟩
  clear S2 t2 q0 q1 q2 q3 q4 q5 c0
  go_wp2_with fail
  go_ret
  exact ⟨F2, rfl, H2.out.1, H2.out.2⟩
end

theorem run_fld (x y : Value) (w : World) : Sem.run Try.prog (Instr.field 35 (.agg #[x, y]) 0) w = .ok x w := by
  unfold Instr.field
  simp [go_sem]
  rfl
theorem rest4 (t : Int) : ∃ r : Nat, r < 4 ∧ wrap64 ((IntKind.u64.wrap t).tmod 4) = r := by
  have h0 : 0 ≤ IntKind.u64.wrap t := by
    rw [IntKind.wrap_u64]
    omega
  generalize IntKind.u64.wrap t = u at *
  have h1 : u.tmod 4 = u % 4 := Int.tmod_eq_emod_of_nonneg h0
  rw [h1]
  refine ⟨(u % 4).toNat, by omega, ?_⟩
  unfold wrap64
  omega

set_option maxRecDepth 100000 in
set_option maxHeartbeats 8000000 in
theorem walk (n o : Int) (a : Option Addr) (cc : Nat) (l : List S6) (times : Int) (mj : Bool) (w : World) (hl : L6 w a l) :
    Calls Try.prog 4 #[.int .i64 n, .int .i64 o, .slice a l.length cc, .int .i64 times, .bool mj] w fun e w' => e = .returned (.bool true) ∧ Below w.heap.size w w' := by
  obtain ⟨g, hg⟩ := gfn_ex
  have HL : Hid (L6 w a l) := hl
  have HG : Hid (∀ T wt, Wiv T wt → Gok T wt (g T wt)) := hg
  clear hl hg
  by_cases hlen : 200 < l.length
  · go_enter Try.func4, Try.ntmps4
    go_wp2_with fail
    refine (groveBegun_any w).mono ?_
    rintro e w1 ⟨rfl, hb1⟩
    have h2 : (200 : Int) < (l.length : Int) := by omega
    go_wp2_with fail
    go_ret
    exact ⟨rfl, hb1⟩
  · have h2 : ¬ ((200 : Int) < (l.length : Int)) := by omega
    by_cases hno : n < 16 ∨ 256 < n ∨ o < 0 ∨ 1024 < o
    · have HNO : Hid (n < 16 ∨ 256 < n ∨ o < 0 ∨ 1024 < o) := hno
      clear hno
      go_enter Try.func4, Try.ntmps4
      go_wp2_with fail
      refine (groveBegun_any w).mono ?_
      rintro e w1 ⟨rfl, hb1⟩
      go_wp2_with fail
      refine (newG_no n o w1 HNO.out).mono ?_
      rintro e w2 ⟨rfl, hb2⟩
      have hB2 := hb1.trans (hb2.mono hb1.size)
      have hba := ((Below.refl w2.heap.size w2).alloc (Nat.le_refl _) (.cells #[.pointer none] 24)).alloc (by simp) (.cells #[.int .i64 1, .int .i64 (-1)] 26)
      have hB3 := hB2.trans (hba.mono hB2.size)
      clear hb1 hb2 hB2 hba
      go_wp2_with fail
      go_ret
      exact ⟨rfl, hB3⟩
    · have hn0 : 16 ≤ n ∧ n ≤ 256 ∧ 0 ≤ o ∧ o ≤ 1024 := by omega
      obtain ⟨n, rfl⟩ := Int.eq_ofNat_of_zero_le (show 0 ≤ n by omega)
      obtain ⟨o, rfl⟩ := Int.eq_ofNat_of_zero_le (show 0 ≤ o by omega)
      have HN : Hid (16 ≤ n ∧ n ≤ 256 ∧ o ≤ 1024) := ⟨by omega, by omega, by omega⟩
      clear hno hn0
      go_enter Try.func4, Try.ntmps4
      go_wp2_with fail
      refine (groveBegun_any w).mono ?_
      rintro e w1 ⟨rfl, hb1⟩
      go_wp2_with fail
      refine (newG_yes n o w1 HN.out.1 HN.out.2.1 HN.out.2.2).mono ?_
      rintro e w2 ⟨gp, rb, F1, rfl, J1, lo1, b1⟩
      have hba := ((Below.refl w2.heap.size w2).alloc (Nat.le_refl _) (.cells #[.pointer (some ⟨gp, 0, none⟩)] 24)).alloc (by simp) (.cells #[.int .i64 0, .int .i64 0] 26)
      have HS : Hid (Sg gp rb w2.heap.size w1.heap.size n o F1 ws0 0 ((w2.alloc (.cells #[.pointer (some ⟨gp, 0, none⟩)] 24)).alloc (.cells #[.int .i64 0, .int .i64 0] 26))) :=
        ⟨(grO gp n o rb).below J1 hba, Gi.start, (Below.heap_alloc _ _ _ (by simp)).trans (heap_alloc_new w2 _), fun d => by have := (grO gp n o rb).lt J1 _ d; omega, lo1, Nat.le_trans b1.size hba.size⟩
      have HB2 : Hid (Below w1.heap.size w1 ((w2.alloc (.cells #[.pointer (some ⟨gp, 0, none⟩)] 24)).alloc (.cells #[.int .i64 0, .int .i64 0] 26))) := b1.trans (hba.mono b1.size)
      clear J1 lo1 b1 hba
      go_upto_region 8 with fail
      generalize (w2.alloc (.cells #[.pointer (some ⟨gp, 0, none⟩)] 24)).alloc (.cells #[.int .i64 0, .int .i64 0] 26) = w3 at *
      generalize w2.heap.size = gb at *
      go_upto_region 10 with fail
      obtain ⟨r, hr4, er⟩ := rest4 times
      rw [er]
      clear er
      have hN := HN.out
      have m0 : (-1000000 : Int) ≤ n := by omega
      have m1 : (n : Int) ≤ 1000000 := by omega
      have g0 : (-1000000 : Int) ≤ o := by omega
      have g1 : (o : Int) ≤ 1000000 := by omega
      have HM : Hid ((-1000000 : Int) ≤ o ∧ (o : Int) ≤ 1000000 ∧ (-1000000 : Int) ≤ n ∧ (n : Int) ≤ 1000000) := ⟨g0, g1, m0, m1⟩
      have P1 := cl_any HS.out HG.out (by decide) g0 g1 m0 m1 8 0 0 0 0 0
      rw [show ws0.dos g n o 8 0 0 0 0 0 = _ from gA_1 g (by omega)] at P1
      dsimp only at P1
      clear m0 m1 g0 g1 hN
      go_wp2_with fail
      refine P1.mono ?_
      clear P1
      rintro e w4 ⟨F4, rfl, S4, b4⟩
      have P2 := cl_any S4 HG.out (by decide) HM.out.1 HM.out.2.1 HM.out.2.2.1 HM.out.2.2.2 1 2 0 0 0 77
      rw [gA_2 g] at P2
      dsimp only at P2
      have HB4 : Hid (Below w1.heap.size w1 w4) := HB2.out.trans b4
      clear S4 b4 HB2 HS
      go_wp2_with fail
      refine P2.mono ?_
      clear P2
      rintro e w5 ⟨F5, rfl, S5, b5⟩
      have P3 := cl_any S5 HG.out (by decide) HM.out.1 HM.out.2.1 HM.out.2.2.1 HM.out.2.2.2 5 1 2 0 0 3
      rw [gA_3 g (by have := HN.out; omega)] at P3
      dsimp only at P3
      have HB5 : Hid (Below w1.heap.size w1 w5) := HB4.out.trans b5
      clear S5 b5 HB4
      go_wp2_with fail
      refine P3.mono ?_
      clear P3
      rintro e w6 ⟨F6, rfl, S6_, b6⟩
      have HS6 : Hid (Sg gp rb gb w1.heap.size n o F6 (gA true 0) 3 w6) := S6_
      have HB6 : Hid (Below w1.heap.size w1 w6) := HB5.out.trans b6
      clear S6_ b6 HB5
      go_wp2_with fail
      go_loopw [15, 16] (fun bv iv wr => ∃ (j : Nat) (F : Nat → Prop), j ≤ r ∧ iv = .int .i64 j ∧ bv = .bool true ∧ Hid (Sg gp rb gb w1.heap.size n o F (gA true j) (3 + j) wr) ∧ Hid (Below w1.heap.size w1 wr)) (fun _ iv _ => r - (intOf iv).toNat)
      case atStart => exact ⟨0, F6, Nat.zero_le _, rfl, rfl, HS6, HB6⟩
      case round =>
        clear HS6 HB6
        obtain ⟨j, F, hj, rfl, rfl, HS, HB⟩ := hrel
        by_cases hlt : j < r
        · have j1 : (j : Int) < (r : Int) := by omega
          have P := cl_any HS.out HG.out (by omega) HM.out.1 HM.out.2.1 HM.out.2.2.1 HM.out.2.2.2 9 0 1 0 0 0
          rw [gA_reg g (by omega)] at P
          dsimp only at P
          go_wp2_with fail
          refine P.mono ?_
          clear P
          rintro e w7 ⟨F7, rfl, S7, b7⟩
          have HS7 : Hid (Sg gp rb gb w1.heap.size n o F7 (gA true (j + 1)) (3 + (j + 1)) w7) := S7
          have HB7 : Hid (Below w1.heap.size w1 w7) := HB.out.trans b7
          clear S7 b7
          go_wp2_with fail
          go_roundw
          case rel => exact ⟨j + 1, F7, by omega, by go_num, rfl, HS7, HB7⟩
          case measure => simp [intOf]; omega
        · obtain rfl : j = r := by omega
          have j1 : ¬ ((j : Int) < (j : Int)) := by omega
          have P := cl_any HS.out HG.out (by omega) HM.out.1 HM.out.2.1 HM.out.2.2.1 HM.out.2.2.2 2 1 0 0 0 0
          rw [gA_nil g] at P
          dsimp only at P
          go_wp2_with fail
          refine P.mono ?_
          clear P
          rintro e w7 ⟨F7, rfl, S7, b7⟩
          have HS7 : Hid (Sg gp rb gb w1.heap.size n o F7 (gA false j) (4 + j) w7 ∧ Gd j (gA false j)) := ⟨by rw [show 4 + j = 3 + j + 1 by omega]; exact S7, gA_gd j⟩
          have HB7 : Hid (Below w1.heap.size w1 w7) := HB.out.trans b7
          clear S7 b7 HS HB
          as_aux_lemma =>
          go_wp2_with fail
          go_loopw [17] (fun iv wr => ∃ (i : Nat) (s : Wrs) (F : Nat → Prop), i ≤ l.length ∧ iv = .int .i64 i ∧ Hid (Sg gp rb gb w1.heap.size n o F s (4 + j + i) wr ∧ Gd j s) ∧ Hid (Below w1.heap.size w1 wr)) (fun iv _ => l.length - (intOf iv).toNat)
          case atStart => exact ⟨0, _, F7, Nat.zero_le _, rfl, HS7, HB7⟩
          case round =>
            clear HS7 HB7
            obtain ⟨i, s, F, hi, rfl, HS, HB⟩ := hrel
            by_cases hil : i < l.length
            · obtain ⟨b0, p0, e0, l0, hc⟩ := HL.out (by omega)
              obtain ⟨hc6, _, hR64, _⟩ := hc i hil
              subst e0
              clear hc
              have hbw := hb1.trans (HB.out.mono hb1.size)
              obtain ⟨y0, y1, y2, y3, y4, y5⟩ := hc6.below hbw l0
              have i0 : (0 : Int) ≤ (i : Int) := by omega
              have i1 : (i : Int) < (l.length : Int) := by omega
              generalize l.getD i s60 = st at *
              obtain ⟨sk, sR, sA, sB, sI, sn⟩ := st
              dsimp only at *
              have hba := (Below.refl wr.heap.size wr).alloc (Nat.le_refl _) (hsC sk sR sA sB sI sn)
              have HS4 : Hid (Sg gp rb gb w1.heap.size n o F s (4 + j + i) (wr.alloc (hsC sk sR sA sB sI sn)) ∧ Gd j s) := ⟨HS.out.1.below hba, HS.out.2⟩
              have HB4 : Hid (Below w1.heap.size w1 (wr.alloc (hsC sk sR sA sB sI sn))) := HB.out.trans (hba.mono HB.out.size)
              have hx := heap_alloc_new wr (hsC sk sR sA sB sI sn)
              have U := usesR_any sk
              clear HS HB hba hc6 hbw
              go_upto_region 21 with fail
              generalize wr.alloc (hsC sk sR sA sB sI sn) = w8 at *
              generalize wr.heap.size = xb at *
              obtain ⟨z0, z1, z2, z3, z4, z5⟩ := hs_cells hx
              obtain ⟨c0, _⟩ := HS4.out.1.cell
              clear y0 y1 y2 y3 y4 y5 hx
              have HSK : Hid (Sg gp rb gb w1.heap.size n o F s (4 + j + (i + 1)) w8 ∧ Gd j s) := ⟨{ HS4.out.1 with gi := HS4.out.1.gi.more (by omega) }, HS4.out.2⟩
              have HDO : Hid (sk ≠ 9 → sk ≠ 10 → sk ≠ 15 → sk ≠ 16 → (usK sk = 1 ∨ usK sk = 3 ∨ usK sk = 7 → 2 < sR) → (usK sk = 3 ∨ usK sk = 6 ∨ usK sk = 7 → sA ≠ 0) → (usK sk = 6 ∨ usK sk = 7 → sB ≠ 0) → Calls Try.prog 8 #[.pointer (some ⟨gp, 0, none⟩), hsV sk sR sA sB sI sn] w8 fun e w' => ∃ c s2 F2, e = .returned (.int .i64 c) ∧ Hid (Sg gp rb gb w1.heap.size n o F2 s2 (4 + j + (i + 1)) w' ∧ Gd j s2) ∧ Hid (Below w1.heap.size w1 w')) := fun k9 k10 k15 k16 hR hA hB => by
                refine (doS_any HS4.out.1 HG.out (by omega) HM.out.1 HM.out.2.1 HM.out.2.2.1 HM.out.2.2.2 sk sR sA sB sI sn).mono ?_
                rintro e w' ⟨F2, rfl, S2, t2⟩
                exact ⟨_, _, F2, rfl, ⟨by rw [show 4 + j + (i + 1) = 4 + j + i + 1 by omega]; exact S2, HS4.out.2.dos HS4.out.1.gi (by omega) (HG.out _ _ HS4.out.1.gi.iv) sk sR sA sB sI sn k9 k10 k15 k16 hR hA hB⟩, HB4.out.trans (HS4.out.1.low t2)⟩
              clear HS4
              as_aux_lemma =>
              have key : ((sk < 1 ∨ 16 < sk) ∨ sk = 9 ∨ sk = 10 ∨ sk = 15 ∨ sk = 16) ∨ ((sk = 1 ∨ sk = 2 ∨ sk = 8) ∨ (sk = 3 ∨ sk = 5 ∨ sk = 11 ∨ sk = 13) ∨ (sk = 4 ∨ sk = 6 ∨ sk = 7 ∨ sk = 14) ∨ sk = 12) := by omega
              rcases key with (hk | rfl | rfl | rfl | rfl) | hk
              · -- no such kind
                have hu := usK_no hk
                rw [hu] at U
                clear HDO
                go_wp2_with fail
                refine (U w8).mono ?_
                rintro e w9 ⟨rfl, hw9⟩
                subst hw9
                go_wp2_with fail
                go_roundw
                case rel => exact ⟨i + 1, s, F, by omega, by go_num, HSK, HB4⟩
                case measure => simp [intOf]; omega
              · have U : ∀ w, Calls Try.prog 17 #[.int .i64 9] w fun e w' => e = .returned (.int .i64 6) ∧ w' = w := U
                clear HDO
                go_wp2_with fail
                refine (U w8).mono ?_
                rintro e w9 ⟨rfl, hw9⟩
                subst hw9
                go_wp2_with fail
                go_roundw
                case rel => exact ⟨i + 1, s, F, by omega, by go_num, HSK, HB4⟩
                case measure => simp [intOf]; omega
              · have U : ∀ w, Calls Try.prog 17 #[.int .i64 10] w fun e w' => e = .returned (.int .i64 3) ∧ w' = w := U
                clear HDO
                go_wp2_with fail
                refine (U w8).mono ?_
                rintro e w9 ⟨rfl, hw9⟩
                subst hw9
                go_wp2_with fail
                go_roundw
                case rel => exact ⟨i + 1, s, F, by omega, by go_num, HSK, HB4⟩
                case measure => simp [intOf]; omega
              · have U : ∀ w, Calls Try.prog 17 #[.int .i64 15] w fun e w' => e = .returned (.int .i64 0) ∧ w' = w := U
                clear HDO
                go_wp2_with fail
                refine (U w8).mono ?_
                rintro e w9 ⟨rfl, hw9⟩
                subst hw9
                go_wp2_with fail
                go_roundw
                case rel => exact ⟨i + 1, s, F, by omega, by go_num, HSK, HB4⟩
                case measure => simp [intOf]; omega
              · have U : ∀ w, Calls Try.prog 17 #[.int .i64 16] w fun e w' => e = .returned (.int .i64 0) ∧ w' = w := U
                clear HDO
                go_wp2_with fail
                refine (U w8).mono ?_
                rintro e w9 ⟨rfl, hw9⟩
                subst hw9
                go_wp2_with fail
                go_roundw
                case rel => exact ⟨i + 1, s, F, by omega, by go_num, HSK, HB4⟩
                case measure => simp [intOf]; omega
              · have k9 : sk ≠ 9 := by omega
                have k10 : sk ≠ 10 := by omega
                have k15 : sk ≠ 15 := by omega
                have k16 : sk ≠ 16 := by omega
                have k9b : (sk == 9) = false := by simpa using k9
                have k10b : (sk == 10) = false := by simpa using k10
                have k15b : (sk == 15) = false := by simpa using k15
                have k16b : (sk == 16) = false := by simpa using k16
                have HDO := HDO.out k9 k10 k15 k16
                rcases hk with hk | hk | hk | hk
                · have hu : usK sk = 1 := by rcases hk with rfl | rfl | rfl <;> rfl
                  rw [hu] at U HDO
                  clear hk hu k9 k10 k15 k16
                  have HX : Hid (2 < sR → _) := fun hR => HDO (fun _ => hR) (fun c => by omega) (fun c => by omega)
                  clear HDO
                  by_cases hR : sR ≤ 2
                  · clear HX
                    go_wp2_with fail
                    refine (U w8).mono ?_
                    rintro e w9 ⟨rfl, hw9⟩
                    subst hw9
                    go_wp2_with fail
                    go_roundw
                    case rel => exact ⟨i + 1, s, F, by omega, by go_num, HSK, HB4⟩
                    case measure => simp [intOf]; omega
                  · have PD := HX.out (by omega)
                    clear HX
                    go_wp2_with fail
                    refine (U w8).mono ?_
                    rintro e w9 ⟨rfl, hw9⟩
                    subst hw9
                    go_wp2_with fail
                    refine PD.mono ?_
                    clear PD
                    rintro e w10 ⟨c, s2, F2, rfl, HS2, HB10⟩
                    go_wp2_with fail
                    go_roundw
                    case rel => exact ⟨i + 1, s2, F2, by omega, by go_num, HS2, HB10⟩
                    case measure => simp [intOf]; omega
                · have hu : usK sk = 3 := by rcases hk with rfl | rfl | rfl | rfl <;> rfl
                  rw [hu] at U HDO
                  clear hk hu k9 k10 k15 k16
                  have HX : Hid (2 < sR → sA ≠ 0 → _) := fun hR hA => HDO (fun _ => hR) (fun _ => hA) (fun c => by omega)
                  clear HDO
                  by_cases hR : sR ≤ 2
                  · clear HX
                    go_wp2_with fail
                    refine (U w8).mono ?_
                    rintro e w9 ⟨rfl, hw9⟩
                    subst hw9
                    go_wp2_with fail
                    go_roundw
                    case rel => exact ⟨i + 1, s, F, by omega, by go_num, HSK, HB4⟩
                    case measure => simp [intOf]; omega
                  · by_cases hA : sA = 0
                    · clear HX
                      go_wp2_with fail
                      refine (U w8).mono ?_
                      rintro e w9 ⟨rfl, hw9⟩
                      subst hw9
                      go_wp2_with fail
                      go_roundw
                      case rel => exact ⟨i + 1, s, F, by omega, by go_num, HSK, HB4⟩
                      case measure => simp [intOf]; omega
                    · have PD := HX.out (by omega) hA
                      have hAb : (sA == 0) = false := by simpa using hA
                      clear HX
                      go_wp2_with fail
                      refine (U w8).mono ?_
                      rintro e w9 ⟨rfl, hw9⟩
                      subst hw9
                      go_wp2_with fail
                      refine PD.mono ?_
                      clear PD
                      rintro e w10 ⟨c, s2, F2, rfl, HS2, HB10⟩
                      go_wp2_with fail
                      go_roundw
                      case rel => exact ⟨i + 1, s2, F2, by omega, by go_num, HS2, HB10⟩
                      case measure => simp [intOf]; omega
                · have hu : usK sk = 7 := by rcases hk with rfl | rfl | rfl | rfl <;> rfl
                  rw [hu] at U HDO
                  clear hk hu k9 k10 k15 k16
                  have HX : Hid (2 < sR → sA ≠ 0 → sB ≠ 0 → _) := fun hR hA hB => HDO (fun _ => hR) (fun _ => hA) (fun _ => hB)
                  clear HDO
                  by_cases hR : sR ≤ 2
                  · clear HX
                    go_wp2_with fail
                    refine (U w8).mono ?_
                    rintro e w9 ⟨rfl, hw9⟩
                    subst hw9
                    go_wp2_with fail
                    go_roundw
                    case rel => exact ⟨i + 1, s, F, by omega, by go_num, HSK, HB4⟩
                    case measure => simp [intOf]; omega
                  · by_cases hA : sA = 0
                    · clear HX
                      go_wp2_with fail
                      refine (U w8).mono ?_
                      rintro e w9 ⟨rfl, hw9⟩
                      subst hw9
                      go_wp2_with fail
                      go_roundw
                      case rel => exact ⟨i + 1, s, F, by omega, by go_num, HSK, HB4⟩
                      case measure => simp [intOf]; omega
                    · have hAb : (sA == 0) = false := by simpa using hA
                      by_cases hB : sB = 0
                      · clear HX
                        go_wp2_with fail
                        refine (U w8).mono ?_
                        rintro e w9 ⟨rfl, hw9⟩
                        subst hw9
                        go_wp2_with fail
                        go_roundw
                        case rel => exact ⟨i + 1, s, F, by omega, by go_num, HSK, HB4⟩
                        case measure => simp [intOf]; omega
                      · have PD := HX.out (by omega) hA hB
                        have hBb : (sB == 0) = false := by simpa using hB
                        clear HX
                        go_wp2_with fail
                        refine (U w8).mono ?_
                        rintro e w9 ⟨rfl, hw9⟩
                        subst hw9
                        go_wp2_with fail
                        refine PD.mono ?_
                        clear PD
                        rintro e w10 ⟨c, s2, F2, rfl, HS2, HB10⟩
                        go_wp2_with fail
                        go_roundw
                        case rel => exact ⟨i + 1, s2, F2, by omega, by go_num, HS2, HB10⟩
                        case measure => simp [intOf]; omega
                · subst hk
                  have U : ∀ w, Calls Try.prog 17 #[.int .i64 12] w fun e w' => e = .returned (.int .i64 6) ∧ w' = w := U
                  clear k9 k10 k15 k16 k9b k10b k15b k16b
                  have HX : Hid (sA ≠ 0 → sB ≠ 0 → _) := fun hA hB => HDO (fun c => by exact absurd c (by decide)) (fun _ => hA) (fun _ => hB)
                  clear HDO
                  by_cases hA : sA = 0
                  · clear HX
                    go_wp2_with fail
                    refine (U w8).mono ?_
                    rintro e w9 ⟨rfl, hw9⟩
                    subst hw9
                    go_wp2_with fail
                    go_roundw
                    case rel => exact ⟨i + 1, s, F, by omega, by go_num, HSK, HB4⟩
                    case measure => simp [intOf]; omega
                  · have hAb : (sA == 0) = false := by simpa using hA
                    by_cases hB : sB = 0
                    · clear HX
                      go_wp2_with fail
                      refine (U w8).mono ?_
                      rintro e w9 ⟨rfl, hw9⟩
                      subst hw9
                      go_wp2_with fail
                      go_roundw
                      case rel => exact ⟨i + 1, s, F, by omega, by go_num, HSK, HB4⟩
                      case measure => simp [intOf]; omega
                    · have PD := HX.out hA hB
                      have hBb : (sB == 0) = false := by simpa using hB
                      clear HX
                      go_wp2_with fail
                      refine (U w8).mono ?_
                      rintro e w9 ⟨rfl, hw9⟩
                      subst hw9
                      go_wp2_with fail
                      refine PD.mono ?_
                      clear PD
                      rintro e w10 ⟨c, s2, F2, rfl, HS2, HB10⟩
                      go_wp2_with fail
                      go_roundw
                      case rel => exact ⟨i + 1, s2, F2, by omega, by go_num, HS2, HB10⟩
                      case measure => simp [intOf]; omega
            · obtain rfl : i = l.length := by omega
              have i1 : ¬ ((l.length : Int) < (l.length : Int)) := by omega
              obtain ⟨c0, _⟩ := HS.out.1.cell
              have PC : ∀ k : Int, k = 15 ∨ k = 16 → Calls Try.prog 8 #[.pointer (some ⟨gp, 0, none⟩), hsV k 0 0 0 0 0] wr fun e w' => ∃ cd s2 F2, e = .returned (.int .i64 cd) ∧ Hid (Sg gp rb gb w1.heap.size n o F2 s2 500 w') ∧ Hid (Gq j s2 ∨ (0 < j ∧ cd ≠ 0 ∧ Gq 0 s2)) ∧ Hid (Below w1.heap.size w1 w') := fun k hk => by
                have hgk := HG.out _ _ HS.out.1.gi.iv
                have e1 : ∃ b, s.dos g n o k 0 0 0 0 0 = (s.ccd (g s.T s.wt) o b, s.cut (g s.T s.wt) o b) := by
                  unfold Wrs.dos
                  rcases hk with rfl | rfl
                  · exact ⟨false, by rw [if_pos (by decide), if_neg (by decide), if_neg (by decide), if_pos rfl]⟩
                  · exact ⟨true, by rw [if_pos (by decide), if_neg (by decide), if_neg (by decide), if_neg (by decide), if_pos rfl]⟩
                obtain ⟨b, e1⟩ := e1
                have P := doS_any HS.out.1 HG.out (by omega) HM.out.1 HM.out.2.1 HM.out.2.2.1 HM.out.2.2.2 k 0 0 0 0 0
                rw [e1] at P
                obtain ⟨d1, d2⟩ := HS.out.2.cut HS.out.1.gi (by omega) hgk (mj := b) (o : Int)
                refine P.mono ?_
                rintro e w' ⟨F2, rfl, S2, t2⟩
                refine ⟨_, _, F2, rfl, { S2 with gi := S2.gi.more (by omega) }, ?_, HB.out.trans (HS.out.1.low t2)⟩
                by_cases c : s.ccd (g s.T s.wt) o b = 0
                · exact Or.inl (d1.gq S2.gi (d2 c))
                · rcases d1.ph with ⟨_, p2, _⟩ | ⟨_, p2⟩
                  · by_cases cj : j = 0
                    · subst cj
                      exact Or.inl (d1.gq S2.gi p2)
                    · exact Or.inr ⟨by omega, c, ⟨d1.r0, S2.gi.rl, d1.a0.2, fun c => by omega, p2⟩⟩
                  · exact Or.inl (d1.gq S2.gi p2)
              have HPC : Hid (_) := PC
              clear PC HS HB hlt hi
              as_aux_lemma =>
              cases mj
              case' false =>
                have PK := HPC.out 15 (Or.inl rfl)
              case' true =>
                have PK := HPC.out 16 (Or.inr rfl)
              all_goals
                clear HPC
                go_wp2_with fail
                refine PK.mono ?_
                clear PK
                rintro e w9 ⟨cd, s2, F2, rfl, HS2, HQ2, HB9⟩
                clear c0
                go_wp2_with fail
                go_loopw [22] (fun iv wr => ∃ (i : Nat) (s : Wrs) (F : Nat → Prop), i ≤ j ∧ iv = .int .i64 i ∧ Hid (Sg gp rb gb w1.heap.size n o F s (500 + 2 * i) wr) ∧ Hid (Gq (j - i) s ∨ (i = 0 ∧ 0 < j ∧ cd ≠ 0 ∧ Gq 0 s)) ∧ Hid (Below w1.heap.size w1 wr)) (fun iv _ => j - (intOf iv).toNat)
                case atStart => exact ⟨0, s2, F2, Nat.zero_le _, rfl, HS2, HQ2.out.imp id (fun ⟨h1, h2, h3⟩ => ⟨rfl, h1, h2, h3⟩), HB9⟩
                case round =>
                  clear HS2 HQ2 HB9
                  obtain ⟨i, s, F, hi, rfl, HS, HQ, HB⟩ := hrel
                  obtain ⟨c0, _⟩ := HS.out.cell
                  have P1 := doS_any HS.out HG.out (by omega) HM.out.1 HM.out.2.1 HM.out.2.2.1 HM.out.2.2.2 10 1 0 0 0 0
                  by_cases hij : i < j
                  · have i1 : (i : Int) < (j : Int) := by omega
                    rcases HQ.out with hq | ⟨rfl, hp, hcd, hq⟩
                    · obtain ⟨m, hm⟩ : ∃ m, j - i = m + 1 := ⟨j - i - 1, by omega⟩
                      rw [hm] at hq
                      rw [gq_pop hq] at P1
                      dsimp only at P1
                      have HQ2 : Hid (Gq (m + 1) s ∧ m = j - (i + 1)) := ⟨hq, by omega⟩
                      clear hq HQ hm
                      go_wp2_with fail
                      refine P1.mono ?_
                      clear P1
                      rintro e w10 ⟨F10, rfl, S10, t10⟩
                      have b10 := HS.out.low t10
                      obtain ⟨c1, _⟩ := S10.cell
                      have P2 := doS_any S10 HG.out (by omega) HM.out.1 HM.out.2.1 HM.out.2.2.1 HM.out.2.2.2 11 1 1 0 2 0
                      rw [gq_get HQ2.out.1] at P2
                      dsimp only at P2
                      have HX : Hid (Below w1.heap.size w1 w10 ∧ ∀ F' w', Tn F10 w10 F' w' → Below w1.heap.size w10 w') := ⟨HB.out.trans b10, fun F' w' t => S10.low t⟩
                      clear S10 t10 b10 c0 HS HB
                      go_wp2_with fail
                      refine P2.mono ?_
                      clear P2
                      rintro e w11 ⟨F11, rfl, S11, t11⟩
                      have HB11 : Hid (Below w1.heap.size w1 w11) := HX.out.1.trans (HX.out.2 _ _ t11)
                      obtain ⟨c2, _⟩ := S11.cell
                      have PV := viewS_any' S11 (by omega)
                      have e77 := vw_o S11.gi 1 (by decide) (by
                        show ((s.rs.set 1 (1, 77)).getD 1 (0, 0)).1 ≠ 3
                        rw [List.getD_eq_getElem?_getD, List.getElem?_set_self (by rw [HQ2.out.1.rl]; decide)]
                        decide)
                      have e78 : ((s.rs.set 1 (1, 77)).getD 1 (0, 0)) = (1, 77) := by
                        rw [List.getD_eq_getElem?_getD, List.getElem?_set_self (by rw [HQ2.out.1.rl]; decide)]
                        rfl
                      dsimp only at e77
                      rw [e78] at e77
                      have hl12 : (Vr4.vwW s.T (List.replicate m (0, 1)) (s.rs.set 1 (1, 77))).1.length = 12 := by
                        unfold Vr4.vwW
                        rw [vls_len, List.length_map, List.length_set]
                        exact HQ2.out.1.rl
                      have HS11 : Hid (Sg gp rb gb w1.heap.size n o F11 { s with rs := s.rs.set 1 (1, 77), wt := List.replicate m (0, 1) } (500 + 2 * (i + 1)) w11) := by
                        show Sg _ _ _ _ _ _ _ _ _ _
                        rw [show 500 + 2 * (i + 1) = 500 + 2 * i + 1 + 1 by omega]
                        exact S11
                      have HQ3 : Hid (Gq (j - (i + 1)) { s with rs := s.rs.set 1 (1, 77), wt := List.replicate m (0, 1) }) := by
                        show Gq _ _
                        rw [← HQ2.out.2]
                        exact gq_next HQ2.out.1
                      have HE : Hid (_ ∧ _) := ⟨e77, hl12⟩
                      clear S11 t11 c1 e77 e78 hl12 HX HQ2
                      dsimp only at PV
                      generalize Vr4.vwW s.T (List.replicate m (0, 1)) (s.rs.set 1 (1, 77)) = R at *
                      generalize ({ s with rs := s.rs.set 1 (1, 77), wt := List.replicate m (0, 1) } : Wrs) = s3 at *
                      have RF := @run_fld
                      go_wp2_with fail
                      refine PV.mono ?_
                      clear PV
                      rintro e w12 ⟨r2, d2, na, nc, rfl, hLp, _, b12⟩
                      obtain ⟨vb, vo, ev, _, hcl⟩ := hLp.1 (by rw [HE.out.2]; decide)
                      have hc1 := (hcl 1 (by rw [HE.out.2]; decide)).2
                      rw [HE.out.1] at hc1
                      have hc2 : w12.cell? ⟨vb, vo + 3, none⟩ = some (.int .i64 77) := hc1
                      have hc3 : w12.cell? ⟨vb, vo + 2 + 1, none⟩ = some (.int .i64 77) := hc1
                      subst ev
                      have HS12 : Hid (_) := HS11.out.below b12
                      have HB12 : Hid (Below w1.heap.size w1 w12) := HB11.out.trans (b12.mono HB11.out.size)
                      clear hLp b12 hcl HE HS11 HB11 c2
                      go_wp2_with fail
                      go_roundw
                      case rel => exact ⟨i + 1, s3, F11, by omega, by go_num, HS12, Or.inl HQ3.out, HB12⟩
                      case measure => simp [intOf]; omega
                    · rw [gq_none hq] at P1
                      dsimp only at P1
                      have hcb : (cd != 0) = true := by simpa using hcd
                      clear hcd hq HQ
                      go_wp2_with fail
                      refine P1.mono ?_
                      clear P1
                      rintro e w10 ⟨F10, rfl, S10, t10⟩
                      have HB10 : Hid (Below w.heap.size w w10) := hb1.trans ((HB.out.trans (HS.out.low t10)).mono hb1.size)
                      clear S10 t10 c0
                      go_wp2_with fail
                      go_ret
                      exact ⟨rfl, HB10.out⟩
                  · obtain rfl : i = j := by omega
                    have i1 : ¬ ((i : Int) < (i : Int)) := by omega
                    have hq : Gq 0 s := by
                      rcases HQ.out with hq | ⟨h1, h2, _⟩
                      · rwa [Nat.sub_self] at hq
                      · omega
                    rw [gq_none hq] at P1
                    dsimp only at P1
                    clear hq HQ
                    go_wp2_with fail
                    refine P1.mono ?_
                    clear P1
                    rintro e w10 ⟨F10, rfl, S10, t10⟩
                    have HB10 : Hid (Below w.heap.size w w10) := hb1.trans ((HB.out.trans (HS.out.low t10)).mono hb1.size)
                    clear S10 t10 c0
                    go_wp2_with fail
                    go_ret
                    exact ⟨rfl, HB10.out⟩

end Go.Proofs.Ytjhnhbeimjnloaa.GGs

/- GroveGuards: at whatever two numbers, whatever list of steps, whatever number of times and whichever cut it returns true, in whatever memory, without conditions; nothing that was in memory turns. -/
namespace Go.Proofs.Ytjhnhbeimjnloaa.GGs
open Go.ChangeShapes Go.WideShapes Go.ChangeAt Go.RowKit Go.Joins W

theorem own : ownKnob Try.prog.godebug = none := by kernel_rfl
theorem laidOut : laidOutB Try.prog = true := by kernel_rfl

set_option maxRecDepth 100000 in
theorem lifted (os : Os) (started : os.Started) (H : Type) (enc : TypeId × Value → H) :
    ReturnsInHanded {} Try.checked os 4 .any (Rows.groveGuardsSpec.pre6 enc Try.prog Try.f4 Rows.groveGuardsRow.domain false) (Rows.groveGuardsSpec.post enc Try.prog Try.f4 false true false false) := by
  refine returnsInHanded_of_change (C := Try.checked) own started (by kernel_rfl) Try.func4
    (ChangeSpec.witness6 (enc := enc) (C := Try.checked) false ⟨#[], #[.int .i64 0, .int .i64 0, .slice none 0 0, .int .i64 0, .bool false], []⟩ 8 (by kernel_rfl) (by kernel_rfl) (by kernel_rfl) (by kernel_rfl)) ?_
  intro W base args ds gs before hval0 hW hcnd _
  have hval : ∀ (j : Nat) t v, Try.f4.params[j]? = some t → args[j]? = some v → Value.okWide Try.prog W .any base t v := hval0
  have hW' := hW
  obtain ⟨p, q, hA0, hV, rfl, hfz, hnd⟩ := hW
  have hA : DataW.TrodAll enc Try.prog W 0 (fun _ => true) true Try.f4.params.toList args.toList ds p := hA0
  rw [Try.params4] at hA hval
  obtain ⟨v0, vs0, d0, ds0, p0, q0, hargs, rfl, rfl, h0, r0⟩ := trodAll_cons hA
  obtain ⟨v1, vs1, d1, ds1, p1, q1, rfl, rfl, rfl, h1, r1⟩ := trodAll_cons r0
  obtain ⟨v2, vs2, d2, ds2, p2, q2, rfl, rfl, rfl, h2, r2⟩ := trodAll_cons r1
  obtain ⟨v3, vs3, d3, ds3, p3, q3, rfl, rfl, rfl, h3, r3⟩ := trodAll_cons r2
  obtain ⟨v4, vs4, d4, ds4, p4, q4, rfl, rfl, rfl, h4, r4⟩ := trodAll_cons r3
  obtain ⟨rfl, rfl, rfl⟩ := trodAll_nil r4
  obtain rfl : args = #[v0, v1, v2, v3, v4] := by cases args; simp_all
  obtain ⟨rfl, rfl⟩ := trodVars_none hV
  obtain ⟨a0, rfl, rfl, rfl, w0⟩ := open_int Try.underlying3 (hval 0 3 v0 rfl rfl) h0
  obtain ⟨a1, rfl, rfl, rfl, w1⟩ := open_int Try.underlying3 (hval 1 3 v1 rfl rfl) h1
  obtain ⟨a2, len2, cap2, rfl⟩ := okWide_slice Try.underlying22 (hval 2 22 v2 rfl rfl)
  have k2 := h2
  have lt2 : ∀ x ∈ p2, x.block < W.heap.size := by obtain ⟨m, hm⟩ := k2; exact DataW.trod_lt m _ _ _ hm
  obtain ⟨fuel2, hf2⟩ := h2
  obtain ⟨S2, rfl, st2⟩ := open_heaps hf2
  obtain ⟨a3, rfl, rfl, rfl, w3⟩ := open_int Try.underlying3 (hval 3 3 v3 rfl rfl) h3
  obtain ⟨a4, rfl, rfl, rfl⟩ := open_bool Try.underlying4 (hval 4 4 v4 rfl rfl) h4
  clear hA0 hval0
  refine (walk a0 a1 a2 cap2 S2 a3 a4 W st2).mono fun e W' ⟨he, bel⟩ => ?_
  subst he
  exact ⟨_, rfl, _, _, _, [], _, [], hW', trodAll_mk1 (shut_bool Try.underlying4 _), (trodAll_cons_mk (shut_int Try.underlying3 w0) (trodAll_cons_mk (shut_int Try.underlying3 w1) (trodAll_cons_mk (Below.trod laidOut (by kernel_rfl) (of_decide_eq_true (by kernel_rfl)) k2 bel lt2) (trodAll_cons_mk (shut_int Try.underlying3 w3) (trodAll_cons_mk (shut_bool Try.underlying4 _) trodAll_mk0))))), rfl, bel.frame _, fun h => by cases h⟩

theorem over : Rows.groveGuardsRow.holds Try.pinned (OpenSpec.ofChange Rows.groveGuardsSpec) :=
  OpenClaim.holds_of_wide 4 Try.f4 rfl rfl rfl rfl rfl rfl rfl ⟨rfl, rfl, rfl, rfl, rfl⟩ rfl rfl rfl rfl rfl (by kernel_rfl) Try.func4 (by kernel_rfl)
    (of_decide_eq_true (by kernel_rfl)) (by unfold Func.isWrapper; first | (rw [if_pos (by decide +kernel)]; kernel_rfl) | (rw [if_neg (by decide +kernel)]; exact ⟨rfl, rfl⟩))
    (fun os started H enc _ => lifted os started H enc)

/-- THE STATEMENT. -/
theorem proved : Rows.GroveGuardsSaid :=
  over
#print axioms proved
end Go.Proofs.Ytjhnhbeimjnloaa.GGs
