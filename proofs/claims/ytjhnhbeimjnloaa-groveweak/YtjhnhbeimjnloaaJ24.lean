/- Joined: GWk, GWkP. -/
import Derived.Test.YtjhnhbeimjnloaaJ22
import Derived.Test.YtjhnhbeimjnloaaJ23
import Derived.Test.YtjhnhbeimjnloaaRows
import Derived.ProofKit
import Derived.OpenShut
import Derived.Lib.SmallJoins
import Derived.ShutString
import Derived.ChangeOld
import Derived.Below
/- GroveWeak: its walk. -/
namespace Go.Proofs.Ytjhnhbeimjnloaa.GWk
open Go.RowKit W Kp Stl

structure Sw (gp rb gb ob base : Nat) (most grow : Int) (F : Nat → Prop) (s : Wrs) (j : Nat) (b : Bool) (w : World) : Prop where
  sg : Sg gp rb gb base most grow F s j w
  oc : w.heap[ob]? = some (.cells #[.bool b] 4 (0, 0))
  nf : ¬ F ob
  ne : gb ≠ ob
  bl : base ≤ ob
section
variable {gp rb gb ob base j : Nat} {most grow : Int} {F : Nat → Prop} {s : Wrs} {b : Bool} {w w' : World} {g : Gfn}
theorem Sw.below (h : Sw gp rb gb ob base most grow F s j b w) (hb : Below w.heap.size w w') : Sw gp rb gb ob base most grow F s j b w' := { h with sg := h.sg.below hb, oc := (hb.block ob (lt_of_some h.oc)).trans h.oc }
theorem Sw.set (h : Sw gp rb gb ob base most grow F s j b w) (c : Bool) : Sw gp rb gb ob base most grow F s j c (w.setCell ⟨ob, 0, none⟩ (.bool c)) ∧ Below base w (w.setCell ⟨ob, 0, none⟩ (.bool c)) := by
  have f : Fr (fun k => k = ob) w (w.setCell ⟨ob, 0, none⟩ (.bool c)) := (Fr.refl (fun k => k = ob) w).set ob 0 _ rfl
  refine ⟨⟨⟨(grO gp most grow rb).keep h.sg.J f.size (fun k d => f.block k ((grO gp most grow rb).lt h.sg.J k d) (fun e => h.nf (by rw [← (show k = ob from e)]; exact d))), h.sg.gi, (f.block gb (lt_of_some h.sg.cg) (fun e => h.ne e)).trans h.sg.cg, h.sg.nf, h.sg.lo, Nat.le_trans h.sg.bl f.size⟩, ?_, h.nf, h.ne, h.bl⟩, f.below h.sg.bl (fun k e => by have e : k = ob := e; rw [e]; exact h.bl)⟩
  simp only [World.setCell, Array.getElem?_modify, if_true, h.oc, Option.map_some]
  rfl

set_option maxRecDepth 100000 in
set_option maxHeartbeats 2000000 in
theorem cl_any (h : Sw gp rb gb ob base most grow F s j b w) (hg : ∀ T wt, Wiv T wt → Gok T wt (g T wt)) (hj : j ≤ 9000) (g0 : -1000000 ≤ grow) (g1 : grow ≤ 1000000) (m0 : -1000000 ≤ most) (m1 : most ≤ 1000000) (k R A B I m : Int) :
    Calls Try.prog 18 #[hsV k R A B I m, .pointer (some ⟨ob, 0, none⟩), .pointer (some ⟨gb, 0, none⟩)] w fun e w' => ∃ F' b' s', e = .returned (.tuple #[]) ∧ Hid (Sw gp rb gb ob base most grow F' s' (j + 1) b' w') ∧ Hid (b' = true → b = true ∧ s.dos g most grow k R A B I m = (0, s')) ∧ Hid (Below base w w') := by
  have ba := (Below.refl w.heap.size w).alloc (Nat.le_refl _) (hsC k R A B I m)
  have hx := heap_alloc_new w (hsC k R A B I m)
  have h1 := h.below ba
  obtain ⟨q0, q1, q2, q3, q4, q5⟩ := hs_cells hx
  obtain ⟨c0, _⟩ := h1.sg.cell
  have c1 : (w.alloc (hsC k R A B I m)).cell? ⟨ob, 0, none⟩ = some (.bool b) := by simp only [World.cell?, h1.oc]; rfl
  have f1 : (w.alloc (hsC k R A B I m)).frozen? ⟨ob, 0, none⟩ = false := by simp only [World.frozen?, h1.oc]; rfl
  have HB : Hid (Below base w (w.alloc (hsC k R A B I m))) := ba.mono h.sg.bl
  cases b
  · have H1 : Hid (Sw gp rb gb ob base most grow F s (j + 1) false ((w.alloc (hsC k R A B I m)).setCell ⟨ob, 0, none⟩ (.bool false)) ∧ Below base (w.alloc (hsC k R A B I m)) ((w.alloc (hsC k R A B I m)).setCell ⟨ob, 0, none⟩ (.bool false))) := by
      have := h1.set false
      exact ⟨{ this.1 with sg := { this.1.sg with gi := this.1.sg.gi.more (Nat.le_succ _) } }, this.2⟩
    clear h h1 ba hx hg hj g0 g1 m0 m1
    go_enter Try.func18, Try.ntmps18
    go_wp2_with fail
    go_end0
    exact ⟨F, false, s, rfl, H1.out.1, fun c => by (cases c), HB.out.trans H1.out.2⟩
  · have P := doS_any h1.sg hg hj g0 g1 m0 m1 k R A B I m
    have HD : Hid (∀ F' w', Sg gp rb gb base most grow F' (s.dos g most grow k R A B I m).2 (j + 1) w' → Tn F (w.alloc (hsC k R A B I m)) F' w' → Sw gp rb gb ob base most grow F' (s.dos g most grow k R A B I m).2 (j + 1) true w' ∧ Below base (w.alloc (hsC k R A B I m)) w') := fun F' w' S t =>
      ⟨⟨S, (t.fr.block ob (lt_of_some h1.oc) h1.nf).trans h1.oc, fun d => (t.sub ob d).elim h1.nf (fun c => by have := lt_of_some h1.oc; omega), h1.ne, h1.bl⟩, h1.sg.low t⟩
    clear h h1 ba hx hg hj g0 g1 m0 m1
    generalize s.dos g most grow k R A B I m = D at *
    obtain ⟨cd, s2⟩ := D
    dsimp only at *
    go_enter Try.func18, Try.ntmps18
    go_wp2_with fail
    refine P.mono ?_
    clear P
    rintro e w2 ⟨F2, rfl, S2, t2⟩
    obtain ⟨W2, B2⟩ := HD.out F2 w2 S2 t2
    have d1 : w2.cell? ⟨ob, 0, none⟩ = some (.bool true) := by simp only [World.cell?, W2.oc]; rfl
    have d2 : w2.frozen? ⟨ob, 0, none⟩ = false := by simp only [World.frozen?, W2.oc]; rfl
    have H2 : Hid (Sw gp rb gb ob base most grow F2 s2 (j + 1) (cd == 0) (w2.setCell ⟨ob, 0, none⟩ (.bool (cd == 0))) ∧ Below base w2 (w2.setCell ⟨ob, 0, none⟩ (.bool (cd == 0)))) := W2.set (cd == 0)
    have HB2 : Hid (Below base w w2) := HB.out.trans B2
    clear S2 t2 W2 B2 q0 q1 q2 q3 q4 q5 c0 c1 f1
    go_wp2_with fail
    go_end0
    exact ⟨F2, cd == 0, s2, rfl, H2.out.1, fun c => ⟨trivial, by rw [show cd = 0 by simpa using c]⟩, HB2.out.trans H2.out.2⟩
end

theorem node_cells {w : World} {base : Nat} {ad : Option Addr} {ns : List (Int × List (Int × Int))} (h : LnN w base ad ns) {i : Nat} {k : Int} {vs : List (Int × Int)} (hi : ns[i]? = some (k, vs)) (hv : 0 < vs.length) :
    ∃ b o fb fo fc, ad = some ⟨b, o, none⟩ ∧ b < w.heap.size ∧ w.cell? ⟨b, o + i * 2, none⟩ = some (.int .i64 k) ∧ w.cell? ⟨b, o + i * 2 + 1, none⟩ = some (.slice (some ⟨fb, fo, none⟩) vs.length fc) ∧ fb < w.heap.size ∧ ∀ t, t < vs.length → w.cell? ⟨fb, fo + t * 2, none⟩ = some (.int .i64 (vs.getD t (0, 0)).1) ∧ w.cell? ⟨fb, fo + t * 2 + 1, none⟩ = some (.int .i64 (vs.getD t (0, 0)).2) := by
  obtain ⟨m, h1, h2, _, h4⟩ := h
  rw [← h1, nds, List.getElem?_map] at hi
  obtain ⟨x, hx, e⟩ := Option.map_eq_some_iff.1 hi
  have hlt : i < m.length := (List.getElem?_eq_some_iff.1 hx).1
  obtain ⟨b, o, e1, _, e2, e3⟩ := h4 (by omega)
  obtain ⟨c1, c2⟩ := e3 i x hx
  have ek : x.1 = k := congrArg Prod.fst e
  have ev : x.2.2.2 = vs := congrArg Prod.snd e
  have hL := h2 x (List.mem_of_getElem? hx)
  rw [ev] at hL c2
  obtain ⟨fb, fo, e4, e5, e6⟩ := hL hv
  rw [e4] at c2
  rw [ek] at c1
  exact ⟨b, o, fb, fo, _, e1, e2, c1, c2, e5, e6⟩

set_option maxRecDepth 100000 in
set_option maxHeartbeats 8000000 in
theorem walk (n o : Int) (a : Option Addr) (cc : Nat) (l : List S6) (k : Bool) (w : World) (hl : L6 w a l) :
    Calls Try.prog 5 #[.int .i64 n, .int .i64 o, .slice a l.length cc, .bool k] w fun e w' => e = .returned (.bool true) ∧ Below w.heap.size w w' := by
  obtain ⟨g, hg⟩ := gfn_ex
  have HL : Hid (L6 w a l) := hl
  have HG : Hid (∀ T wt, Wiv T wt → Gok T wt (g T wt)) := hg
  clear hl hg
  by_cases hlen : 150 < l.length
  · go_enter Try.func5, Try.ntmps5
    go_wp2_with fail
    refine (groveBegun_any w).mono ?_
    rintro e w1 ⟨rfl, hb1⟩
    have h2 : (150 : Int) < (l.length : Int) := by omega
    go_wp2_with fail
    go_ret
    exact ⟨rfl, hb1⟩
  · have h2 : ¬ ((150 : Int) < (l.length : Int)) := by omega
    by_cases hno : n < 16 ∨ 256 < n ∨ o < 0 ∨ 1024 < o
    · have HNO : Hid (n < 16 ∨ 256 < n ∨ o < 0 ∨ 1024 < o) := hno
      clear hno
      go_enter Try.func5, Try.ntmps5
      go_wp2_with fail
      refine (groveBegun_any w).mono ?_
      rintro e w1 ⟨rfl, hb1⟩
      go_wp2_with fail
      refine (newG_no n o w1 HNO.out).mono ?_
      rintro e w2 ⟨rfl, hb2⟩
      have hB2 := hb1.trans (hb2.mono hb1.size)
      have hba := ((Below.refl w2.heap.size w2).alloc (Nat.le_refl _) (.cells #[.pointer none] 24)).alloc (by simp) (.cells #[.int .i64 1, .int .i64 (-1)] 26)
      have hB3 := hB2.trans (hba.mono hB2.size)
      clear hb1 hb2 hB2 hba
      go_wp2_with fail
      go_ret
      exact ⟨rfl, hB3⟩
    · have hn0 : 16 ≤ n ∧ n ≤ 256 ∧ 0 ≤ o ∧ o ≤ 1024 := by omega
      obtain ⟨n, rfl⟩ := Int.eq_ofNat_of_zero_le (show 0 ≤ n by omega)
      obtain ⟨o, rfl⟩ := Int.eq_ofNat_of_zero_le (show 0 ≤ o by omega)
      have HN : Hid (16 ≤ n ∧ n ≤ 256 ∧ o ≤ 1024) := ⟨by omega, by omega, by omega⟩
      have HM : Hid ((-1000000 : Int) ≤ o ∧ (o : Int) ≤ 1000000 ∧ (-1000000 : Int) ≤ n ∧ (n : Int) ≤ 1000000) := ⟨by omega, by omega, by omega, by omega⟩
      clear hno hn0
      go_enter Try.func5, Try.ntmps5
      go_wp2_with fail
      refine (groveBegun_any w).mono ?_
      rintro e w1 ⟨rfl, hb1⟩
      go_wp2_with fail
      refine (newG_yes n o w1 HN.out.1 HN.out.2.1 HN.out.2.2).mono ?_
      rintro e w2 ⟨gp, rb, F1, rfl, J1, lo1, b1⟩
      have hba := ((Below.refl w2.heap.size w2).alloc (Nat.le_refl _) (.cells #[.pointer (some ⟨gp, 0, none⟩)] 24)).alloc (by simp) (.cells #[.int .i64 0, .int .i64 0] 26)
      have HS : Hid (Sg gp rb w2.heap.size w1.heap.size n o F1 ws0 0 ((w2.alloc (.cells #[.pointer (some ⟨gp, 0, none⟩)] 24)).alloc (.cells #[.int .i64 0, .int .i64 0] 26))) :=
        ⟨(grO gp n o rb).below J1 hba, Gi.start, (Below.heap_alloc _ _ _ (by simp)).trans (heap_alloc_new w2 _), fun d => by have := (grO gp n o rb).lt J1 _ d; omega, lo1, Nat.le_trans b1.size hba.size⟩
      have HB2 : Hid (Below w1.heap.size w1 ((w2.alloc (.cells #[.pointer (some ⟨gp, 0, none⟩)] 24)).alloc (.cells #[.int .i64 0, .int .i64 0] 26))) := b1.trans (hba.mono b1.size)
      clear J1 lo1 b1 hba
      go_upto_region 8 with fail
      generalize (w2.alloc (.cells #[.pointer (some ⟨gp, 0, none⟩)] 24)).alloc (.cells #[.int .i64 0, .int .i64 0] 26) = w3 at *
      generalize w2.heap.size = gb at *
      go_wp2_with fail
      go_loopw [11] (fun iv wr => ∃ (i : Nat) (s : Wrs) (F : Nat → Prop), i ≤ l.length ∧ iv = .int .i64 i ∧ Hid (Sg gp rb gb w1.heap.size n o F s i wr) ∧ Hid (Below w1.heap.size w1 wr)) (fun iv _ => l.length - (intOf iv).toNat)
      case atStart => exact ⟨0, ws0, F1, Nat.zero_le _, rfl, HS, HB2⟩
      case round =>
        clear HS HB2
        obtain ⟨i, s, F, hi, rfl, HS, HB⟩ := hrel
        by_cases hil : i < l.length
        · obtain ⟨b0, p0, e0, l0, hc⟩ := HL.out (by omega)
          obtain ⟨hc6, _⟩ := hc i hil
          subst e0
          clear hc
          have hbw := hb1.trans (HB.out.mono hb1.size)
          obtain ⟨y0, y1, y2, y3, y4, y5⟩ := hc6.below hbw l0
          have i0 : (0 : Int) ≤ (i : Int) := by omega
          have i1 : (i : Int) < (l.length : Int) := by omega
          generalize l.getD i s60 = st at *
          obtain ⟨sk, sR, sA, sB, sI, sn⟩ := st
          dsimp only at *
          obtain ⟨c0, _⟩ := HS.out.cell
          have P : Calls Try.prog 8 #[.pointer (some ⟨gp, 0, none⟩), hsV sk sR sA sB sI sn] wr.drew fun e w' => ∃ c s2 F2, e = .returned (.int .i64 c) ∧ (w'.cell? ⟨gb, 0, none⟩ = some (.pointer (some ⟨gp, 0, none⟩)) ∧ w'.cell? ⟨b0, p0 + i * 6, none⟩ = some (.int .i64 sk) ∧ w'.cell? ⟨b0, p0 + i * 6 + 1, none⟩ = some (.int .i64 sR) ∧ w'.cell? ⟨b0, p0 + i * 6 + 2, none⟩ = some (.int .i64 sA) ∧ w'.cell? ⟨b0, p0 + i * 6 + 3, none⟩ = some (.int .i64 sB) ∧ w'.cell? ⟨b0, p0 + i * 6 + 4, none⟩ = some (.int .i64 sI) ∧ w'.cell? ⟨b0, p0 + i * 6 + 5, none⟩ = some (.int .i64 sn)) ∧ Hid (Sg gp rb gb w1.heap.size n o F2 s2 (i + 1) w') ∧ Hid (Below w1.heap.size w1 w') := by
            have bd := (Below.refl wr.heap.size wr).drew
            refine (doS_any (HS.out.below bd) HG.out (by omega) HM.out.1 HM.out.2.1 HM.out.2.2.1 HM.out.2.2.2 sk sR sA sB sI sn).mono ?_
            rintro e w' ⟨F2, rfl, S2, t2⟩
            have B2 : Below w1.heap.size w1 w' := (HB.out.trans (bd.mono HB.out.size)).trans ((HS.out.below bd).low t2)
            obtain ⟨z0, z1, z2, z3, z4, z5⟩ := hc6.below (hb1.trans (B2.mono hb1.size)) l0
            exact ⟨_, _, F2, rfl, ⟨S2.cell.1, z0, z1, z2, z3, z4, z5⟩, S2, B2⟩
          clear hc6 hbw HS HB
          go_wp2_with fail
          go_region_held3 (fun w' => w'.cell? ⟨gb, 0, none⟩ = some (.pointer (some ⟨gp, 0, none⟩)) ∧ w'.cell? ⟨b0, p0 + i * 6, none⟩ = some (.int .i64 sk) ∧ w'.cell? ⟨b0, p0 + i * 6 + 1, none⟩ = some (.int .i64 sR) ∧ w'.cell? ⟨b0, p0 + i * 6 + 2, none⟩ = some (.int .i64 sA) ∧ w'.cell? ⟨b0, p0 + i * 6 + 3, none⟩ = some (.int .i64 sB) ∧ w'.cell? ⟨b0, p0 + i * 6 + 4, none⟩ = some (.int .i64 sI) ∧ w'.cell? ⟨b0, p0 + i * 6 + 5, none⟩ = some (.int .i64 sn)) (first | exact ⟨d1, d2, d3, d4, d5, d6, d7⟩ | exact ⟨c0, y0, y1, y2, y3, y4, y5⟩ | (go_keep; done))
            (first | (go_at_call 8; refine P.mono ?_; clear P; rintro e w10 ⟨c, s2, F2, rfl, ⟨d1, d2, d3, d4, d5, d6, d7⟩, HS2, HB10⟩; clear c0 y0 y1 y2 y3 y4 y5))
          all_goals
            clear d1 d2 d3 d4 d5 d6 d7
            go_wp2_with fail
            go_roundw
            case rel => exact ⟨i + 1, s2, F2, by omega, by go_num, HS2, HB10⟩
            case measure => simp [intOf]; omega
        · obtain rfl : i = l.length := by omega
          have i1 : ¬ ((l.length : Int) < (l.length : Int)) := by omega
          have hba := (Below.refl wr.heap.size wr).alloc (Nat.le_refl _) (.cells #[.bool true] 4)
          have HW : Hid (Sw gp rb gb wr.heap.size w1.heap.size n o F s l.length true (wr.alloc (.cells #[.bool true] 4))) :=
            ⟨HS.out.below hba, heap_alloc_new wr _, fun d => by have := (grO gp n o rb).lt HS.out.J _ d; omega, by have := HS.out.cell.2; omega, HS.out.bl⟩
          have HB0 : Hid (Below w1.heap.size w1 (wr.alloc (.cells #[.bool true] 4))) := HB.out.trans (hba.mono HB.out.size)
          have hl150 : l.length ≤ 150 := by omega
          clear HS HB hba
          as_aux_lemma =>
          go_upto_region 14 with fail
          generalize wr.alloc (.cells #[.bool true] 4) = v0 at *
          generalize wr.heap.size = ob at *
          have HGI : Hid (Gi s l.length) := HW.out.sg.gi
          have P1 := cl_any HW.out HG.out (by omega) HM.out.1 HM.out.2.1 HM.out.2.2.1 HM.out.2.2.2 1 0 0 0 0 5
          go_wp2_with fail
          refine P1.mono ?_
          clear P1
          rintro e v1 ⟨G1, b1, s1, rfl, HW1, HE1, HB1⟩
          have HB1 : Hid (Below w1.heap.size w1 v1) := HB0.out.trans HB1.out
          have P2 := cl_any HW1.out HG.out (by omega) HM.out.1 HM.out.2.1 HM.out.2.2.1 HM.out.2.2.2 4 1 0 0 0 0
          clear HW HB0
          go_wp2_with fail
          refine P2.mono ?_
          clear P2
          rintro e v2 ⟨G2, b2, s2, rfl, HW2, HE2, HB2⟩
          have HB2 : Hid (Below w1.heap.size w1 v2) := HB1.out.trans HB2.out
          have P3 := cl_any HW2.out HG.out (by omega) HM.out.1 HM.out.2.1 HM.out.2.2.1 HM.out.2.2.2 1 0 0 0 0 6
          clear HW1 HB1
          go_wp2_with fail
          refine P3.mono ?_
          clear P3
          rintro e v3 ⟨G3, b3, s3, rfl, HW3, HE3, HB3⟩
          have HB3 : Hid (Below w1.heap.size w1 v3) := HB2.out.trans HB3.out
          have P4 := cl_any HW3.out HG.out (by omega) HM.out.1 HM.out.2.1 HM.out.2.2.1 HM.out.2.2.2 4 2 0 0 0 0
          clear HW2 HB2
          go_wp2_with fail
          refine P4.mono ?_
          clear P4
          rintro e v4 ⟨G4, b4, s4, rfl, HW4, HE4, HB4⟩
          have HB4 : Hid (Below w1.heap.size w1 v4) := HB3.out.trans HB4.out
          have P5 := cl_any HW4.out HG.out (by omega) HM.out.1 HM.out.2.1 HM.out.2.2.1 HM.out.2.2.2 6 3 1 2 0 0
          clear HW3 HB3
          go_wp2_with fail
          refine P5.mono ?_
          clear P5
          rintro e v5 ⟨G5, b5, s5, rfl, HW5, HE5, HB5⟩
          have HB5 : Hid (Below w1.heap.size w1 v5) := HB4.out.trans HB5.out
          clear HW4 HB4
          as_aux_lemma =>
          cases k
          · have P6 := cl_any HW5.out HG.out (by omega) HM.out.1 HM.out.2.1 HM.out.2.2.1 HM.out.2.2.2 2 1 0 0 0 0
            go_wp2_with fail
            refine P6.mono ?_
            clear P6
            rintro e v6 ⟨G6, b6, s6, rfl, HW6, HE6, HB6⟩
            have HB6 : Hid (Below w1.heap.size w1 v6) := HB5.out.trans HB6.out
            clear HW5 HB5
            have P7 := cl_any HW6.out HG.out (by omega) HM.out.1 HM.out.2.1 HM.out.2.2.1 HM.out.2.2.2 2 2 0 0 0 0
            go_wp2_with fail
            refine P7.mono ?_
            clear P7
            rintro e v7 ⟨G7, b7, s7, rfl, HW7, HE7, HB7⟩
            have HB7 : Hid (Below w1.heap.size w1 v7) := HB6.out.trans HB7.out
            have P8 := cl_any HW7.out HG.out (by omega) HM.out.1 HM.out.2.1 HM.out.2.2.1 HM.out.2.2.2 16 0 0 0 0 0
            clear HW6 HB6
            go_wp2_with fail
            refine P8.mono ?_
            clear P8
            rintro e v8 ⟨G8, b8, s8, rfl, HW8, HE8, HB8⟩
            have HB8 : Hid (Below w1.heap.size w1 v8) := HB7.out.trans HB8.out
            have co : v8.cell? ⟨ob, 0, none⟩ = some (.bool b8) := by simp only [World.cell?, HW8.out.oc]; rfl
            obtain ⟨cg, _⟩ := HW8.out.sg.cell
            clear HW7 HB7
            cases b8
            · go_wp2_with fail
              go_ret
              exact ⟨rfl, hb1.trans (HB8.out.mono hb1.size)⟩
            · obtain ⟨y7, e8⟩ := HE8.out rfl
              obtain ⟨y6, e7⟩ := HE7.out y7
              obtain ⟨y5, e6⟩ := HE6.out y6
              obtain ⟨y4, e5⟩ := HE5.out y5
              obtain ⟨y3, e4⟩ := HE4.out y4
              obtain ⟨y2, e3⟩ := HE3.out y3
              obtain ⟨y1, e2⟩ := HE2.out y2
              obtain ⟨_, e1⟩ := HE1.out y1
              obtain ⟨wa, wb, wc, hw3⟩ := weak_chain (k := false) HGI.out (by omega) HG.out e1 e2 e3 e4 e5 (s6 := s6) e6 e7 e8
              have HV : Hid (_) := hw3.view HW8.out.sg.gi (by omega)
              have hl12 : (Vr4.vwW s8.T s8.wt s8.rs).1.length = 12 := by
                unfold Vr4.vwW
                rw [vls_len, List.length_map]
                exact HW8.out.sg.gi.rl
              have PV := viewS_any' HW8.out.sg (by omega)
              have HV12 : Hid ((Vr4.vwW s8.T s8.wt s8.rs).1.length = 12) := hl12
              clear hl12 y1 y2 y3 y4 y6 y7 e1 e2 e3 e4 e5 y5 e6 e7 e8 hw3 HE1 HE2 HE3 HE4 HE5 HE6 HE7 HE8 HW8
              generalize Vr4.vwW s8.T s8.wt s8.rs = Z at *
              obtain ⟨V, ms, Ns⟩ := Z
              dsimp only at *
              obtain ⟨p, q, r, f0, hp3, hp, hNp, hq, hNq, hf, ht⟩ := HV.out
              clear HV
              go_wp2_with fail
              refine PV.mono ?_
              clear PV
              rintro e v9 ⟨r2, d2, na, nc, rfl, hLp, hLn, b9⟩
              have HBV : Hid (Below w1.heap.size w1 v9) := HB8.out.trans (b9.mono HB8.out.size)
              clear b9 cg co HB8
              obtain ⟨vb, vo, ev, lvb, hcl⟩ := hLp.1 (by rw [HV12.out]; decide)
              obtain ⟨nb, no, pb, po, pc, en, lnb, n0, n1, lpb, hpc⟩ := node_cells hLn hNp (by simp)
              obtain ⟨nb2, no2, qb, qo, qc, en2, _, n2, n3, lqb, hqc⟩ := node_cells hLn hNq (by simp)
              rw [en] at en2
              cases en2
              subst ev en
              obtain ⟨u0, u1⟩ := hcl 3 (by rw [HV12.out]; decide)
              rw [hp3] at u0 u1
              obtain ⟨x0, x1⟩ := hpc 0 (by simp)
              obtain ⟨x2, x3⟩ := hpc 1 (by simp)
              obtain ⟨_, x4⟩ := hqc 0 (by simp)
              dsimp only [List.getD_cons_zero, List.getD_cons_succ, List.length_cons, List.length_nil] at u0 u1 x0 x1 x2 x3 x4 n1 n3
              rw [Nat.zero_mul, Nat.add_zero] at x0 x1 x4
              have hf0 := hf trivial
              subst hf0
              clear hf ht
              clear hcl hpc hqc hLp hLn hNp hNq hp3 HV12
              have i0 : (0 : Int) ≤ (p : Int) := by omega
              have i1 : (p : Int) < (Ns.length : Int) := by omega
              have w0 : v9.cell? ⟨vb, vo + 6, none⟩ = some (.int .i64 3) := u0
              have w1_ : v9.cell? ⟨vb, vo + 6 + 1, none⟩ = some (.int .i64 (p : Int)) := u1
              have x2' : v9.cell? ⟨pb, po + 2, none⟩ = some (.int .i64 3) := x2
              have x3' : v9.cell? ⟨pb, po + 2 + 1, none⟩ = some (.int .i64 (q : Int)) := x3
              have hx := heap_alloc_new v9 (.cells #[.slice (some ⟨vb, vo, none⟩) 12 d2, .slice (some ⟨nb, no, none⟩) Ns.length nc] 35)
              have hba := (Below.refl v9.heap.size v9).alloc (Nat.le_refl _) (.cells #[.slice (some ⟨vb, vo, none⟩) 12 d2, .slice (some ⟨nb, no, none⟩) Ns.length nc] 35)
              have HBX : Hid (Below w1.heap.size w1 (v9.alloc (.cells #[.slice (some ⟨vb, vo, none⟩) 12 d2, .slice (some ⟨nb, no, none⟩) Ns.length nc] 35))) := HBV.out.trans (hba.mono HBV.out.size)
              obtain ⟨t0_, t1_, _, lt⟩ := two_cells hx
              have a0 := (hba.cell (p := ⟨vb, vo + 6, none⟩) lvb).trans w0
              have a1 := (hba.cell (p := ⟨vb, vo + 6 + 1, none⟩) lvb).trans w1_
              have a2 := (hba.cell (p := ⟨nb, no + p * 2, none⟩) lnb).trans n0
              have a3 := (hba.cell (p := ⟨nb, no + p * 2 + 1, none⟩) lnb).trans n1
              have a4 := (hba.cell (p := ⟨pb, po + 2, none⟩) lpb).trans x2'
              have a5 := (hba.cell (p := ⟨pb, po + 2 + 1, none⟩) lpb).trans x3'
              have a6 := (hba.cell (p := ⟨nb, no + q * 2 + 1, none⟩) lnb).trans n3
              have a7 := (hba.cell (p := ⟨qb, qo + 1, none⟩) lqb).trans x4
              have a8 := (hba.cell (p := ⟨pb, po, none⟩) lpb).trans x0
              have a9 := (hba.cell (p := ⟨pb, po + 1, none⟩) lpb).trans x1
              have l1 := Nat.lt_of_lt_of_le lvb hba.size
              have l2 := Nat.lt_of_lt_of_le lnb hba.size
              have l3 := Nat.lt_of_lt_of_le lpb hba.size
              have l4 := Nat.lt_of_lt_of_le lqb hba.size
              clear u0 u1 x0 x1 x2 x3 x4 x2' x3' n0 n1 n2 n3 w0 w1_ hx hba lvb lnb lpb lqb HBV
              go_upto_region 26 with fail
              generalize v9.alloc (.cells #[.slice (some ⟨vb, vo, none⟩) 12 d2, .slice (some ⟨nb, no, none⟩) Ns.length nc] 35) = v10 at *
              generalize v9.heap.size = xb at *
              go_wp2_with fail
              go_region_held3 (fun w' => w'.cell? ⟨xb, 0, none⟩ = some (.slice (some ⟨vb, vo, none⟩) 12 d2) ∧ w'.cell? ⟨xb, 1, none⟩ = some (.slice (some ⟨nb, no, none⟩) Ns.length nc) ∧ w'.cell? ⟨vb, vo + 6 + 1, none⟩ = some (.int .i64 (p : Int)) ∧ w'.cell? ⟨nb, no + p * 2, none⟩ = some (.int .i64 3) ∧ w'.cell? ⟨nb, no + p * 2 + 1, none⟩ = some (.slice (some ⟨pb, po, none⟩) 2 pc)) (go_keep) (fail)
              all_goals
                have hba := ((Below.refl v10.heap.size v10).alloc (Nat.le_refl _) (.cells #[.int .i64 3, .slice (some ⟨pb, po, none⟩) 2 pc] 44)).drew
                obtain ⟨k0_, k1_, _, lk⟩ := two_cells (heap_alloc_new v10 (.cells #[.int .i64 3, .slice (some ⟨pb, po, none⟩) 2 pc] 44))
                have k0' : (v10.alloc (.cells #[.int .i64 3, .slice (some ⟨pb, po, none⟩) 2 pc] 44)).drew.cell? ⟨v10.heap.size, 0, none⟩ = some (.int .i64 3) := k0_
                have k1' : (v10.alloc (.cells #[.int .i64 3, .slice (some ⟨pb, po, none⟩) 2 pc] 44)).drew.cell? ⟨v10.heap.size, 1, none⟩ = some (.slice (some ⟨pb, po, none⟩) 2 pc) := k1_
                have q1_ := (hba.cell (p := ⟨xb, 1, none⟩) lt).trans t1_
                have q0_ := (hba.cell (p := ⟨xb, 0, none⟩) lt).trans t0_
                have q4 := (hba.cell (p := ⟨pb, po + 2, none⟩) l3).trans a4
                have q5 := (hba.cell (p := ⟨pb, po + 2 + 1, none⟩) l3).trans a5
                have q6 := (hba.cell (p := ⟨nb, no + q * 2 + 1, none⟩) l2).trans a6
                have q7 := (hba.cell (p := ⟨qb, qo + 1, none⟩) l4).trans a7
                have q8 := (hba.cell (p := ⟨pb, po, none⟩) l3).trans a8
                have q9 := (hba.cell (p := ⟨pb, po + 1, none⟩) l3).trans a9
                have HBF : Hid (Below w.heap.size w (v10.alloc (.cells #[.int .i64 3, .slice (some ⟨pb, po, none⟩) 2 pc] 44)).drew) := hb1.trans ((HBX.out.trans (hba.mono HBX.out.size)).mono hb1.size)
                have i2 : (0 : Int) ≤ (q : Int) := by omega
                have i3 : (q : Int) < (Ns.length : Int) := by omega
                clear hba k0_ k1_ a0 a1 a2 a3 a4 a5 a6 a7 a8 a9 t0_ t1_ HBX lk
                generalize (v10.alloc (.cells #[.int .i64 3, .slice (some ⟨pb, po, none⟩) 2 pc] 44)).drew = v11 at *
                generalize v10.heap.size = yb at *
                go_wp2_with fail
                go_region_held3 (fun w' => w'.cell? ⟨yb, 0, none⟩ = some (.int .i64 3) ∧ w'.cell? ⟨yb, 1, none⟩ = some (.slice (some ⟨pb, po, none⟩) 2 pc) ∧ w'.cell? ⟨xb, 1, none⟩ = some (.slice (some ⟨nb, no, none⟩) Ns.length nc) ∧ w'.cell? ⟨pb, po + 2, none⟩ = some (.int .i64 3) ∧ w'.cell? ⟨pb, po + 2 + 1, none⟩ = some (.int .i64 (q : Int)) ∧ w'.cell? ⟨nb, no + q * 2 + 1, none⟩ = some (.slice (some ⟨qb, qo, none⟩) 2 qc) ∧ w'.cell? ⟨qb, qo + 1, none⟩ = some (.int .i64 6)) (go_keep) (fail)
                all_goals
                  go_wp2_with fail
                  go_ret
                  exact ⟨rfl, HBF.out.drew⟩
          · have P7 := cl_any HW5.out HG.out (by omega) HM.out.1 HM.out.2.1 HM.out.2.2.1 HM.out.2.2.2 2 2 0 0 0 0
            go_wp2_with fail
            refine P7.mono ?_
            clear P7
            rintro e v7 ⟨G7, b7, s7, rfl, HW7, HE7, HB7⟩
            have HB7 : Hid (Below w1.heap.size w1 v7) := HB5.out.trans HB7.out
            have P8 := cl_any HW7.out HG.out (by omega) HM.out.1 HM.out.2.1 HM.out.2.2.1 HM.out.2.2.2 16 0 0 0 0 0
            clear HW5 HB5
            go_wp2_with fail
            refine P8.mono ?_
            clear P8
            rintro e v8 ⟨G8, b8, s8, rfl, HW8, HE8, HB8⟩
            have HB8 : Hid (Below w1.heap.size w1 v8) := HB7.out.trans HB8.out
            have co : v8.cell? ⟨ob, 0, none⟩ = some (.bool b8) := by simp only [World.cell?, HW8.out.oc]; rfl
            obtain ⟨cg, _⟩ := HW8.out.sg.cell
            clear HW7 HB7
            cases b8
            · go_wp2_with fail
              go_ret
              exact ⟨rfl, hb1.trans (HB8.out.mono hb1.size)⟩
            · obtain ⟨y7, e8⟩ := HE8.out rfl
              obtain ⟨y6, e7⟩ := HE7.out y7
              obtain ⟨y4, e5⟩ := HE5.out y6
              obtain ⟨y3, e4⟩ := HE4.out y4
              obtain ⟨y2, e3⟩ := HE3.out y3
              obtain ⟨y1, e2⟩ := HE2.out y2
              obtain ⟨_, e1⟩ := HE1.out y1
              obtain ⟨wa, wb, wc, hw3⟩ := weak_chain (k := true) HGI.out (by omega) HG.out e1 e2 e3 e4 e5 (s6 := s5) rfl e7 e8
              have HV : Hid (_) := hw3.view HW8.out.sg.gi (by omega)
              have hl12 : (Vr4.vwW s8.T s8.wt s8.rs).1.length = 12 := by
                unfold Vr4.vwW
                rw [vls_len, List.length_map]
                exact HW8.out.sg.gi.rl
              have PV := viewS_any' HW8.out.sg (by omega)
              have HV12 : Hid ((Vr4.vwW s8.T s8.wt s8.rs).1.length = 12) := hl12
              clear hl12 y1 y2 y3 y4 y6 y7 e1 e2 e3 e4 e5 e7 e8 hw3 HE1 HE2 HE3 HE4 HE5 HE7 HE8 HW8
              generalize Vr4.vwW s8.T s8.wt s8.rs = Z at *
              obtain ⟨V, ms, Ns⟩ := Z
              dsimp only at *
              obtain ⟨p, q, r, f0, hp3, hp, hNp, hq, hNq, hf, ht⟩ := HV.out
              clear HV
              go_wp2_with fail
              refine PV.mono ?_
              clear PV
              rintro e v9 ⟨r2, d2, na, nc, rfl, hLp, hLn, b9⟩
              have HBV : Hid (Below w1.heap.size w1 v9) := HB8.out.trans (b9.mono HB8.out.size)
              clear b9 cg co HB8
              obtain ⟨vb, vo, ev, lvb, hcl⟩ := hLp.1 (by rw [HV12.out]; decide)
              obtain ⟨nb, no, pb, po, pc, en, lnb, n0, n1, lpb, hpc⟩ := node_cells hLn hNp (by simp)
              obtain ⟨nb2, no2, qb, qo, qc, en2, _, n2, n3, lqb, hqc⟩ := node_cells hLn hNq (by simp)
              rw [en] at en2
              cases en2
              subst ev en
              obtain ⟨u0, u1⟩ := hcl 3 (by rw [HV12.out]; decide)
              rw [hp3] at u0 u1
              obtain ⟨x0, x1⟩ := hpc 0 (by simp)
              obtain ⟨x2, x3⟩ := hpc 1 (by simp)
              obtain ⟨_, x4⟩ := hqc 0 (by simp)
              dsimp only [List.getD_cons_zero, List.getD_cons_succ, List.length_cons, List.length_nil] at u0 u1 x0 x1 x2 x3 x4 n1 n3
              rw [Nat.zero_mul, Nat.add_zero] at x0 x1 x4
              obtain ⟨hf0, hr1, hr, hNr⟩ := ht trivial
              obtain ⟨nb2, no2, rb2, ro, rc2, en2, _, n4, n5, lrb, hrc⟩ := node_cells hLn hNr (by simp)
              cases en2
              obtain ⟨u2, u3⟩ := hcl 1 (by rw [HV12.out]; decide)
              rw [hr1] at u2 u3
              obtain ⟨_, x5⟩ := hrc 0 (by simp)
              dsimp only [List.getD_cons_zero, List.length_cons, List.length_nil] at u2 u3 x5 n5
              rw [Nat.zero_mul, Nat.add_zero] at x5
              subst hf0
              clear hf ht hrc hNr hr1
              clear hcl hpc hqc hLp hLn hNp hNq hp3 HV12
              have i0 : (0 : Int) ≤ (p : Int) := by omega
              have i1 : (p : Int) < (Ns.length : Int) := by omega
              have w0 : v9.cell? ⟨vb, vo + 6, none⟩ = some (.int .i64 3) := u0
              have w1_ : v9.cell? ⟨vb, vo + 6 + 1, none⟩ = some (.int .i64 (p : Int)) := u1
              have x2' : v9.cell? ⟨pb, po + 2, none⟩ = some (.int .i64 3) := x2
              have x3' : v9.cell? ⟨pb, po + 2 + 1, none⟩ = some (.int .i64 (q : Int)) := x3
              have hx := heap_alloc_new v9 (.cells #[.slice (some ⟨vb, vo, none⟩) 12 d2, .slice (some ⟨nb, no, none⟩) Ns.length nc] 35)
              have hba := (Below.refl v9.heap.size v9).alloc (Nat.le_refl _) (.cells #[.slice (some ⟨vb, vo, none⟩) 12 d2, .slice (some ⟨nb, no, none⟩) Ns.length nc] 35)
              have HBX : Hid (Below w1.heap.size w1 (v9.alloc (.cells #[.slice (some ⟨vb, vo, none⟩) 12 d2, .slice (some ⟨nb, no, none⟩) Ns.length nc] 35))) := HBV.out.trans (hba.mono HBV.out.size)
              obtain ⟨t0_, t1_, _, lt⟩ := two_cells hx
              have a0 := (hba.cell (p := ⟨vb, vo + 6, none⟩) lvb).trans w0
              have a1 := (hba.cell (p := ⟨vb, vo + 6 + 1, none⟩) lvb).trans w1_
              have a2 := (hba.cell (p := ⟨nb, no + p * 2, none⟩) lnb).trans n0
              have a3 := (hba.cell (p := ⟨nb, no + p * 2 + 1, none⟩) lnb).trans n1
              have a4 := (hba.cell (p := ⟨pb, po + 2, none⟩) lpb).trans x2'
              have a5 := (hba.cell (p := ⟨pb, po + 2 + 1, none⟩) lpb).trans x3'
              have a6 := (hba.cell (p := ⟨nb, no + q * 2 + 1, none⟩) lnb).trans n3
              have a7 := (hba.cell (p := ⟨qb, qo + 1, none⟩) lqb).trans x4
              have a8 := (hba.cell (p := ⟨pb, po, none⟩) lpb).trans x0
              have a9 := (hba.cell (p := ⟨pb, po + 1, none⟩) lpb).trans x1
              have b0_ := (hba.cell (p := ⟨vb, vo + 2, none⟩) lvb).trans (show v9.cell? ⟨vb, vo + 2, none⟩ = some (.int .i64 3) from u2)
              have b1_ := (hba.cell (p := ⟨vb, vo + 2 + 1, none⟩) lvb).trans (show v9.cell? ⟨vb, vo + 2 + 1, none⟩ = some (.int .i64 (r : Int)) from u3)
              have b2_ := (hba.cell (p := ⟨nb, no + r * 2 + 1, none⟩) lnb).trans n5
              have b3_ := (hba.cell (p := ⟨rb2, ro + 1, none⟩) lrb).trans x5
              have l5 := Nat.lt_of_lt_of_le lrb hba.size
              clear u2 u3 n4 n5 x5 lrb
              have l1 := Nat.lt_of_lt_of_le lvb hba.size
              have l2 := Nat.lt_of_lt_of_le lnb hba.size
              have l3 := Nat.lt_of_lt_of_le lpb hba.size
              have l4 := Nat.lt_of_lt_of_le lqb hba.size
              clear u0 u1 x0 x1 x2 x3 x4 x2' x3' n0 n1 n2 n3 w0 w1_ hx hba lvb lnb lpb lqb HBV
              go_upto_region 26 with fail
              generalize v9.alloc (.cells #[.slice (some ⟨vb, vo, none⟩) 12 d2, .slice (some ⟨nb, no, none⟩) Ns.length nc] 35) = v10 at *
              generalize v9.heap.size = xb at *
              go_wp2_with fail
              go_region_held3 (fun w' => w'.cell? ⟨xb, 0, none⟩ = some (.slice (some ⟨vb, vo, none⟩) 12 d2) ∧ w'.cell? ⟨xb, 1, none⟩ = some (.slice (some ⟨nb, no, none⟩) Ns.length nc) ∧ w'.cell? ⟨vb, vo + 6 + 1, none⟩ = some (.int .i64 (p : Int)) ∧ w'.cell? ⟨nb, no + p * 2, none⟩ = some (.int .i64 3) ∧ w'.cell? ⟨nb, no + p * 2 + 1, none⟩ = some (.slice (some ⟨pb, po, none⟩) 2 pc)) (go_keep) (fail)
              all_goals
                have hba := ((Below.refl v10.heap.size v10).alloc (Nat.le_refl _) (.cells #[.int .i64 3, .slice (some ⟨pb, po, none⟩) 2 pc] 44)).drew
                obtain ⟨k0_, k1_, _, lk⟩ := two_cells (heap_alloc_new v10 (.cells #[.int .i64 3, .slice (some ⟨pb, po, none⟩) 2 pc] 44))
                have k0' : (v10.alloc (.cells #[.int .i64 3, .slice (some ⟨pb, po, none⟩) 2 pc] 44)).drew.cell? ⟨v10.heap.size, 0, none⟩ = some (.int .i64 3) := k0_
                have k1' : (v10.alloc (.cells #[.int .i64 3, .slice (some ⟨pb, po, none⟩) 2 pc] 44)).drew.cell? ⟨v10.heap.size, 1, none⟩ = some (.slice (some ⟨pb, po, none⟩) 2 pc) := k1_
                have q1_ := (hba.cell (p := ⟨xb, 1, none⟩) lt).trans t1_
                have q0_ := (hba.cell (p := ⟨xb, 0, none⟩) lt).trans t0_
                have q4 := (hba.cell (p := ⟨pb, po + 2, none⟩) l3).trans a4
                have q5 := (hba.cell (p := ⟨pb, po + 2 + 1, none⟩) l3).trans a5
                have q6 := (hba.cell (p := ⟨nb, no + q * 2 + 1, none⟩) l2).trans a6
                have q7 := (hba.cell (p := ⟨qb, qo + 1, none⟩) l4).trans a7
                have q8 := (hba.cell (p := ⟨pb, po, none⟩) l3).trans a8
                have q9 := (hba.cell (p := ⟨pb, po + 1, none⟩) l3).trans a9
                have p0_ := (hba.cell (p := ⟨vb, vo + 2, none⟩) l1).trans b0_
                have p1_ := (hba.cell (p := ⟨vb, vo + 2 + 1, none⟩) l1).trans b1_
                have p2_ := (hba.cell (p := ⟨nb, no + r * 2 + 1, none⟩) l2).trans b2_
                have p3_ := (hba.cell (p := ⟨rb2, ro + 1, none⟩) l5).trans b3_
                have i4 : (0 : Int) ≤ (r : Int) := by omega
                have i5 : (r : Int) < (Ns.length : Int) := by omega
                have HBF : Hid (Below w.heap.size w (v10.alloc (.cells #[.int .i64 3, .slice (some ⟨pb, po, none⟩) 2 pc] 44)).drew) := hb1.trans ((HBX.out.trans (hba.mono HBX.out.size)).mono hb1.size)
                have i2 : (0 : Int) ≤ (q : Int) := by omega
                have i3 : (q : Int) < (Ns.length : Int) := by omega
                clear hba k0_ k1_ a0 a1 a2 a3 a4 a5 a6 a7 a8 a9 t0_ t1_ HBX lk b0_ b1_ b2_ b3_
                generalize (v10.alloc (.cells #[.int .i64 3, .slice (some ⟨pb, po, none⟩) 2 pc] 44)).drew = v11 at *
                generalize v10.heap.size = yb at *
                go_wp2_with fail
                go_region_held3 (fun w' => w'.cell? ⟨yb, 0, none⟩ = some (.int .i64 3) ∧ w'.cell? ⟨yb, 1, none⟩ = some (.slice (some ⟨pb, po, none⟩) 2 pc) ∧ w'.cell? ⟨xb, 1, none⟩ = some (.slice (some ⟨nb, no, none⟩) Ns.length nc) ∧ w'.cell? ⟨pb, po + 2, none⟩ = some (.int .i64 3) ∧ w'.cell? ⟨pb, po + 2 + 1, none⟩ = some (.int .i64 (q : Int)) ∧ w'.cell? ⟨nb, no + q * 2 + 1, none⟩ = some (.slice (some ⟨qb, qo, none⟩) 2 qc) ∧ w'.cell? ⟨qb, qo + 1, none⟩ = some (.int .i64 6)) (go_keep) (fail)
                all_goals
                  go_wp2_with fail
                  go_region_held3 (fun w' => w'.cell? ⟨yb, 1, none⟩ = some (.slice (some ⟨pb, po, none⟩) 2 pc) ∧ w'.cell? ⟨xb, 0, none⟩ = some (.slice (some ⟨vb, vo, none⟩) 12 d2) ∧ w'.cell? ⟨xb, 1, none⟩ = some (.slice (some ⟨nb, no, none⟩) Ns.length nc) ∧ w'.cell? ⟨pb, po, none⟩ = some (.int .i64 3) ∧ w'.cell? ⟨pb, po + 1, none⟩ = some (.int .i64 (r : Int)) ∧ w'.cell? ⟨vb, vo + 2, none⟩ = some (.int .i64 3) ∧ w'.cell? ⟨vb, vo + 2 + 1, none⟩ = some (.int .i64 (r : Int)) ∧ w'.cell? ⟨nb, no + r * 2 + 1, none⟩ = some (.slice (some ⟨rb2, ro, none⟩) 2 rc2) ∧ w'.cell? ⟨rb2, ro + 1, none⟩ = some (.int .i64 5)) (go_keep) (fail)
                  all_goals
                    go_wp2_with fail
                    go_ret
                    exact ⟨rfl, HBF.out.drew.drew⟩

end Go.Proofs.Ytjhnhbeimjnloaa.GWk

/- GroveWeak: at whatever two numbers, whatever list of steps, whether it is kept or not, it returns true, in whatever memory, without conditions; nothing that was in memory turns. -/
namespace Go.Proofs.Ytjhnhbeimjnloaa.GWk
open Go.ChangeShapes Go.WideShapes Go.ChangeAt Go.RowKit Go.Joins W

theorem own : ownKnob Try.prog.godebug = none := by kernel_rfl
theorem laidOut : laidOutB Try.prog = true := by kernel_rfl

set_option maxRecDepth 100000 in
theorem lifted (os : Os) (started : os.Started) (H : Type) (enc : TypeId × Value → H) :
    ReturnsInHanded {} Try.checked os 5 .any (Rows.groveWeakSpec.pre6 enc Try.prog Try.f5 Rows.groveWeakRow.domain false) (Rows.groveWeakSpec.post enc Try.prog Try.f5 false true false false) := by
  refine returnsInHanded_of_change (C := Try.checked) own started (by kernel_rfl) Try.func5
    (ChangeSpec.witness6 (enc := enc) (C := Try.checked) false ⟨#[], #[.int .i64 0, .int .i64 0, .slice none 0 0, .bool false], []⟩ 8 (by kernel_rfl) (by kernel_rfl) (by kernel_rfl) (by kernel_rfl)) ?_
  intro W base args ds gs before hval0 hW hcnd _
  have hval : ∀ (j : Nat) t v, Try.f5.params[j]? = some t → args[j]? = some v → Value.okWide Try.prog W .any base t v := hval0
  have hW' := hW
  obtain ⟨p, q, hA0, hV, rfl, hfz, hnd⟩ := hW
  have hA : DataW.TrodAll enc Try.prog W 0 (fun _ => true) true Try.f5.params.toList args.toList ds p := hA0
  rw [Try.params5] at hA hval
  obtain ⟨v0, vs0, d0, ds0, p0, q0, hargs, rfl, rfl, h0, r0⟩ := trodAll_cons hA
  obtain ⟨v1, vs1, d1, ds1, p1, q1, rfl, rfl, rfl, h1, r1⟩ := trodAll_cons r0
  obtain ⟨v2, vs2, d2, ds2, p2, q2, rfl, rfl, rfl, h2, r2⟩ := trodAll_cons r1
  obtain ⟨v3, vs3, d3, ds3, p3, q3, rfl, rfl, rfl, h3, r3⟩ := trodAll_cons r2
  obtain ⟨rfl, rfl, rfl⟩ := trodAll_nil r3
  obtain rfl : args = #[v0, v1, v2, v3] := by cases args; simp_all
  obtain ⟨rfl, rfl⟩ := trodVars_none hV
  obtain ⟨a0, rfl, rfl, rfl, w0⟩ := open_int Try.underlying3 (hval 0 3 v0 rfl rfl) h0
  obtain ⟨a1, rfl, rfl, rfl, w1⟩ := open_int Try.underlying3 (hval 1 3 v1 rfl rfl) h1
  obtain ⟨a2, len2, cap2, rfl⟩ := okWide_slice Try.underlying22 (hval 2 22 v2 rfl rfl)
  have k2 := h2
  have lt2 : ∀ x ∈ p2, x.block < W.heap.size := by obtain ⟨m, hm⟩ := k2; exact DataW.trod_lt m _ _ _ hm
  obtain ⟨fuel2, hf2⟩ := h2
  obtain ⟨S2, rfl, st2⟩ := open_heaps hf2
  obtain ⟨a3, rfl, rfl, rfl⟩ := open_bool Try.underlying4 (hval 3 4 v3 rfl rfl) h3
  clear hA0 hval0
  refine (walk a0 a1 a2 cap2 S2 a3 W st2).mono fun e W' ⟨he, bel⟩ => ?_
  subst he
  exact ⟨_, rfl, _, _, _, [], _, [], hW', trodAll_mk1 (shut_bool Try.underlying4 _), (trodAll_cons_mk (shut_int Try.underlying3 w0) (trodAll_cons_mk (shut_int Try.underlying3 w1) (trodAll_cons_mk (Below.trod laidOut (by kernel_rfl) (of_decide_eq_true (by kernel_rfl)) k2 bel lt2) (trodAll_cons_mk (shut_bool Try.underlying4 _) trodAll_mk0)))), rfl, bel.frame _, fun h => by cases h⟩

theorem over : Rows.groveWeakRow.holds Try.pinned (OpenSpec.ofChange Rows.groveWeakSpec) :=
  OpenClaim.holds_of_wide 5 Try.f5 rfl rfl rfl rfl rfl rfl rfl ⟨rfl, rfl, rfl, rfl, rfl⟩ rfl rfl rfl rfl rfl (by kernel_rfl) Try.func5 (by kernel_rfl)
    (of_decide_eq_true (by kernel_rfl)) (by unfold Func.isWrapper; first | (rw [if_pos (by decide +kernel)]; kernel_rfl) | (rw [if_neg (by decide +kernel)]; exact ⟨rfl, rfl⟩))
    (fun os started H enc _ => lifted os started H enc)

/-- THE STATEMENT. -/
theorem proved : Rows.GroveWeakSaid :=
  over
#print axioms proved
end Go.Proofs.Ytjhnhbeimjnloaa.GWk
