/- Joined: Mx2, Mv2, Mv1, Mv3, Hh, Wv3, Wv4, Ms4, Vw9, Ws21. -/
import Derived.Test.YtmocakafnnkjfabGreatJ38
import Derived.OrdersHeld
import Derived.RegionTactic
import Derived.Test.YtmocakafnnkjfabGreatJ25
import Derived.Test.YtmocakafnnkjfabGreatJ03
import Derived.Test.YtmocakafnnkjfabGreatJ26
/- majorBegun: a contract. -/
namespace Go.Proofs.YtmocakafnnkjfabGreat
open Go.RowKit W Kp Stl

theorem gb_b : (((bo0 16 8).2.fr 16 0 1 2).fB 16 1 2 == decide (0 ≤ mkR 16 mbS.s.y 1 2)) = true := by decide +kernel

set_option maxRecDepth 100000 in
set_option maxHeartbeats 4000000 in
theorem majorBegun_any (w : World) : Calls Tryz.prog 30 #[] w fun e w' => e = .returned (.bool true) ∧ Below w.heap.size w w' := by
  go_enter Tryz.func30, Tryz.ntmps30
  go_wp2_with fail
  refine (start_yes 16 8 w (by omega) (by omega) (by omega)).mono ?_
  rintro e w1 ⟨c, F1, rfl, j1, ⟨k1, k2, k3, k4⟩, g1, b1⟩
  have B0 := Bok.start c 16 8
  have O0 := So0.start c.a 16 8
  have W0 := bo_wbd j1
  have D := do_any j1 ((Wok.start 16 8).rb (by decide) (by decide) (by decide)) (by rw [k3]; decide) (by rw [k3]; decide) (by decide) (by decide) (by decide) 0 1 2 0
  have B1 := B0.do W0 0 1 2 0
  have O1 := O0.do (c := c) (S := bo0 16 8) W0 0 1 2 0 (fun _ => Or.inl rfl)
  have e1 : doB c (bo0 16 8) 0 1 2 0 = true := by
    unfold doB
    rw [if_pos rfl, k3, k1]
    exact mb_b
  have e2 : (doS c (bo0 16 8) 0 1 2 0).1 = mbS := by
    unfold doS
    rw [if_pos rfl]
    unfold boM
    dsimp only
    rw [k1]
    show (⟨⟨mkY 16 0 1 2, 0, mkW 16 0 1 2 (List.replicate (16 + 8) 0), [], if 0 ≤ mkR 16 0 1 2 then (tw 2 12).set (rtN 0) (ew 3 (mkR 16 0 1 2)) else tw 2 12⟩, [], []⟩ : Ww) = mbS
    rw [mb_s.1, mb_s.2, mb_r]
    rfl
  have e3 : (doS c (bo0 16 8) 0 1 2 0).2 = (bo0 16 8).2.fr 16 0 1 2 := by
    unfold doS
    rw [if_pos rfl]
    unfold boM
    dsimp only
    rw [k3, mb_r]
    rfl
  rw [e1] at D
  generalize hS1 : doS c (bo0 16 8) 0 1 2 0 = S1 at D B1 O1
  rw [hS1] at e2 e3
  have HJ : Hid ((∀ b, F1 b → w.heap.size ≤ b) ∧ Below w.heap.size w w1 ∧ S1.1 = mbS ∧ S1.2 = (bo0 16 8).2.fr 16 0 1 2 ∧ c.a.N = 16 ∧ c.a.O = 8 ∧ c.most = 16 ∧ Bok c S1 1 ∧ So0 c.a S1.1) := ⟨g1, b1, e2, e3, k1, k2, k3, B1, O1⟩
  clear j1 g1 b1 hS1 e1 e2 e3 k1 k2 k3 k4 B0 O0 W0 B1 O1
  go_wp2_with fail
  refine D.mono ?_
  clear D
  rintro e w2 ⟨F2, rfl, j2, t2⟩
  obtain ⟨h1, h2, h3, h3', h4, h5, h6, B1, O1⟩ := HJ.out
  have W1 := bo_wbd j2
  have D := do_any j2 (B1.rb (by omega)) (by rw [h6]; decide) (by rw [h6]; decide) (by have := B1.m; omega) (by have := B1.rq; omega) (by have := B1.rq; omega) 0 1 2 0
  have B2 := B1.do W1 0 1 2 0
  have O2 := O1.do (c := c) (S := S1) W1 0 1 2 0 (fun _ => Or.inl rfl)
  have e1 : doB c S1 0 1 2 0 = true := by
    unfold doB
    rw [if_pos rfl, h6, h4, h3, h3']
    exact gb_b
  have e2 : (doS c S1 0 1 2 0).1 = gbS := by
    unfold doS
    rw [if_pos rfl]
    unfold boM
    dsimp only
    rw [h4, h3]
    show (⟨⟨mkY 16 3 1 2, 0, mkW 16 3 1 2 (mkW 16 0 1 2 (List.replicate 24 0)), [], if 0 ≤ mkR 16 3 1 2 then ((tw 2 12).set 0 (ew 3 0)).set (rtN 0) (ew 3 (mkR 16 3 1 2)) else (tw 2 12).set 0 (ew 3 0)⟩, [], []⟩ : Ww) = gbS
    rw [gb_s.1, gb_s.2, mb_r]
    rfl
  rw [e1] at D
  generalize hS2 : doS c S1 0 1 2 0 = S2 at D B2 O2
  rw [hS2] at e2
  have b2 := h2.trans (t2.fr.below h2.size h1)
  have g2 : ∀ b, F2 b → w.heap.size ≤ b := fun b d => (t2.sub b d).elim (h1 b) (fun d => Nat.le_trans h2.size d)
  obtain ⟨d0, _⟩ := bo_all j2
  have HK : Hid ((∀ b, F2 b → w.heap.size ≤ b) ∧ Below w.heap.size w w2 ∧ S2.1 = gbS ∧ c.a.N = 16 ∧ c.a.O = 8 ∧ Bok c S2 2 ∧ So0 c.a S2.1) := ⟨g2, b2, e2, h4, h5, B2, O2⟩
  clear j2 t2 h1 h2 h3 h3' h4 h5 h6 B1 O1 W1 B2 O2 e1 e2 hS2 b2 g2 HJ
  go_wp2_with fail
  refine D.mono ?_
  clear D
  rintro e w3 ⟨F3, rfl, j3, t3⟩
  obtain ⟨h1, h2, h3, h4, h5, B2, O2⟩ := HK.out
  have W2 := bo_wbd j3
  obtain ⟨g1, g2, g3, g4, g5, g6⟩ := great_strong O2 W2
  have P := cutGB_any j3 (by rw [O2.r, O2.q]; decide) g1
  rw [h4, h3, gb_z, h5] at g6
  rw [h4, h3] at g5
  have g7 : S2.1.gcode c.a = 0 ∧ (S2.1.gcut c.a).s.y = 0 ∧ (S2.1.gcut c.a).s.g = 3 := by
    rw [h3]
    rcases g6 with ⟨q1, q2, q3, _⟩ | ⟨_, _, _, q4⟩
    · exact ⟨q1, q2, q3⟩
    · omega
  rw [g7.1] at P
  have b3 := h2.trans (t3.fr.below h2.size h1)
  have g8 : ∀ b, F3 b → w.heap.size ≤ b := fun b d => (t3.sub b d).elim (h1 b) (fun d => Nat.le_trans h2.size d)
  obtain ⟨d0, _⟩ := bo_all j3
  have HL : Hid ((∀ b, F3 b → w.heap.size ≤ b) ∧ Below w.heap.size w w3 ∧ (S2.1.gcut c.a).s.y = 0 ∧ (S2.1.gcut c.a).s.g = 3 ∧ (S2.1.gcut c.a).q = [] ∧ (vwL c.a.N (S2.1.gcut c.a).s.y (S2.1.gcut c.a).s.g (S2.1.gcut c.a).s.ws (S2.1.gcut c.a).q (S2.1.gcut c.a).s.rs).2.2.length = 1) := ⟨g8, b3, g7.2.1, g7.2.2, g2.q, by rw [h3, h4, g5]; exact gb_v⟩
  clear j3 t3 h1 h2 h3 h4 h5 B2 O2 W2 g1 g2 g3 g4 g5 g6 g7 g8 b3 HK
  generalize S2.1.gcut c.a = S3 at P HL
  go_wp2_with fail
  refine P.mono ?_
  clear P
  rintro e w4 ⟨F4, rfl, j4, t4⟩
  obtain ⟨h1, h2, h3, h4, h5, h6⟩ := HL.out
  have b4 := h2.trans (t4.fr.below h2.size h1)
  have P := usedB_any j4
  dsimp only at P
  rw [h3, h4] at P
  obtain ⟨d0, _, d2, _⟩ := bo_all j4
  have HM : Hid ((boO c).J F4 (S3, S2.2) w4 ∧ Below w.heap.size w w4 ∧ S3.q = [] ∧ (vwL c.a.N S3.s.y S3.s.g S3.s.ws S3.q S3.s.rs).2.2.length = 1) := ⟨j4, b4, h5, h6⟩
  clear j4 t4 h1 h2 h3 h4 h5 h6 b4 HL
  go_wp2_with fail
  refine P.mono ?_
  clear P
  rintro e w5 ⟨rfl, b5⟩
  obtain ⟨h1, h2, h5, h6⟩ := HM.out
  have j5 := (boO c).below h1 b5
  have b6 := h2.trans (b5.mono h2.size)
  have P := viewB_any j5 (by dsimp only; rw [h5]; decide)
  dsimp only at P
  rw [h6] at P
  obtain ⟨d0, _⟩ := bo_all j5
  have HB : Hid (Below w.heap.size w w5) := b6
  clear h1 h2 h5 h6 j5 b5 b6 HM
  go_wp2_with fail
  refine P.mono ?_
  clear P
  rintro e w6 ⟨r2, d2, na, nn, nc, rfl, _, _, rfl, b5⟩
  have HB5 : Hid (Below w.heap.size w w6) := HB.out.trans (b5.mono HB.out.size)
  clear b5 HB
  have hrn := run_nodes (.slice r2 12 d2) (.slice na 1 nc)
  go_wp2_with fail
  go_ret
  exact ⟨rfl, HB5.out⟩

end Go.Proofs.YtmocakafnnkjfabGreat

/- MajorSlides: numbers: a contract. -/
namespace Go.Proofs.YtmocakafnnkjfabGreat
open Go.RowKit W Kp Stl

def nmL (N y g : Nat) (ws : List Int) : List Int := (thO N y g ws).map (fun v => ld N y g ws (v + 1)) ++ (thY N y g ws).map (fun v => ld N y g ws (v + 1))

set_option maxRecDepth 100000 in
set_option maxHeartbeats 800000 in
theorem numbers_any {pb pw p q N O y g : Nat} {ws : List Int} (w : World) (hA : At w p q N O y g ws) (b0 : w.cell? ⟨pb, 0, none⟩ = some (.pointer (some ⟨pw, 0, none⟩))) (c0 : w.cell? ⟨pw, 0, none⟩ = some (.pointer (some ⟨p, 0, none⟩))) :
    Calls Tryz.prog 38 #[.pointer (some ⟨pb, 0, none⟩)] w fun e w' => ∃ a d, e = .returned (.slice a (nmL N y g ws).length d) ∧ w'.ownsRow w.heap.size 2 1 (.slice a (nmL N y g ws).length d) (nmL N y g ws).length ((nmL N y g ws).map (Value.int .i64)) ∧ Below w.heap.size w w' := by
  obtain ⟨i0, hi, hz0, hz1, hz2⟩ := info_parts info64A
  have lb := World.block_lt_of_cell? w _ b0
  have lw := World.block_lt_of_cell? w _ c0
  have n1 := hA.hN'
  have n2 := hA.hO
  have n3 := hA.hg
  have n4 := hA.hy
  have P := things_any w hA
  have HA0 : Hid (At w p q N O y g ws) := hA
  have HBO : Hid ((∀ x ∈ thO N y g ws, 0 ≤ x ∧ x ≤ 2000) ∧ ∀ x ∈ thY N y g ws, 0 ≤ x ∧ x ≤ 2000) := ⟨fun x hx => by have := thO_bd x hx; omega, fun x hx => by have := thY_bd x hx; omega⟩
  have EN : Hid (nmL N y g ws = (thO N y g ws).map (fun v => ld N y g ws (v + 1)) ++ (thY N y g ws).map (fun v => ld N y g ws (v + 1))) := rfl
  have lO : (thO N y g ws).length ≤ 2000 := ths_le _ _
  have lY : (thY N y g ws).length ≤ 2000 := ths_le _ _
  clear hA
  go_enter Tryz.func38, Tryz.ntmps38
  go_wp2_with fail
  refine P.mono ?_
  clear P
  rintro e w1 ⟨v1, v2, rfl, ho1, ho2, hb1⟩
  obtain ⟨y1, m1, rfl⟩ := row_slice ho1
  obtain ⟨y2, m2, rfl⟩ := row_slice ho2
  have HA1 : Hid (At w1 p q N O y g ws) := HA0.out.below hb1 (Nat.le_refl _)
  have b1 := (hb1.cell (p := ⟨pb, 0, none⟩) lb).trans b0
  have c1 := (hb1.cell (p := ⟨pw, 0, none⟩) lw).trans c0
  have hs1 := hb1.size
  have lb1 : pb < w1.heap.size := by omega
  have lw1 : pw < w1.heap.size := by omega
  have HO : Hid (w1.ownsRow w.heap.size 3 1 (.slice y1 (thY N y g ws).length m1) (thY N y g ws).length ((thY N y g ws).map (Value.int .i64)) ∧ w1.ownsRow w.heap.size 3 1 (.slice y2 (thO N y g ws).length m2) (thO N y g ws).length ((thO N y g ws).map (Value.int .i64)) ∧ Below w.heap.size w w1) := ⟨ho1, ho2, hb1⟩
  clear ho1 ho2 hb1 b0 c0 HA0
  go_wp2_with fail
  go_loopw [5, 6] (fun ov iv wr => ∃ (j : Nat) (a1 : Option Addr) (d1 : Nat), j ≤ (thO N y g ws).length ∧ iv = .int .i64 j ∧ ov = .slice a1 (j) d1 ∧ Hid (wr.ownsRow w1.heap.size 2 1 (.slice a1 (j) d1) (j) ((((thO N y g ws).take j).map (fun v => ld N y g ws (v + 1))).map (Value.int .i64)) ∧ Below w1.heap.size w1 wr)) (fun _ iv _ => (thO N y g ws).length - (intOf iv).toNat)
  case atStart => exact ⟨0, none, 0, Nat.zero_le _, rfl, rfl, World.ownsRow_nil _ _ _ _, Below.refl _ _⟩
  case round =>
    obtain ⟨j, a1, d1, hj, rfl, rfl, HR⟩ := hrel
    by_cases hlt : j < (thO N y g ws).length
    · obtain ⟨zb, zo, ez, lz, hc⟩ := row_ints HO.out.2.1 (by omega)
      have x1 := (HR.out.2.cell (p := ⟨zb, zo + j, none⟩) lz).trans (hc j hlt)
      have y0 := (HR.out.2.cell (p := ⟨pb, 0, none⟩) lb1).trans b1
      have y1 := (HR.out.2.cell (p := ⟨pw, 0, none⟩) lw1).trans c1
      have HA : Hid (At wr.drew p q N O y g ws) := (HA1.out.below HR.out.2 (Nat.le_refl _)).below (Below.refl _ wr).drew (Nat.le_refl _)
      have hs := HR.out.2.size
      have lzr : zb < wr.heap.size := by omega
      have lbr : pb < wr.heap.size := by omega
      have lwr : pw < wr.heap.size := by omega
      have hbx : 0 ≤ (thO N y g ws).getD j 0 ∧ (thO N y g ws).getD j 0 ≤ 2000 := HBO.out.1 _ (by
        rw [List.getD_eq_getElem?_getD, List.getElem?_eq_getElem hlt]
        exact List.getElem_mem hlt)
      have HE : Hid ((((thO N y g ws).take (j + 1)).map (fun v => ld N y g ws (v + 1))) = (((thO N y g ws).take j).map (fun v => ld N y g ws (v + 1))) ++ [ld N y g ws ((thO N y g ws).getD j 0 + 1)]) := by
        show _ = _
        rw [take_snoc (thO N y g ws) j hlt 0, List.map_append]
        rfl
      have hle : (thO N y g ws).length ≤ 2000 := ths_le _ _
      generalize (thO N y g ws).getD j 0 = x at x1 HE hbx
      have hwr : IntKind.i64.wrap (x + 1) = x + 1 := by rw [IntKind.wrap_i64]; omega
      have PL := load_any (x + 1) wr.drew HA.out
      generalize ld N y g ws (x + 1) = v at HE PL
      have j0 : (0 : Int) ≤ (j : Int) := by omega
      have j1 : (j : Int) < ((thO N y g ws).length : Int) := by omega
      clear hc HA
      subst ez
      go_wp2_with fail
      go_region_held3 (fun w' => w'.cell? ⟨pb, 0, none⟩ = some (.pointer (some ⟨pw, 0, none⟩)) ∧ w'.cell? ⟨pw, 0, none⟩ = some (.pointer (some ⟨p, 0, none⟩)) ∧ w'.cell? ⟨zb, zo + j, none⟩ = some (.int .i64 x)) (go_keep)
        (first
          | (go_at_call 27; refine PL.mono ?_; clear PL; rintro e w3 ⟨rfl, hb3⟩; have hB3 : Below wr.heap.size wr w3 := (Below.refl _ wr).drew.trans hb3; have q0 := (hB3.cell (p := ⟨pb, 0, none⟩) lbr).trans y0; have q1 := (hB3.cell (p := ⟨pw, 0, none⟩) lwr).trans y1; have q2 := (hB3.cell (p := ⟨zb, zo + j, none⟩) lzr).trans x1; have hT3 := row_keep HR.out.1 (fun k e => hB3.block k (row_lt HR.out.1 k e).2); have hs3 := hB3.size; clear hb3)
          | (refine step_append_lies _ rfl (.tmp 25) (.tmp 39) 42 rfl w1.heap.size 2 i0 (.int .i64 0) 1 8 Tryz.underlying42 hi hz0 hz1 hz2 rfl (by decide) (.slice a1 (j) d1) (j) ((((thO N y g ws).take j).map (fun v => ld N y g ws (v + 1))).map (Value.int .i64)) (by simp [Act.eval]) (row_alloc hT3 _) ⟨w3.heap.size, 0, none⟩ 1 1 [.int .i64 v] (by simp [Act.eval]) rfl ?_ ?_ (by decide) (by unfold maxLen; omega) (by omega) (by simp; omega) _ rfl ?_; (intro j u hj; match j, hj with | 0, hj => (simp at hj; subst hj; simp [Addr.add])); (intro u hu; simp at hu; subst hu; rfl); intro b6 cap6 w6 hown6 hgrow6 hat6 hlt6; have q3 : w6.cell? ⟨pb, 0, none⟩ = some (.pointer (some ⟨pw, 0, none⟩)) := hgrow6.cell ((((Below.refl w3.heap.size w3).alloc (Nat.le_refl _) _).cell (p := ⟨pb, 0, none⟩) (by show pb < _; omega)).trans q0) (fun e => by have := (row_lt HR.out.1 _ e).1; simp at this; omega); have q4 : w6.cell? ⟨pw, 0, none⟩ = some (.pointer (some ⟨p, 0, none⟩)) := hgrow6.cell ((((Below.refl w3.heap.size w3).alloc (Nat.le_refl _) _).cell (p := ⟨pw, 0, none⟩) (by show pw < _; omega)).trans q1) (fun e => by have := (row_lt HR.out.1 _ e).1; simp at this; omega); have q5 : w6.cell? ⟨zb, zo + j, none⟩ = some (.int .i64 x) := hgrow6.cell ((((Below.refl w3.heap.size w3).alloc (Nat.le_refl _) _).cell (p := ⟨zb, zo + j, none⟩) (by show zb < _; omega)).trans q2) (fun e => by have := (row_lt HR.out.1 _ e).1; simp at this; omega)))
      have HR6 : Hid (w6.ownsRow w1.heap.size 2 1 (.slice (some ⟨b6, 0, none⟩) ((j + 1)) cap6) ((j + 1)) ((((thO N y g ws).take (j + 1)).map (fun v => ld N y g ws (v + 1))).map (Value.int .i64)) ∧ Below w1.heap.size w1 w6) := by
        refine ⟨?_, ?_⟩
        · rw [HE.out, List.map_append]
          exact hown6
        · exact ((HR.out.2.trans (hB3.mono hs)).alloc (by omega) _).grown hgrow6 (by simp; omega) (fun k e => (row_lt HR.out.1 k e.symm).1)
      clear hown6 hgrow6 hat6 hlt6 hT3 hB3 HR q0 q1 q2 q3 q4 q5 y0 y1 x1 HE
      go_wp2_with fail
      go_roundw
      case rel => exact ⟨j + 1, some ⟨b6, 0, none⟩, cap6, by omega, by go_num, rfl, HR6⟩
      case measure => simp [intOf]; omega
    · obtain rfl : j = (thO N y g ws).length := by omega
      clear hlt
      obtain ⟨n0, hn0⟩ : ∃ n0, n0 = (thO N y g ws).length := ⟨_, rfl⟩
      rw [← hn0] at HR lO ⊢
      have HN0 : Hid (n0 = (thO N y g ws).length) := hn0
      clear hn0
      go_wp2_with fail
      go_loopw [5, 7] (fun ov iv wr => ∃ (j : Nat) (a1 : Option Addr) (d1 : Nat), j ≤ (thY N y g ws).length ∧ iv = .int .i64 j ∧ ov = .slice a1 (n0 + j) d1 ∧ Hid (wr.ownsRow w1.heap.size 2 1 (.slice a1 (n0 + j) d1) (n0 + j) (((thO N y g ws).map (fun v => ld N y g ws (v + 1)) ++ ((thY N y g ws).take j).map (fun v => ld N y g ws (v + 1))).map (Value.int .i64)) ∧ Below w1.heap.size w1 wr)) (fun _ iv _ => (thY N y g ws).length - (intOf iv).toNat)
      case atStart => 
        refine ⟨0, a1, d1, Nat.zero_le _, rfl, rfl, ?_, HR.out.2⟩
        have q := HR.out.1
        rw [show (thO N y g ws).take n0 = thO N y g ws from by rw [HN0.out, List.take_length]] at q
        simpa using q
      case round =>
        obtain ⟨j, a1, d1, hj, rfl, rfl, HR⟩ := hrel
        by_cases hlt : j < (thY N y g ws).length
        · obtain ⟨zb, zo, ez, lz, hc⟩ := row_ints HO.out.1 (by omega)
          have x1 := (HR.out.2.cell (p := ⟨zb, zo + j, none⟩) lz).trans (hc j hlt)
          have y0 := (HR.out.2.cell (p := ⟨pb, 0, none⟩) lb1).trans b1
          have y1 := (HR.out.2.cell (p := ⟨pw, 0, none⟩) lw1).trans c1
          have HA : Hid (At wr.drew p q N O y g ws) := (HA1.out.below HR.out.2 (Nat.le_refl _)).below (Below.refl _ wr).drew (Nat.le_refl _)
          have hs := HR.out.2.size
          have lzr : zb < wr.heap.size := by omega
          have lbr : pb < wr.heap.size := by omega
          have lwr : pw < wr.heap.size := by omega
          have hbx : 0 ≤ (thY N y g ws).getD j 0 ∧ (thY N y g ws).getD j 0 ≤ 2000 := HBO.out.2 _ (by
            rw [List.getD_eq_getElem?_getD, List.getElem?_eq_getElem hlt]
            exact List.getElem_mem hlt)
          have HE : Hid (((thO N y g ws).map (fun v => ld N y g ws (v + 1)) ++ ((thY N y g ws).take (j + 1)).map (fun v => ld N y g ws (v + 1))) = ((thO N y g ws).map (fun v => ld N y g ws (v + 1)) ++ ((thY N y g ws).take j).map (fun v => ld N y g ws (v + 1))) ++ [ld N y g ws ((thY N y g ws).getD j 0 + 1)]) := by
            show _ = _
            rw [take_snoc (thY N y g ws) j hlt 0, List.map_append, List.append_assoc]
            rfl
          have hle : (thY N y g ws).length ≤ 2000 := ths_le _ _
          generalize (thY N y g ws).getD j 0 = x at x1 HE hbx
          have hwr : IntKind.i64.wrap (x + 1) = x + 1 := by rw [IntKind.wrap_i64]; omega
          have PL := load_any (x + 1) wr.drew HA.out
          generalize ld N y g ws (x + 1) = v at HE PL
          have j0 : (0 : Int) ≤ (j : Int) := by omega
          have j1 : (j : Int) < ((thY N y g ws).length : Int) := by omega
          clear hc HA
          subst ez
          go_wp2_with fail
          go_region_held3 (fun w' => w'.cell? ⟨pb, 0, none⟩ = some (.pointer (some ⟨pw, 0, none⟩)) ∧ w'.cell? ⟨pw, 0, none⟩ = some (.pointer (some ⟨p, 0, none⟩)) ∧ w'.cell? ⟨zb, zo + j, none⟩ = some (.int .i64 x)) (go_keep)
            (first
              | (go_at_call 27; refine PL.mono ?_; clear PL; rintro e w3 ⟨rfl, hb3⟩; have hB3 : Below wr.heap.size wr w3 := (Below.refl _ wr).drew.trans hb3; have q0 := (hB3.cell (p := ⟨pb, 0, none⟩) lbr).trans y0; have q1 := (hB3.cell (p := ⟨pw, 0, none⟩) lwr).trans y1; have q2 := (hB3.cell (p := ⟨zb, zo + j, none⟩) lzr).trans x1; have hT3 := row_keep HR.out.1 (fun k e => hB3.block k (row_lt HR.out.1 k e).2); have hs3 := hB3.size; clear hb3)
              | (refine step_append_lies _ rfl (.tmp 47) (.tmp 61) 42 rfl w1.heap.size 2 i0 (.int .i64 0) 1 8 Tryz.underlying42 hi hz0 hz1 hz2 rfl (by decide) (.slice a1 (n0 + j) d1) (n0 + j) (((thO N y g ws).map (fun v => ld N y g ws (v + 1)) ++ ((thY N y g ws).take j).map (fun v => ld N y g ws (v + 1))).map (Value.int .i64)) (by simp [Act.eval]) (row_alloc hT3 _) ⟨w3.heap.size, 0, none⟩ 1 1 [.int .i64 v] (by simp [Act.eval]) rfl ?_ ?_ (by decide) (by unfold maxLen; omega) (by omega) (by simp; omega) _ rfl ?_; (intro j u hj; match j, hj with | 0, hj => (simp at hj; subst hj; simp [Addr.add])); (intro u hu; simp at hu; subst hu; rfl); intro b6 cap6 w6 hown6 hgrow6 hat6 hlt6; have q3 : w6.cell? ⟨pb, 0, none⟩ = some (.pointer (some ⟨pw, 0, none⟩)) := hgrow6.cell ((((Below.refl w3.heap.size w3).alloc (Nat.le_refl _) _).cell (p := ⟨pb, 0, none⟩) (by show pb < _; omega)).trans q0) (fun e => by have := (row_lt HR.out.1 _ e).1; simp at this; omega); have q4 : w6.cell? ⟨pw, 0, none⟩ = some (.pointer (some ⟨p, 0, none⟩)) := hgrow6.cell ((((Below.refl w3.heap.size w3).alloc (Nat.le_refl _) _).cell (p := ⟨pw, 0, none⟩) (by show pw < _; omega)).trans q1) (fun e => by have := (row_lt HR.out.1 _ e).1; simp at this; omega); have q5 : w6.cell? ⟨zb, zo + j, none⟩ = some (.int .i64 x) := hgrow6.cell ((((Below.refl w3.heap.size w3).alloc (Nat.le_refl _) _).cell (p := ⟨zb, zo + j, none⟩) (by show zb < _; omega)).trans q2) (fun e => by have := (row_lt HR.out.1 _ e).1; simp at this; omega)))
          have HR6 : Hid (w6.ownsRow w1.heap.size 2 1 (.slice (some ⟨b6, 0, none⟩) (n0 + (j + 1)) cap6) (n0 + (j + 1)) (((thO N y g ws).map (fun v => ld N y g ws (v + 1)) ++ ((thY N y g ws).take (j + 1)).map (fun v => ld N y g ws (v + 1))).map (Value.int .i64)) ∧ Below w1.heap.size w1 w6) := by
            refine ⟨?_, ?_⟩
            · rw [HE.out, List.map_append]
              exact hown6
            · exact ((HR.out.2.trans (hB3.mono hs)).alloc (by omega) _).grown hgrow6 (by simp; omega) (fun k e => (row_lt HR.out.1 k e.symm).1)
          clear hown6 hgrow6 hat6 hlt6 hT3 hB3 HR q0 q1 q2 q3 q4 q5 y0 y1 x1 HE
          go_wp2_with fail
          go_roundw
          case rel => exact ⟨j + 1, some ⟨b6, 0, none⟩, cap6, by omega, by go_num, by rw [← Nat.add_assoc], HR6⟩
          case measure => simp [intOf]; omega
        · obtain rfl : j = (thY N y g ws).length := by omega
          have HF : Hid (wr.ownsRow w.heap.size 2 1 (.slice a1 (n0 + (thY N y g ws).length) d1) (n0 + (thY N y g ws).length) ((nmL N y g ws).map (Value.int .i64)) ∧ n0 + (thY N y g ws).length = (nmL N y g ws).length ∧ Below w.heap.size w wr) := by
            obtain ⟨q1, q2⟩ := HR.out
            rw [List.take_length] at q1
            refine ⟨?_, ?_, HO.out.2.2.trans (q2.mono hs1)⟩
            · rw [EN.out]
              exact row_base q1 (fun b e => Nat.le_trans hs1 (row_lt q1 b e).1)
            · rw [EN.out, List.length_append, List.length_map, List.length_map, HN0.out]
          clear HR
          go_wp2_with fail
          go_ret
          rw [← HF.out.2.1]
          exact ⟨a1, d1, rfl, HF.out.1, HF.out.2.2⟩

end Go.Proofs.YtmocakafnnkjfabGreat

/- MajorSlides: woods of vectors of one field that leads nowhere: lists alone. -/
namespace Go.Proofs.YtmocakafnnkjfabGreat
open Go.RowKit W Kp Stl

def V1 (a : Wc) (s : Wst) (Y G : List Int) : Prop := ∀ v, (v ∈ Y ∨ v ∈ G) → pk (ld a.N s.y s.g s.ws v) = 2 ∧ pf (ld a.N s.y s.g s.ws v) = 1 ∧ aB (ld a.N s.y s.g s.ws (v + 1)) = false
structure Sv1 (a : Wc) (W : Ww) : Prop where
  k : ∃ Y G, KInv a W.s Y G ∧ V1 a W.s Y G
  r : W.r = []
  q : W.q = []

section
variable {a : Wc} {s : Wst} {W : Ww} {Y G : List Int}

theorem V1.k12 (h : V1 a s Y G) : K12 a s Y G := fun v hv => Or.inr (h v hv).1
theorem Sv1.so (h : Sv1 a W) : So0 a W := by
  obtain ⟨Y, G, h1, h2⟩ := h.k
  exact ⟨⟨Y, G, h1, h2.k12⟩, h.r, h.q⟩
theorem V1.cd (h : V1 a s Y G) : CdI a.N a.O s.y s.g s.ws s.M Y G := fun v hv i i0 i1 ha => by
  obtain ⟨_, h2, h3⟩ := h v (Or.inr hv)
  have e : i = 0 := by omega
  rw [e, Int.add_zero, h3] at ha
  cases ha
theorem Sv1.start (a : Wc) (n o : Nat) : Sv1 a (bo0 n o).1 := by
  obtain ⟨Y, G, h1, _⟩ := Sok.start a n o
  refine ⟨⟨[], [], ⟨⟨Full2.start, fun x hx ha => ?_, fun v hv => ?_⟩, fun v hv => (by cases hv)⟩, fun v hv => ?_⟩, rfl, rfl⟩
  · have hx : x ∈ tw 2 12 := hx
    have e : x = 2 := by simpa [tw] using hx
    rw [e, aB_two] at ha
    cases ha
  · rcases hv with d | d <;> cases d
  · rcases hv with d | d <;> cases d
theorem Sv1.root (h : Sv1 a W) (i : Nat) : Sv1 a ⟨{ W.s with rs := W.s.rs.set i 2 }, W.r, W.q⟩ := by
  obtain ⟨Y, G, h1, h2⟩ := h.k
  exact ⟨⟨Y, G, h1.root i 2 (fun ha => by rw [aB_two] at ha; cases ha), h2⟩, h.r, h.q⟩
theorem Sv1.made (h : Sv1 a W) (hb : Wbd a W.s) (hm : mkB a.N W.s.y 2 1 = true) {z : Int} (hz : aB z = false) (i : Nat) : Sv1 a ⟨{ W.s with y := mkY a.N W.s.y 2 1, ws := (mkW a.N W.s.y 2 1 W.s.ws).set (W.s.y + 1) z, rs := W.s.rs.set i (ew 3 W.s.y) }, W.r, W.q⟩ := by
  obtain ⟨Y, G, h1, h2⟩ := h.k
  have m1 := h1.inv.make (O := a.O) hb.l1 hm
  obtain ⟨k1, k2⟩ := mkB_yes hm
  have eY : mkY a.N W.s.y 2 1 = W.s.y + 1 + 1 := by unfold mkY; rw [if_pos hm]; rfl
  have eW : mkW a.N W.s.y 2 1 W.s.ws = fil W.s.ws W.s.y (hw 2 1) 1 := by unfold mkW; rw [if_pos hm]; rfl
  have hlw := hb.l1
  have hyN := hb.y1
  have hN := hb.n1
  have hlt : W.s.y + 1 < W.s.ws.length := by omega
  have hlf : (mkW a.N W.s.y 2 1 W.s.ws).length = a.N + a.O := by
    rw [eW, length_fil]
    exact hlw
  have hW : ∀ q : Nat, ((mkW a.N W.s.y 2 1 W.s.ws).set (W.s.y + 1) z).getD q 0 = if q = W.s.y + 1 then z else if q = W.s.y then hw 2 1 else W.s.ws.getD q 0 := fun q => by
    by_cases c : q = W.s.y + 1
    · rw [if_pos c, c, List.getD_eq_getElem?_getD, List.getElem?_set_self (by rw [hlf]; omega)]
      rfl
    · rw [if_neg c, List.getD_eq_getElem?_getD, List.getElem?_set_ne (by omega), ← List.getD_eq_getElem?_getD, eW, fil_get _ _ _ _ _ hlt]
      by_cases d : q = W.s.y
      · rw [if_pos d, if_pos d]
      · rw [if_neg d, if_neg d, if_neg (by omega)]
  obtain ⟨w1, w2⟩ := ew_at W.s.y (by omega)
  have hd0 : ld a.N (mkY a.N W.s.y 2 1) W.s.g (mkW a.N W.s.y 2 1 W.s.ws) W.s.y = hw 2 1 := by
    rw [ld_in (iB_y (by omega) (by rw [eY]; omega)), eW, fil_get _ _ _ _ _ (by omega), if_pos (by omega)]
  obtain ⟨p1, p2, _⟩ := parts_head 2 1 k1
  have m2 := m1.set (O := a.O) hlf (by rw [eY]; omega) hb.g1 (v := (W.s.y : Int)) (i := 0) (z := z) (Or.inl (by simp)) (by omega) (by rw [hd0, p2]; decide) (fun ha => by rw [hz] at ha; cases ha)
  rw [show ((W.s.y : Int) + 1 + 0).toNat = W.s.y + 1 from by omega] at m2
  have m3 := m2.root i (ew 3 W.s.y) (fun _ => Or.inl (by rw [w2]; simp))
  have V : V1 a { W.s with y := mkY a.N W.s.y 2 1, ws := (mkW a.N W.s.y 2 1 W.s.ws).set (W.s.y + 1) z, rs := W.s.rs.set i (ew 3 W.s.y) } (Y ++ [(W.s.y : Int)]) G := fun v hv => by
    dsimp only
    have old : (v ∈ Y ∨ v ∈ G) → ld a.N (mkY a.N W.s.y 2 1) W.s.g ((mkW a.N W.s.y 2 1 W.s.ws).set (W.s.y + 1) z) v = ld a.N W.s.y W.s.g W.s.ws v ∧ ld a.N (mkY a.N W.s.y 2 1) W.s.g ((mkW a.N W.s.y 2 1 W.s.ws).set (W.s.y + 1) z) (v + 1) = ld a.N W.s.y W.s.g W.s.ws (v + 1) := fun d => by
      have hp := (h2 v d).2.1
      have key : ∀ q : Int, ((0 ≤ q ∧ q < W.s.y) ∨ ((a.N : Int) ≤ q ∧ q < a.N + W.s.g)) → ld a.N (mkY a.N W.s.y 2 1) W.s.g ((mkW a.N W.s.y 2 1 W.s.ws).set (W.s.y + 1) z) q = ld a.N W.s.y W.s.g W.s.ws q := fun q hq => by
        rw [ld_in ((iB_bool _ _ _ _).2 (by rw [eY]; omega)), ld_in ((iB_bool _ _ _ _).2 (by omega)), hW, if_neg (by omega), if_neg (by omega)]
      rcases d with d | d
      · have q1 := h1.inv.full.ty.mem v d
        exact ⟨key v (by omega), key (v + 1) (by omega)⟩
      · have q1 := h1.inv.full.to.mem v d
        exact ⟨key v (by omega), key (v + 1) (by omega)⟩
    have hv2 : (v ∈ Y ∨ v ∈ G) ∨ v = W.s.y := by
      rcases hv with d | d
      · rcases List.mem_append.1 d with d | d
        · exact Or.inl (Or.inl d)
        · exact Or.inr (by simpa using d)
      · exact Or.inl (Or.inr d)
    rcases hv2 with d | d
    · rw [(old d).1, (old d).2]
      exact h2 v d
    · rw [d, ld_in (iB_y (by omega) (by rw [eY]; omega)), ld_in (iB_y (by omega) (by rw [eY]; omega)), hW, hW, if_neg (by omega), if_pos (by omega), if_pos (by omega)]
      exact ⟨p1, p2, hz⟩
  exact ⟨⟨Y ++ [(W.s.y : Int)], G, ⟨m3, V.cd⟩, V⟩, h.r, h.q⟩
theorem Sv1.cut (h : Sv1 a W) (hb : Wbd a W.s) : Sv1 a (W.cut a) := by
  have hs := h.so.cut hb
  cases hf : W.full a
  · obtain ⟨Y, G, h1, h2⟩ := h.k
    have hr : W.s.y ≤ a.O - W.s.g := by
      unfold Ww.full at hf
      have := of_decide_eq_false hf
      omega
    obtain ⟨K, D, c⟩ := cut_rest h1 hb hr
    have hW := c.done h1 hb
    have e6 := s6_same c h1 hb h2.k12
    have hT : (W.s.k0 a).T = Y := Tw_eq h1.inv.full hb.n1 hb.y1 hb.o1 hb.g1
    refine ⟨⟨[], G ++ K, ?_, ?_⟩, hs.r, hs.q⟩
    · unfold Ww.cut
      rw [hf, if_neg (by simp)]
      exact ⟨hW, fun v _ i _ _ _ hy => by cases hy⟩
    · unfold Ww.cut
      rw [hf, if_neg (by simp)]
      intro v hv
      have hv : v ∈ G ++ K := hv.resolve_left (by simp)
      obtain ⟨u, o⟩ := c.li.mi.from hv
      have hu : u ∈ Y ∨ u ∈ G := by
        rcases o with ⟨e, d⟩ | ⟨d, _⟩
        · exact Or.inr (by rw [e]; exact d)
        · rw [hT] at d
          exact Or.inl d
      obtain ⟨u1, u2, u3⟩ := h2 u hu
      have hv0 : (a.N : Int) ≤ v := (c.li.mi.bd hv).1
      have e1 : ld a.N 0 (W.s6 a).g (W.s6 a).ws v = ld a.N W.s.y W.s.g W.s.ws u := by
        rw [e6, ld_old (y := W.s.y) hv0 hb.y1]
        exact c.li.mi.hd u v o
      have e2 : ld a.N 0 (W.s6 a).g (W.s6 a).ws (v + 1) = ld a.N W.s.y W.s.g W.s.ws (u + 1) := by
        rw [e6, ld_old (y := W.s.y) (by omega) hb.y1]
        have q := c.li.mi.fd u v o 0 (by omega) (by show (0 : Int) < pf (ld a.N W.s.y W.s.g W.s.ws u); omega)
        rw [Int.add_zero, Int.add_zero] at q
        rcases q with q | ⟨q, _⟩
        · exact q
        · unfold Ck.yg at q
          rw [Bool.and_eq_true] at q
          have q1 : aB (ld a.N W.s.y W.s.g W.s.ws (u + 1)) = true := q.1
          rw [u3] at q1
          cases q1
      show pk (ld a.N 0 (W.s6 a).g (W.s6 a).ws v) = 2 ∧ pf (ld a.N 0 (W.s6 a).g (W.s6 a).ws v) = 1 ∧ aB (ld a.N 0 (W.s6 a).g (W.s6 a).ws (v + 1)) = false
      rw [e1, e2]
      exact ⟨u1, u2, u3⟩
  · have e : W.cut a = W := by unfold Ww.cut; rw [if_pos hf]
    rw [e]
    exact h
theorem sumF_two {g : Int → Nat} : ∀ {l : List Int}, (∀ a ∈ l, g a = 2) → sumF g l = 2 * l.length
  | [], _ => rfl
  | a :: l, e => by rw [sumF_cons, e a (by simp), sumF_two (fun b hb => e b (List.mem_cons_of_mem _ hb)), List.length_cons]; omega
theorem nw_same {k : Jk} {j : Js} {x : Int} (h : aB x = false) : k.nw j x = x := by
  unfold Jk.nw Jk.jt
  rw [h]
  rfl
theorem Sv1.gcut (h : Sv1 a W) (hb : Wbd a W.s) : Sv1 a (W.gcut a) ∧ (W.gcode a = 0 → (W.gcut a).s.y = 0 ∧ (W.gcut a).s.g = 2 * (nmL a.N (W.gcut a).s.y (W.gcut a).s.g (W.gcut a).s.ws).length ∧ (nmL a.N (W.gcut a).s.y (W.gcut a).s.g (W.gcut a).s.ws).Sublist (nmL a.N W.s.y W.s.g W.s.ws)) := by
  obtain ⟨_, gs, _⟩ := great_strong h.so hb
  cases hf : W.jfull a
  · obtain ⟨Y, G, h1, h2⟩ := h.k
    obtain ⟨_, n2⟩ := great_12 h1 h2.k12 hb h.r h.q
    obtain ⟨_, _, _, _, j, gc, gal, _⟩ := n2 hf
    obtain ⟨d1, _, d3, _⟩ := gc.done h1 h2.k12 hb gal
    have hF := gc.full h1.inv.full
    have key : ∀ c ∈ G ++ Y, j.f c ≠ -1 → ld a.N 0 (W.gcut a).s.g (W.gcut a).s.ws (j.f c) = ld a.N W.s.y W.s.g W.s.ws c ∧ ld a.N 0 (W.gcut a).s.g (W.gcut a).s.ws (j.f c + 1) = ld a.N W.s.y W.s.g W.s.ws (c + 1) := fun c hc hfc => by
      obtain ⟨u1, u2, u3⟩ := h2 c (List.mem_append.1 hc).symm
      have q := gc.fd c hc hfc 0 (by omega) (by omega)
      have e0 : (W.s.j0 a).bkf j c 0 = ld a.N W.s.y W.s.g W.s.ws (c + 1 + 0) := bkf_12 (k := W.s.j0 a) (Or.inr u1) 0
      rw [e0, Int.add_zero, Int.add_zero, nw_same u3] at q
      exact ⟨gc.hd c hc hfc, q⟩
    have V : V1 a (W.gcut a).s [] (j.lf (G ++ Y)) := fun v hv => by
      obtain ⟨c, c1, c2, c3⟩ := lf_mem.1 (hv.resolve_left (by simp))
      rw [gc.y, ← c3, (key c c1 c2).1, (key c c1 c2).2]
      exact h2 c (List.mem_append.1 c1).symm
    obtain ⟨e1, e2⟩ := h1.inv.full.lists (O := a.O) hb.n1 hb.y1 hb.o1 hb.g1
    obtain ⟨e5, e4⟩ := hF.lists (O := a.O) hb.n1 (Nat.zero_le _) hb.o1 gc.g
    have en : nmL a.N W.s.y W.s.g W.s.ws = (G ++ Y).map (fun v => ld a.N W.s.y W.s.g W.s.ws (v + 1)) := by
      unfold nmL
      rw [e1, e2, List.map_append]
    have en' : nmL a.N (W.gcut a).s.y (W.gcut a).s.g (W.gcut a).s.ws = ((G ++ Y).filter (fun c => !(j.f c == -1))).map (fun v => ld a.N W.s.y W.s.g W.s.ws (v + 1)) := by
      unfold nmL
      rw [gc.y, e5, e4, List.map_nil, List.append_nil]
      unfold Js.lf
      rw [List.map_map]
      refine List.map_congr_left (fun c hc => ?_)
      obtain ⟨c1, c2⟩ := List.mem_filter.1 hc
      exact (key c c1 (by simpa using c2)).2
    refine ⟨⟨⟨[], _, d1, V⟩, gs.r, gs.q⟩, fun _ => ⟨gc.y, ?_, ?_⟩⟩
    · have hs := hF.to.sum
      have hl : (nmL a.N (W.gcut a).s.y (W.gcut a).s.g (W.gcut a).s.ws).length = (j.lf (G ++ Y)).length := by
        rw [en', List.length_map]
        unfold Js.lf
        rw [List.length_map]
      have h2' : sumF (szL (ld a.N 0 (W.gcut a).s.g (W.gcut a).s.ws)) (j.lf (G ++ Y)) = 2 * (j.lf (G ++ Y)).length := sumF_two (fun v hv => by
        have q := (V v (Or.inr hv)).2.1
        rw [gc.y] at q
        unfold szL
        omega)
      rw [hl]
      omega
    · rw [en, en']
      exact List.filter_sublist.map _
  · have eG : W.gcut a = W := by unfold Ww.gcut; rw [if_pos hf]
    rw [eG]
    exact ⟨h, fun e => by unfold Ww.gcode at e; rw [if_pos hf] at e; omega⟩
end

end Go.Proofs.YtmocakafnnkjfabGreat

/- MajorSlides: Store beside a world; a number leads nowhere. -/
namespace Go.Proofs.YtmocakafnnkjfabGreat
open Go.RowKit W Kp Stl

theorem aB_four : ∀ m : Nat, m < 251 → aB (4 * (m : Int)) = false := by decide +kernel
theorem storeB_any {c : Bc} {F : Nat → Prop} {S : Ww × Wrs} {w : World} (h : (boO c).J F S w) (p x : Int) : Calls Tryz.prog 34 #[.pointer (some ⟨c.a.p, 0, none⟩), .int .i64 p, .int .i64 x] w fun e w' => ∃ F', e = .returned (.bool (iB c.a.N S.1.s.y S.1.s.g p)) ∧ (boO c).J F' (⟨{ S.1.s with ws := if iB c.a.N S.1.s.y S.1.s.g p = true then S.1.s.ws.set p.toNat x else S.1.s.ws }, S.1.r, S.1.q⟩, S.2) w' ∧ Tn F w F' w' := by
  obtain ⟨FW, h1, _, h2⟩ := bo_w h
  obtain ⟨F0, g1, g2⟩ := ws_wod h1
  obtain ⟨ha, hU⟩ := wod_arena g1
  refine (store_any p x w ha).mono ?_
  rintro e w' ⟨rfl, hA, hs⟩
  obtain ⟨j1, t1⟩ := hU w' _ _ _ hA hs
  obtain ⟨F1, j2, t2⟩ := g2 _ _ _ j1 t1
  obtain ⟨F2, j3, t3⟩ := h2 _ _ _ j2 t2
  exact ⟨F2, rfl, j3, t3⟩
theorem mk_none {N y : Nat} {ws : List Int} (h : mkB N y 2 1 = false) : mkY N y 2 1 = y ∧ mkW N y 2 1 ws = ws ∧ mkR N y 2 1 = -1 := by
  refine ⟨?_, ?_, ?_⟩
  · unfold mkY; rw [h]; rfl
  · unfold mkW; rw [h]; rfl
  · unfold mkR; rw [h]; rfl
theorem mk_some {N y : Nat} (h : mkB N y 2 1 = true) : mkY N y 2 1 = y + 2 ∧ mkR N y 2 1 = y ∧ y + 2 ≤ N := by
  have h2 := (mkB_yes h).2
  refine ⟨?_, ?_, by omega⟩
  · unfold mkY; rw [if_pos h]; rfl
  · unfold mkR; rw [if_pos h]

end Go.Proofs.YtmocakafnnkjfabGreat

/- In a region that draws its order: where one operation alone may come up. -/
namespace Go.Proofs.YtmocakafnnkjfabGreat
open Go

end Go.Proofs.YtmocakafnnkjfabGreat

/- SameVals, SameView of what is the same: contracts. -/
namespace Go.Proofs.YtmocakafnnkjfabGreat
open Go.RowKit W Kp Stl

end Go.Proofs.YtmocakafnnkjfabGreat

/- SameView of what is the same: a contract. -/
namespace Go.Proofs.YtmocakafnnkjfabGreat
open Go.RowKit W Kp Stl

theorem Ln.at {w : World} {ad : Option Addr} {ns : List (Int × List (Int × Int))} (h : Ln w ad ns) {i : Nat} (hi : i < ns.length) : ∃ b o fa fc, ad = some ⟨b, o, none⟩ ∧ b < w.heap.size ∧ w.cell? ⟨b, o + i * 2, none⟩ = some (.int .i64 (ns.getD i (0, [])).1) ∧ w.cell? ⟨b, o + i * 2 + 1, none⟩ = some (.slice fa (ns.getD i (0, [])).2.length fc) ∧ Lp w fa (ns.getD i (0, [])).2 := by
  obtain ⟨m, h1, h2, h3⟩ := h
  have hl : m.length = ns.length := by rw [← h1]; simp [nds]
  obtain ⟨b, o, e, hb, hc⟩ := h3 (by omega)
  obtain ⟨x, hx⟩ : ∃ x, m[i]? = some x := ⟨_, List.getElem?_eq_getElem (by omega)⟩
  have en : ns.getD i (0, []) = (x.1, x.2.2.2) := by
    subst h1
    rw [List.getD_eq_getElem?_getD, nds, List.getElem?_map, hx]
    rfl
  rw [en]
  exact ⟨b, o, _, _, e, hb, (hc i _ hx).1, (hc i _ hx).2, h2 _ (List.mem_of_getElem? hx)⟩

end Go.Proofs.YtmocakafnnkjfabGreat

/- Size of a view: a contract. -/
namespace Go.Proofs.YtmocakafnnkjfabGreat
open Go.RowKit W Kp Stl

theorem szV_snoc (ns : List (Int × List (Int × Int))) (i : Nat) (h : i < ns.length) : szV (ns.take (i + 1)) = szV (ns.take i) + (1 + if (ns.getD i (0, [])).1 = 5 then 0 else (ns.getD i (0, [])).2.length) := by
  have e : ns.getD i (0, []) = ns[i] := by rw [List.getD_eq_getElem?_getD, List.getElem?_eq_getElem h]; rfl
  rw [List.take_succ_eq_append_getElem h, e]
  unfold szV
  rw [List.map_append, List.sum_append]
  simp only [List.map_cons, List.map_nil, List.sum_cons, List.sum_nil, Nat.add_zero]
theorem szV_le : ∀ ns : List (Int × List (Int × Int)), (∀ nd ∈ ns, nd.2.length ≤ 1000) → szV ns ≤ ns.length * 1001
  | [], _ => Nat.le_refl _
  | nd :: ns, h => by
    have h1 := szV_le ns (fun x hx => h x (List.mem_cons_of_mem _ hx))
    have h2 := h nd (by simp)
    have e : szV (nd :: ns) = (1 + if nd.1 = 5 then 0 else nd.2.length) + szV ns := by simp [szV]
    rw [e, List.length_cons]
    split <;> omega

set_option maxRecDepth 100000 in
set_option maxHeartbeats 1000000 in
theorem size_any {ns : List (Int × List (Int × Int))} (r na : Option Addr) (rl rc nc : Nat) (w : World) (hl : ns.length ≤ 100000) (hf : ∀ nd ∈ ns, nd.2.length ≤ 1000) (h : Ln w na ns) :
    Calls Tryz.prog 23 #[.agg #[.slice r rl rc, .slice na ns.length nc]] w fun e w' => e = .returned (.int .i64 (szV ns)) ∧ Below w.heap.size w w' := by
  have hb0 := (Below.refl w.heap.size w).alloc (Nat.le_refl _) (.cells #[.slice r rl rc, .slice na ns.length nc] 50)
  have hx0 := heap_alloc_new w (.cells #[.slice r rl rc, .slice na ns.length nc] 50)
  have HL : Hid (Ln (w.alloc (.cells #[.slice r rl rc, .slice na ns.length nc] 50)) na ns) := h.below hb0
  have HF : Hid (∀ nd ∈ ns, nd.2.length ≤ 1000) := hf
  clear h hf
  go_enter Tryz.func23, Tryz.ntmps23
  go_wp2_with fail
  have HB0 : Hid (Below w.heap.size w (w.alloc (.cells #[.slice r rl rc, .slice na ns.length nc] 50))) := hb0
  clear hb0
  generalize w.alloc (.cells #[.slice r rl rc, .slice na ns.length nc] 50) = w1 at *
  obtain ⟨B, hB⟩ : ∃ B, w.heap.size = B := ⟨_, rfl⟩
  rw [hB] at hx0 ⊢
  have z1 : w1.cell? ⟨B, 1, none⟩ = some (.slice na ns.length nc) := by simp [World.cell?, hx0]
  clear hx0
  go_loopw [3, 4] (fun nv iv wr => ∃ i : Nat, i ≤ ns.length ∧ iv = .int .i64 i ∧ nv = .int .i64 (szV (ns.take i)) ∧ wr = w1) (fun _ iv _ => ns.length - (intOf iv).toNat)
  case atStart => exact ⟨0, Nat.zero_le _, rfl, rfl, rfl⟩
  case round =>
    obtain ⟨i, hi, rfl, rfl, rfl⟩ := hrel
    by_cases hlt : i < ns.length
    · obtain ⟨b, oo, fa, fc, e, lb, x1, x2, _⟩ := HL.out.at hlt
      subst e
      have hs := szV_snoc ns i hlt
      have hle := szV_le (ns.take i) (fun nd hnd => HF.out nd (List.mem_of_mem_take hnd))
      rw [List.length_take] at hle
      have hfl : (ns.getD i (0, [])).2.length ≤ 1000 := HF.out _ (by rw [List.getD_eq_getElem?_getD, List.getElem?_eq_getElem hlt]; exact List.getElem_mem hlt)
      have hle2 : szV (ns.take i) ≤ 200000000 := by omega
      have i0 : (0 : Int) ≤ (i : Int) := by omega
      have i1 : (i : Int) < (ns.length : Int) := by omega
      generalize szV (ns.take i) = z at *
      generalize (ns.getD i (0, [])).1 = kk at *
      generalize (ns.getD i (0, [])).2.length = ff at *
      clear hle
      by_cases h5 : kk = 5
      · subst h5
        rw [if_pos rfl] at hs
        have HZ : Hid (szV (ns.take (i + 1)) = z + (1 + 0)) := hs
        clear hs
        go_wp2_with fail
        go_roundw
        case rel => exact ⟨i + 1, by omega, by go_num, by rw [HZ.out]; go_num, trivial⟩
        case measure => simp [intOf]; omega
      · rw [if_neg h5] at hs
        have HZ : Hid (szV (ns.take (i + 1)) = z + (1 + ff)) := hs
        clear hs
        go_wp2_with fail
        go_roundw
        case rel => exact ⟨i + 1, by omega, by go_num, by rw [HZ.out]; go_num, trivial⟩
        case measure => simp [intOf]; omega
    · obtain rfl : i = ns.length := by omega
      rw [List.take_length]
      go_wp2_with fail
      go_ret
      exact ⟨rfl, HB0.out⟩

end Go.Proofs.YtmocakafnnkjfabGreat

/- View: a contract, with where what it tells lies: in blocks that are new. -/
namespace Go.Proofs.YtmocakafnnkjfabGreat
open Go.RowKit W Kp Stl

section
variable {w : World} {pw p q N O y g : Nat} {ws : List Int} {sd : Nat} {v0 : Value} {a1 : Option Addr} {k1 : Nat} {Q : List En} {l : List Int} {ra : Option Addr} {rc : Nat}

end

end Go.Proofs.YtmocakafnnkjfabGreat

/- A wood and a world: View of the wood, with where what it tells lies. -/
namespace Go.Proofs.YtmocakafnnkjfabGreat
open Go.RowKit W Kp Stl

section
variable {c : Bc} {F : Nat → Prop} {S : Ww × Wrs} {w : World}

end

end Go.Proofs.YtmocakafnnkjfabGreat
