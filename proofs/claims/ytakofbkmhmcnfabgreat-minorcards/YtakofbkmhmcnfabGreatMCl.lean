/- MinorCards: its walk. -/
import Derived.Test.YtakofbkmhmcnfabGreatJ28
import Derived.Test.YtakofbkmhmcnfabGreatJ14
import Derived.Deep.RegionHeld3
namespace Go.Proofs.YtakofbkmhmcnfabGreat.MCl
open Go.RowKit W Kp Stl

theorem KInv.dirty {a : Wc} {s : Wst} {Y G : List Int} (h : KInv a s Y G) (hb : Wbd a s) {v i : Int} (hv : v ∈ G) (i0 : 0 ≤ i) (i1 : i < pf (ld a.N s.y s.g s.ws v)) (ha : aB (ld a.N s.y s.g s.ws (v + 1 + i)) = true) (hy : hB 0 s.y (aV (ld a.N s.y s.g s.ws (v + 1 + i))) = true) : (cB a.N (nC a.O) v && s.M.contains (cN a.N v)) = true := by
  have h1 := hB_yes hy
  rcases h.inv.fd v (Or.inr hv) i i0 i1 ha with d | d
  · exact h.cd v hv i i0 i1 ha d
  · have := h.inv.full.io _ d
    have := hb.y1
    omega
theorem run_code (x y : Value) (w : World) : Sem.run Tryz.prog (Instr.field 28 (.agg #[x, y]) 0) w = .ok x w := by
  unfold Instr.field
  simp [go_sem]
  rfl

set_option maxRecDepth 100000 in
set_option maxHeartbeats 8000000 in
theorem walk (n o : Int) (a : Option Addr) (cc : Nat) (l : List S4) (w : World) (hl : L4 w a l) :
    Calls Tryz.prog 5 #[.int .i64 n, .int .i64 o, .slice a l.length cc] w fun e w' => e = .returned (.bool true) ∧ Below w.heap.size w w' := by
  have HL : Hid (L4 w a l) := hl
  clear hl
  by_cases hlen : 250 < l.length
  · go_enter Tryz.func5, Tryz.ntmps5
    go_wp2_with fail
    refine (minorBegun_any w).mono ?_
    rintro e w1 ⟨rfl, hb1⟩
    have h2 : (250 : Int) < (l.length : Int) := by omega
    go_wp2_with fail
    go_ret
    exact ⟨rfl, hb1⟩
  · have h2 : ¬ ((250 : Int) < (l.length : Int)) := by omega
    by_cases hno : n < 16 ∨ 256 < n ∨ o < 0 ∨ 1024 < o
    · have HNO : Hid (n < 16 ∨ 256 < n ∨ o < 0 ∨ 1024 < o) := hno
      clear hno
      go_enter Tryz.func5, Tryz.ntmps5
      go_wp2_with fail
      refine (minorBegun_any w).mono ?_
      rintro e w1 ⟨rfl, hb1⟩
      go_wp2_with fail
      refine (start_no n o w1 HNO.out).mono ?_
      rintro e w2 ⟨rfl, hb2⟩
      go_wp2_with fail
      refine (roomFault_no n o w2 HNO.out).mono ?_
      rintro e w3 ⟨rfl, hb3⟩
      have hB2 := hb1.trans (hb2.mono hb1.size)
      have hrn := run_code (.int .i64 1) (.int .i64 (-1))
      go_wp2_with fail
      go_ret
      exact ⟨rfl, hB2.trans (hb3.mono hB2.size)⟩
    · have hn0 : 16 ≤ n ∧ n ≤ 256 ∧ 0 ≤ o ∧ o ≤ 1024 := by omega
      obtain ⟨n, rfl⟩ := Int.eq_ofNat_of_zero_le (show 0 ≤ n by omega)
      obtain ⟨o, rfl⟩ := Int.eq_ofNat_of_zero_le (show 0 ≤ o by omega)
      go_enter Tryz.func5, Tryz.ntmps5
      go_wp2_with fail
      refine (minorBegun_any w).mono ?_
      rintro e w1 ⟨rfl, hb1⟩
      go_wp2_with fail
      refine (start_yes n o w1 (by omega) (by omega) (by omega)).mono ?_
      rintro e w2 ⟨c, F1, rfl, j1, ⟨k1, k2, k3, k4⟩, g1, b1⟩
      have HC : Hid (0 ≤ c.most ∧ c.most ≤ 100000) := ⟨by rw [k3]; omega, by rw [k3]; omega⟩
      have H2 : Hid ((boO c).J F1 (bo0 n o) w2 ∧ Bok c (bo0 n o) 0 ∧ ∀ b, F1 b → w1.heap.size ≤ b) := ⟨j1, Bok.start c n o, g1⟩
      have HB2 : Hid (Below w1.heap.size w1 w2) := b1
      clear j1 k1 k2 k3 k4 g1 b1 hno hn0
      go_wp2_with fail
      go_loopw [9] (fun iv wr => ∃ (j : Nat) (S : Ww × Wrs) (F : Nat → Prop), j ≤ l.length ∧ iv = .int .i64 j ∧ Hid ((boO c).J F S wr ∧ Bok c S j ∧ ∀ b, F b → w1.heap.size ≤ b) ∧ Hid (Below w1.heap.size w1 wr)) (fun iv _ => l.length - (intOf iv).toNat)
      case atStart => exact ⟨0, bo0 n o, F1, Nat.zero_le _, rfl, H2, HB2⟩
      case round =>
        clear H2 HB2
        obtain ⟨j, S, F, hj, rfl, H, HB⟩ := hrel
        by_cases hlt : j < l.length
        · obtain ⟨b0, o0, e0, l0, hc⟩ := HL.out (by omega)
          obtain ⟨⟨x1, x2, x3, x4⟩, _, _⟩ := hc j hlt
          subst e0
          clear hc
          have hbw := hb1.trans (HB.out.mono hb1.size)
          have y1 := (hbw.cell (p := ⟨b0, o0 + j * 4, none⟩) l0).trans x1
          have y2 := (hbw.cell (p := ⟨b0, o0 + j * 4 + 1, none⟩) l0).trans x2
          have y3 := (hbw.cell (p := ⟨b0, o0 + j * 4 + 2, none⟩) l0).trans x3
          have y4 := (hbw.cell (p := ⟨b0, o0 + j * 4 + 3, none⟩) l0).trans x4
          clear x1 x2 x3 x4 hbw l0
          generalize (l.getD j (0, 0, 0, 0)).1 = d at *
          generalize (l.getD j (0, 0, 0, 0)).2.1 = A at *
          generalize (l.getD j (0, 0, 0, 0)).2.2.1 = B at *
          generalize (l.getD j (0, 0, 0, 0)).2.2.2 = C at *
          have j0 : (0 : Int) ≤ (j : Int) := by omega
          have j1 : (j : Int) < (l.length : Int) := by omega
          have bcell := (bo_blk H.out.1).b0
          by_cases hd : d < 6
          · have P := do_any H.out.1 (H.out.2.1.rb (by omega)) HC.out.1 HC.out.2 (by have := H.out.2.1.m; omega) (by have := H.out.2.1.rq; omega) (by have := H.out.2.1.rq; omega) d A B C
            have hB3 := H.out.2.1.do (bo_wbd H.out.1) d A B C
            go_wp2_with fail
            refine P.mono ?_
            clear P
            rintro e w3 ⟨F3, rfl, j3, t3⟩
            generalize doS c S d A B C = S3 at *
            clear y1 y2 y3 y4 bcell
            have HB3 : Hid (Below w1.heap.size w1 w3) := HB.out.trans (t3.fr.below HB.out.size H.out.2.2)
            have HG3 : Hid (∀ b, F3 b → w1.heap.size ≤ b) := fun b d => (t3.sub b d).elim (H.out.2.2 b) (fun e => Nat.le_trans HB.out.size e)
            clear H HB t3
            obtain ⟨Y, G, hkv⟩ := hB3.kv
            have hwb := bo_wbd j3
            obtain ⟨ha3, _, c0, c1, b0c⟩ := bo_blk j3
            have P := things_any w3 ha3
            obtain ⟨ey, eo⟩ := hkv.inv.full.lists (O := c.a.O) hwb.n1 hwb.y1 hwb.o1 hwb.g1
            rw [ey, eo] at P
            have HK : Hid (KInv c.a S3.1.s Y G ∧ Wbd c.a S3.1.s ∧ Bok c S3 (j + 1)) := ⟨hkv, hwb, hB3⟩
            have HJ : Hid ((boO c).J F3 S3 w3) := j3
            clear hkv hwb hB3 j3 ha3 ey eo
            as_aux_lemma =>
            go_wp2_with fail
            refine P.mono ?_
            clear P
            rintro e w4 ⟨v1, v2, rfl, ho1, ho2, hb4⟩
            obtain ⟨d1, f1, rfl⟩ := row_slice ho1
            obtain ⟨d2, f2, rfl⟩ := row_slice ho2
            have HLs : Hid (Ls w4 d2 G) := row_ints ho2
            have HJ4 : Hid ((boO c).J F3 S3 w4) := (boO c).below HJ.out hb4
            have HB4 : Hid (Below w1.heap.size w1 w4) := HB3.out.trans (hb4.mono HB3.out.size)
            have hGl : G.length ≤ 2000 := by
              have := HK.out.1.inv.full.lists (O := c.a.O) HK.out.2.1.n1 HK.out.2.1.y1 HK.out.2.1.o1 HK.out.2.1.g1
              rw [← this.2]
              exact ths_le _ _
            clear ho1 ho2 hb4 HJ HB3 c0 c1 b0c
            go_wp2_with fail
            go_loopw [12] (fun iv wr => ∃ m : Nat, m ≤ G.length ∧ iv = .int .i64 m ∧ Hid (Below w4.heap.size w4 wr)) (fun iv _ => G.length - (intOf iv).toNat)
            case atStart => exact ⟨0, Nat.zero_le _, rfl, Below.refl _ _⟩
            case round =>
              obtain ⟨m, hm, rfl, HM⟩ := hrel
              by_cases hml : m < G.length
              · obtain ⟨tb, tq, e0, lt0, hc⟩ := HLs.out (by omega)
                have tc := (HM.out.cell (p := ⟨tb, tq + m, none⟩) lt0).trans (hc m hml)
                subst e0
                have hv : G.getD m 0 ∈ G := by rw [List.getD_eq_getElem?_getD, List.getElem?_eq_getElem hml]; exact List.getElem_mem hml
                have HT : Hid (∀ wq, Below w4.heap.size w4 wq → wq.cell? ⟨tb, tq + m, none⟩ = some (.int .i64 (G.getD m 0))) := fun wq hq => (hq.cell (p := ⟨tb, tq + m, none⟩) lt0).trans (hc m hml)
                generalize G.getD m 0 = v at *
                have hio := HK.out.1.inv.full.io v hv
                have n1 := HK.out.2.1.n1
                have n2 := HK.out.2.1.g1
                have n3 := HK.out.2.1.o1
                have v0 : 0 ≤ v := by omega
                have v1 : v ≤ 2000 := by omega
                obtain ⟨f, hf⟩ : ∃ f : Nat, pf (ld c.a.N S3.1.s.y S3.1.s.g S3.1.s.ws v) = f := ⟨(pf (ld c.a.N S3.1.s.y S3.1.s.g S3.1.s.ws v)).toNat, by have := pf_bd (ld c.a.N S3.1.s.y S3.1.s.g S3.1.s.ws v); omega⟩
                have hf12 : f ≤ 12 := by have := pf_bd (ld c.a.N S3.1.s.y S3.1.s.g S3.1.s.ws v); omega
                have HV : Hid (v ∈ G ∧ pf (ld c.a.N S3.1.s.y S3.1.s.g S3.1.s.ws v) = f) := ⟨hv, hf⟩
                have jr := (boO c).below HJ4.out HM.out
                obtain ⟨ha, _, c0, c1, b0c⟩ := bo_blk jr
                have P := thing_any v wr.drew (ha.below (Below.refl _ wr).drew (Nat.le_refl _))
                rw [hf] at P
                have m0 : (0 : Int) ≤ (m : Int) := by omega
                have m1 : (m : Int) < (G.length : Int) := by omega
                clear hio n1 n2 n3 hf hv hc jr ha lt0
                go_wp2_with fail
                go_region_held3 (fun w' => w'.cell? ⟨c.pb, 0, none⟩ = some (.pointer (some ⟨c.a.pw, 0, none⟩)) ∧ w'.cell? ⟨c.a.pw, 0, none⟩ = some (.pointer (some ⟨c.a.p, 0, none⟩)) ∧ w'.cell? ⟨tb, tq + m, none⟩ = some (.int .i64 v)) (go_keep)
                  (first
                    | (go_at_call 25; refine P.mono ?_; clear P; rintro e w5 ⟨rfl, hb5⟩; have HM5 : Hid (Below w4.heap.size w4 w5) := HM.out.trans (((Below.refl _ wr).drew.trans (hb5.mono (Nat.le_refl _))).mono HM.out.size); obtain ⟨_, _, q0, q1, qb⟩ := bo_blk ((boO c).below HJ4.out HM5.out); have qt := HT.out w5 HM5.out; clear hb5))
                clear HM c0 c1 b0c tc q0 q1 qb qt
                go_wp2_with fail
                go_loopw [16] (fun iv wr => ∃ i : Nat, i ≤ f ∧ iv = .int .i64 i ∧ Hid (Below w4.heap.size w4 wr)) (fun iv _ => f - (intOf iv).toNat)
                case atStart => exact ⟨0, Nat.zero_le _, rfl, HM5⟩
                case round =>
                  clear HM5
                  obtain ⟨i, hi, rfl, HI⟩ := hrel
                  by_cases hil : i < f
                  · have i0 : (0 : Int) ≤ (i : Int) := by omega
                    have i1 : (i : Int) < (f : Int) := by omega
                    obtain ⟨ha, _, c0, c1, b0c⟩ := bo_blk ((boO c).below HJ4.out HI.out)
                    have tc := HT.out _ HI.out
                    have P := load_any (v + 1 + i) wr.drew (ha.below (Below.refl _ wr).drew (Nat.le_refl _))
                    have KD := KInv.dirty HK.out.1 HK.out.2.1 HV.out.1 (i := (i : Int)) i0 (by rw [HV.out.2]; exact i1)
                    generalize ld c.a.N S3.1.s.y S3.1.s.g S3.1.s.ws (v + 1 + i) = x at *
                    have HD : Hid (aB x = true → hB 0 S3.1.s.y (aV x) = true → (cB c.a.N (nC c.a.O) v && S3.1.s.M.contains (cN c.a.N v)) = true) := KD
                    have b6 : IntKind.i64.wrap (v + 1) = v + 1 := by rw [IntKind.wrap_i64]; omega
                    have b7 : IntKind.i64.wrap (v + 1 + (i : Int)) = v + 1 + i := by rw [IntKind.wrap_i64]; omega
                    clear ha KD
                    go_wp2_with fail
                    go_region_held3 (fun w' => w'.cell? ⟨c.pb, 0, none⟩ = some (.pointer (some ⟨c.a.pw, 0, none⟩)) ∧ w'.cell? ⟨c.a.pw, 0, none⟩ = some (.pointer (some ⟨c.a.p, 0, none⟩)) ∧ w'.cell? ⟨tb, tq + m, none⟩ = some (.int .i64 v)) (go_keep)
                      (first
                        | (go_at_call 27; refine P.mono ?_; clear P; rintro e w6 ⟨rfl, hb6⟩; have HM6 : Hid (Below w4.heap.size w4 w6) := HI.out.trans (((Below.refl _ wr).drew.trans (hb6.mono (Nat.le_refl _))).mono HI.out.size); obtain ⟨_, _, q0, q1, qb⟩ := bo_blk ((boO c).below HJ4.out HM6.out); have qt := HT.out w6 HM6.out; clear hb6)
                        | (go_at_call 26; refine (at_any x w6).mono ?_; rintro e w7 ⟨rfl, hb7⟩; have HM7 : Hid (Below w4.heap.size w4 w7) := HM6.out.trans (hb7.mono HM6.out.size); obtain ⟨_, _, q0, q1, qb⟩ := bo_blk ((boO c).below HJ4.out HM7.out); have qt := HT.out w7 HM7.out; clear hb7))
                    clear HI HM6 c0 c1 b0c tc q0 q1 qb qt b6 b7
                    obtain ⟨ha, ⟨pq, hcd⟩, c0, c1, b0c⟩ := bo_blk ((boO c).below HJ4.out HM7.out)
                    have tc := HT.out _ HM7.out
                    cases hab : aB x
                    · clear ha hcd
                      as_aux_lemma =>
                      go_wp2_with fail
                      refine wp_region_noPanic ?_
                      refine wp_region_any (by kernel_rfl) ?_
                      have hTS : w7.drew.cell? ⟨c.pb, 0, none⟩ = some (.pointer (some ⟨c.a.pw, 0, none⟩)) ∧ w7.drew.cell? ⟨c.a.pw, 0, none⟩ = some (.pointer (some ⟨c.a.p, 0, none⟩)) ∧ w7.drew.cell? ⟨c.a.pw, 1, none⟩ = some (.pointer (some ⟨c.a.pc, 0, none⟩)) ∧ w7.drew.cell? ⟨tb, tq + m, none⟩ = some (.int .i64 v) := ⟨b0c, c0, c1, tc⟩
                      refine any_of_G (T := fun w' => w'.cell? ⟨c.pb, 0, none⟩ = some (.pointer (some ⟨c.a.pw, 0, none⟩)) ∧ w'.cell? ⟨c.a.pw, 0, none⟩ = some (.pointer (some ⟨c.a.p, 0, none⟩)) ∧ w'.cell? ⟨c.a.pw, 1, none⟩ = some (.pointer (some ⟨c.a.pc, 0, none⟩)) ∧ w'.cell? ⟨tb, tq + m, none⟩ = some (.int .i64 v)) (S := fun _ => True) (St := []) _ _ _ _ ?_
                      refine G_takeA (i := 0) (v := ?_) rfl (by kernel_rfl) (by kernel_rfl) (by kernel_rfl) (by kernel_rfl) (fun _ _ _ h => h) (Or.inl ⟨by rfl, ?_⟩) hTS (Or.inr trivial) ?_
                      rotate_left
                      · intro w hS
                        go_simp
                        try rfl
                      try simp only [Act.put, List.getElem_toArray, List.getElem_cons_zero, List.setIfInBounds_toArray, List.set_cons_zero, List.set_cons_succ]
                      refine G_takeA (i := 1) (v := ?_) rfl (by kernel_rfl) (by kernel_rfl) (by kernel_rfl) (by kernel_rfl) (fun _ _ _ h => h) (Or.inl ⟨by rfl, ?_⟩) hTS (Or.inr trivial) ?_
                      rotate_left
                      · intro w hS
                        go_simp
                        try rfl
                      try simp only [Act.put, List.getElem_toArray, List.getElem_cons_succ, List.getElem_cons_zero, List.setIfInBounds_toArray, List.set_cons_zero, List.set_cons_succ]
                      refine G_takeA (i := 2) (v := undef) rfl (by kernel_rfl) (by kernel_rfl) (by kernel_rfl) (by kernel_rfl) (fun _ _ _ h => h) (Or.inr ⟨by rfl, rfl⟩) hTS (Or.inr trivial) ?_
                      try simp only [Act.put, List.getElem_toArray, List.getElem_cons_succ, List.getElem_cons_zero, List.setIfInBounds_toArray, List.set_cons_zero, List.set_cons_succ]
                      refine G_takeA (i := 3) (v := undef) rfl (by kernel_rfl) (by kernel_rfl) (by kernel_rfl) (by kernel_rfl) (fun _ _ _ h => h) (Or.inr ⟨by rfl, rfl⟩) hTS (Or.inr trivial) ?_
                      try simp only [Act.put, List.getElem_toArray, List.getElem_cons_succ, List.getElem_cons_zero, List.setIfInBounds_toArray, List.set_cons_zero, List.set_cons_succ]
                      refine G_takeA (i := 4) (v := undef) rfl (by kernel_rfl) (by kernel_rfl) (by kernel_rfl) (by kernel_rfl) (fun _ _ _ h => h) (Or.inr ⟨by rfl, rfl⟩) hTS (Or.inr trivial) ?_
                      try simp only [Act.put, List.getElem_toArray, List.getElem_cons_succ, List.getElem_cons_zero, List.setIfInBounds_toArray, List.set_cons_zero, List.set_cons_succ]
                      refine G_takeA (i := 5) (v := undef) rfl (by kernel_rfl) (by kernel_rfl) (by kernel_rfl) (by kernel_rfl) (fun _ _ _ h => h) (Or.inr ⟨by rfl, rfl⟩) hTS (Or.inr trivial) ?_
                      try simp only [Act.put, List.getElem_toArray, List.getElem_cons_succ, List.getElem_cons_zero, List.setIfInBounds_toArray, List.set_cons_zero, List.set_cons_succ]
                      refine G_takeA (i := 6) (v := undef) rfl (by kernel_rfl) (by kernel_rfl) (by kernel_rfl) (by kernel_rfl) (fun _ _ _ h => h) (Or.inr ⟨by rfl, rfl⟩) hTS (Or.inr trivial) ?_
                      try simp only [Act.put, List.getElem_toArray, List.getElem_cons_succ, List.getElem_cons_zero, List.setIfInBounds_toArray, List.set_cons_zero, List.set_cons_succ]
                      refine G_takeA (i := 7) (v := undef) rfl (by kernel_rfl) (by kernel_rfl) (by kernel_rfl) (by kernel_rfl) (fun _ _ _ h => h) (Or.inr ⟨by rfl, rfl⟩) hTS (Or.inr trivial) ?_
                      try simp only [Act.put, List.getElem_toArray, List.getElem_cons_succ, List.getElem_cons_zero, List.setIfInBounds_toArray, List.set_cons_zero, List.set_cons_succ]
                      refine G_takeA (i := 8) (v := undef) rfl (by kernel_rfl) (by kernel_rfl) (by kernel_rfl) (by kernel_rfl) (fun _ _ _ h => h) (Or.inr ⟨by rfl, rfl⟩) hTS (Or.inr trivial) ?_
                      try simp only [Act.put, List.getElem_toArray, List.getElem_cons_succ, List.getElem_cons_zero, List.setIfInBounds_toArray, List.set_cons_zero, List.set_cons_succ]
                      refine G_takeA (i := 9) (v := undef) rfl (by kernel_rfl) (by kernel_rfl) (by kernel_rfl) (by kernel_rfl) (fun _ _ _ h => h) (Or.inr ⟨by rfl, rfl⟩) hTS (Or.inr trivial) ?_
                      try simp only [Act.put, List.getElem_toArray, List.getElem_cons_succ, List.getElem_cons_zero, List.setIfInBounds_toArray, List.set_cons_zero, List.set_cons_succ]
                      refine G_takeA (i := 10) (v := undef) rfl (by kernel_rfl) (by kernel_rfl) (by kernel_rfl) (by kernel_rfl) (fun _ _ _ h => h) (Or.inr ⟨by rfl, rfl⟩) hTS (Or.inr trivial) ?_
                      try simp only [Act.put, List.getElem_toArray, List.getElem_cons_succ, List.getElem_cons_zero, List.setIfInBounds_toArray, List.set_cons_zero, List.set_cons_succ]
                      refine G_takeA (i := 11) (v := ?_) rfl (by kernel_rfl) (by kernel_rfl) (by kernel_rfl) (by kernel_rfl) (fun _ _ _ h => h) (Or.inl ⟨by rfl, ?_⟩) hTS (Or.inr trivial) ?_
                      rotate_left
                      · intro w hS
                        go_simp
                        try rfl
                      try simp only [Act.put, List.getElem_toArray, List.getElem_cons_succ, List.getElem_cons_zero, List.setIfInBounds_toArray, List.set_cons_zero, List.set_cons_succ]
                      refine G_takeA (i := 12) (v := ?_) rfl (by kernel_rfl) (by kernel_rfl) (by kernel_rfl) (by kernel_rfl) (fun _ _ _ h => h) (Or.inl ⟨by rfl, ?_⟩) hTS (Or.inr trivial) ?_
                      rotate_left
                      · intro w hS
                        go_simp
                        try rfl
                      try simp only [Act.put, List.getElem_toArray, List.getElem_cons_succ, List.getElem_cons_zero, List.setIfInBounds_toArray, List.set_cons_zero, List.set_cons_succ]
                      refine G_takeA (i := 13) (v := undef) rfl (by kernel_rfl) (by kernel_rfl) (by kernel_rfl) (by kernel_rfl) (fun _ _ _ h => h) (Or.inr ⟨by rfl, rfl⟩) hTS (Or.inr trivial) ?_
                      try simp only [Act.put, List.getElem_toArray, List.getElem_cons_succ, List.getElem_cons_zero, List.setIfInBounds_toArray, List.set_cons_zero, List.set_cons_succ]
                      refine G_takeA (i := 14) (v := undef) rfl (by kernel_rfl) (by kernel_rfl) (by kernel_rfl) (by kernel_rfl) (fun _ _ _ h => h) (Or.inr ⟨by rfl, rfl⟩) hTS (Or.inr trivial) ?_
                      try simp only [Act.put, List.getElem_toArray, List.getElem_cons_succ, List.getElem_cons_zero, List.setIfInBounds_toArray, List.set_cons_zero, List.set_cons_succ]
                      refine G_takeA (i := 15) (v := undef) rfl (by kernel_rfl) (by kernel_rfl) (by kernel_rfl) (by kernel_rfl) (fun _ _ _ h => h) (Or.inr ⟨by rfl, rfl⟩) hTS (Or.inr trivial) ?_
                      try simp only [Act.put, List.getElem_toArray, List.getElem_cons_succ, List.getElem_cons_zero, List.setIfInBounds_toArray, List.set_cons_zero, List.set_cons_succ]
                      refine G_takeA (i := 16) (v := undef) rfl (by kernel_rfl) (by kernel_rfl) (by kernel_rfl) (by kernel_rfl) (fun _ _ _ h => h) (Or.inr ⟨by rfl, rfl⟩) hTS (Or.inr trivial) ?_
                      try simp only [Act.put, List.getElem_toArray, List.getElem_cons_succ, List.getElem_cons_zero, List.setIfInBounds_toArray, List.set_cons_zero, List.set_cons_succ]
                      refine G_takeA (i := 17) (v := undef) rfl (by kernel_rfl) (by kernel_rfl) (by kernel_rfl) (by kernel_rfl) (fun _ _ _ h => h) (Or.inr ⟨by rfl, rfl⟩) hTS (Or.inr trivial) ?_
                      try simp only [Act.put, List.getElem_toArray, List.getElem_cons_succ, List.getElem_cons_zero, List.setIfInBounds_toArray, List.set_cons_zero, List.set_cons_succ]
                      refine G_takeA (i := 18) (v := undef) rfl (by kernel_rfl) (by kernel_rfl) (by kernel_rfl) (by kernel_rfl) (fun _ _ _ h => h) (Or.inr ⟨by rfl, rfl⟩) hTS (Or.inr trivial) ?_
                      try simp only [Act.put, List.getElem_toArray, List.getElem_cons_succ, List.getElem_cons_zero, List.setIfInBounds_toArray, List.set_cons_zero, List.set_cons_succ]
                      refine G_takeA (i := 19) (v := undef) rfl (by kernel_rfl) (by kernel_rfl) (by kernel_rfl) (by kernel_rfl) (fun _ _ _ h => h) (Or.inr ⟨by rfl, rfl⟩) hTS (Or.inr trivial) ?_
                      try simp only [Act.put, List.getElem_toArray, List.getElem_cons_succ, List.getElem_cons_zero, List.setIfInBounds_toArray, List.set_cons_zero, List.set_cons_succ]
                      refine G_takeA (i := 20) (v := undef) rfl (by kernel_rfl) (by kernel_rfl) (by kernel_rfl) (by kernel_rfl) (fun _ _ _ h => h) (Or.inr ⟨by rfl, rfl⟩) hTS (Or.inr trivial) ?_
                      try simp only [Act.put, List.getElem_toArray, List.getElem_cons_succ, List.getElem_cons_zero, List.setIfInBounds_toArray, List.set_cons_zero, List.set_cons_succ]
                      refine G_takeA (i := 21) (v := undef) rfl (by kernel_rfl) (by kernel_rfl) (by kernel_rfl) (by kernel_rfl) (fun _ _ _ h => h) (Or.inr ⟨by rfl, rfl⟩) hTS (Or.inr trivial) ?_
                      try simp only [Act.put, List.getElem_toArray, List.getElem_cons_succ, List.getElem_cons_zero, List.setIfInBounds_toArray, List.set_cons_zero, List.set_cons_succ]
                      refine G_takeA (i := 22) (v := undef) rfl (by kernel_rfl) (by kernel_rfl) (by kernel_rfl) (by kernel_rfl) (fun _ _ _ h => h) (Or.inr ⟨by rfl, rfl⟩) hTS (Or.inr trivial) ?_
                      try simp only [Act.put, List.getElem_toArray, List.getElem_cons_succ, List.getElem_cons_zero, List.setIfInBounds_toArray, List.set_cons_zero, List.set_cons_succ]
                      refine G_takeA (i := 23) (v := undef) rfl (by kernel_rfl) (by kernel_rfl) (by kernel_rfl) (by kernel_rfl) (fun _ _ _ h => h) (Or.inr ⟨by rfl, rfl⟩) hTS (Or.inr trivial) ?_
                      try simp only [Act.put, List.getElem_toArray, List.getElem_cons_succ, List.getElem_cons_zero, List.setIfInBounds_toArray, List.set_cons_zero, List.set_cons_succ]
                      refine G_takeA (i := 24) (v := undef) rfl (by kernel_rfl) (by kernel_rfl) (by kernel_rfl) (by kernel_rfl) (fun _ _ _ h => h) (Or.inr ⟨by rfl, rfl⟩) hTS (Or.inr trivial) ?_
                      try simp only [Act.put, List.getElem_toArray, List.getElem_cons_succ, List.getElem_cons_zero, List.setIfInBounds_toArray, List.set_cons_zero, List.set_cons_succ]
                      refine G_takeA (i := 25) (v := undef) rfl (by kernel_rfl) (by kernel_rfl) (by kernel_rfl) (by kernel_rfl) (fun _ _ _ h => h) (Or.inr ⟨by rfl, rfl⟩) hTS (Or.inr trivial) ?_
                      try simp only [Act.put, List.getElem_toArray, List.getElem_cons_succ, List.getElem_cons_zero, List.setIfInBounds_toArray, List.set_cons_zero, List.set_cons_succ]
                      refine G_takeA (i := 26) (v := ?_) rfl (by kernel_rfl) (by kernel_rfl) (by kernel_rfl) (by kernel_rfl) (fun _ _ _ h => h) (Or.inl ⟨by rfl, ?_⟩) hTS (Or.inr trivial) ?_
                      rotate_left
                      · intro w hS
                        go_simp
                        try rfl
                      try simp only [Act.put, List.getElem_toArray, List.getElem_cons_succ, List.getElem_cons_zero, List.setIfInBounds_toArray, List.set_cons_zero, List.set_cons_succ]
                      refine G_done (by kernel_rfl) ?_ _
                      refine NoPanic.normal ?_
                      have HM8 : Hid (Below w4.heap.size w4 w7.drew) := HM7.out.trans ((Below.refl _ w7).drew.mono HM7.out.size)
                      clear hTS c0 c1 b0c tc
                      go_wp2_with fail
                      go_roundw
                      case rel => exact ⟨i + 1, by omega, by go_num, HM8⟩
                      case measure => simp [intOf]; omega
                    · have PY := young_any (aV x) w7.drew (ha.below (Below.refl _ w7).drew (Nat.le_refl _))
                      cases hy : hB 0 S3.1.s.y (aV x)
                      · rw [hy] at PY
                        clear ha hcd
                        as_aux_lemma =>
                        go_wp2_with fail
                        refine wp_region_noPanic ?_
                        refine wp_region_any (by kernel_rfl) ?_
                        have hTS : w7.drew.cell? ⟨c.pb, 0, none⟩ = some (.pointer (some ⟨c.a.pw, 0, none⟩)) ∧ w7.drew.cell? ⟨c.a.pw, 0, none⟩ = some (.pointer (some ⟨c.a.p, 0, none⟩)) ∧ w7.drew.cell? ⟨c.a.pw, 1, none⟩ = some (.pointer (some ⟨c.a.pc, 0, none⟩)) ∧ w7.drew.cell? ⟨tb, tq + m, none⟩ = some (.int .i64 v) := ⟨b0c, c0, c1, tc⟩
                        refine any_of_G (T := fun w' => w'.cell? ⟨c.pb, 0, none⟩ = some (.pointer (some ⟨c.a.pw, 0, none⟩)) ∧ w'.cell? ⟨c.a.pw, 0, none⟩ = some (.pointer (some ⟨c.a.p, 0, none⟩)) ∧ w'.cell? ⟨c.a.pw, 1, none⟩ = some (.pointer (some ⟨c.a.pc, 0, none⟩)) ∧ w'.cell? ⟨tb, tq + m, none⟩ = some (.int .i64 v)) (S := fun _ => True) (St := []) _ _ _ _ ?_
                        refine G_takeA (i := 0) (v := ?_) rfl (by kernel_rfl) (by kernel_rfl) (by kernel_rfl) (by kernel_rfl) (fun _ _ _ h => h) (Or.inl ⟨by rfl, ?_⟩) hTS (Or.inr trivial) ?_
                        rotate_left
                        · intro w hS
                          go_simp
                          try rfl
                        try simp only [Act.put, List.getElem_toArray, List.getElem_cons_zero, List.setIfInBounds_toArray, List.set_cons_zero, List.set_cons_succ]
                        refine G_takeA (i := 1) (v := ?_) rfl (by kernel_rfl) (by kernel_rfl) (by kernel_rfl) (by kernel_rfl) (fun _ _ _ h => h) (Or.inl ⟨by rfl, ?_⟩) hTS (Or.inr trivial) ?_
                        rotate_left
                        · intro w hS
                          go_simp
                          try rfl
                        try simp only [Act.put, List.getElem_toArray, List.getElem_cons_succ, List.getElem_cons_zero, List.setIfInBounds_toArray, List.set_cons_zero, List.set_cons_succ]
                        refine G_takeA (i := 2) (v := ?_) rfl (by kernel_rfl) (by kernel_rfl) (by kernel_rfl) (by kernel_rfl) (fun _ _ _ h => h) (Or.inl ⟨by rfl, ?_⟩) hTS (Or.inr trivial) ?_
                        rotate_left
                        · intro w hS
                          go_simp
                          try rfl
                        try simp only [Act.put, List.getElem_toArray, List.getElem_cons_succ, List.getElem_cons_zero, List.setIfInBounds_toArray, List.set_cons_zero, List.set_cons_succ]
                        refine G_takeA (i := 3) (v := ?_) rfl (by kernel_rfl) (by kernel_rfl) (by kernel_rfl) (by kernel_rfl) (fun _ _ _ h => h) (Or.inl ⟨by rfl, ?_⟩) hTS (Or.inr trivial) ?_
                        rotate_left
                        · intro w hS
                          go_simp
                          try rfl
                        try simp only [Act.put, List.getElem_toArray, List.getElem_cons_succ, List.getElem_cons_zero, List.setIfInBounds_toArray, List.set_cons_zero, List.set_cons_succ]
                        refine G_takeA (i := 4) (v := ?_) rfl (by kernel_rfl) (by kernel_rfl) (by kernel_rfl) (by kernel_rfl) (fun _ _ _ h => h) (Or.inl ⟨by rfl, ?_⟩) hTS (Or.inr trivial) ?_
                        rotate_left
                        · intro w hS
                          go_simp
                          try rfl
                        try simp only [Act.put, List.getElem_toArray, List.getElem_cons_succ, List.getElem_cons_zero, List.setIfInBounds_toArray, List.set_cons_zero, List.set_cons_succ]
                        refine G_takeA (i := 5) (v := ?_) rfl (by kernel_rfl) (by kernel_rfl) (by kernel_rfl) (by kernel_rfl) (fun _ _ _ h => h) (Or.inl ⟨by rfl, ?_⟩) hTS (Or.inr trivial) ?_
                        rotate_left
                        · intro w hS
                          have hS1 := hS.1
                          have hS2 := hS.2.1
                          have hS3 := hS.2.2.1
                          have hS4 := hS.2.2.2
                          go_simp
                          try rfl
                        try simp only [Act.put, List.getElem_toArray, List.getElem_cons_succ, List.getElem_cons_zero, List.setIfInBounds_toArray, List.set_cons_zero, List.set_cons_succ]
                        refine G_takeA (i := 6) (v := ?_) rfl (by kernel_rfl) (by kernel_rfl) (by kernel_rfl) (by kernel_rfl) (fun _ _ _ h => h) (Or.inl ⟨by rfl, ?_⟩) hTS (Or.inr trivial) ?_
                        rotate_left
                        · intro w hS
                          go_simp
                          try rfl
                        try simp only [Act.put, List.getElem_toArray, List.getElem_cons_succ, List.getElem_cons_zero, List.setIfInBounds_toArray, List.set_cons_zero, List.set_cons_succ]
                        refine G_takeA (i := 7) (v := ?_) rfl (by kernel_rfl) (by kernel_rfl) (by kernel_rfl) (by kernel_rfl) (fun _ _ _ h => h) (Or.inl ⟨by rfl, ?_⟩) hTS (Or.inr trivial) ?_
                        rotate_left
                        · intro w hS
                          go_simp
                          try rfl
                        try simp only [Act.put, List.getElem_toArray, List.getElem_cons_succ, List.getElem_cons_zero, List.setIfInBounds_toArray, List.set_cons_zero, List.set_cons_succ]
                        refine G_takeA (i := 8) (v := ?_) rfl (by kernel_rfl) (by kernel_rfl) (by kernel_rfl) (by kernel_rfl) (fun _ _ _ h => h) (Or.inl ⟨by rfl, ?_⟩) hTS (Or.inr trivial) ?_
                        rotate_left
                        · intro w hS
                          have hS1 := hS.1
                          have hS2 := hS.2.1
                          have hS3 := hS.2.2.1
                          have hS4 := hS.2.2.2
                          go_simp
                          try rfl
                        try simp only [Act.put, List.getElem_toArray, List.getElem_cons_succ, List.getElem_cons_zero, List.setIfInBounds_toArray, List.set_cons_zero, List.set_cons_succ]
                        refine G_takeA (i := 9) (v := ?_) rfl (by kernel_rfl) (by kernel_rfl) (by kernel_rfl) (by kernel_rfl) (fun _ _ _ h => h) (Or.inl ⟨by rfl, ?_⟩) hTS (Or.inr trivial) ?_
                        rotate_left
                        · intro w hS
                          go_simp
                          try rfl
                        try simp only [Act.put, List.getElem_toArray, List.getElem_cons_succ, List.getElem_cons_zero, List.setIfInBounds_toArray, List.set_cons_zero, List.set_cons_succ]
                        refine G_one (i := 10) (by kernel_rfl) ?_
                        refine wpOp_of_wpG rfl (by rfl) ?_
                        simp only [List.getElem_toArray, List.getElem_cons_succ, List.getElem_cons_zero]
                        go_simp
                        refine PY.mono ?_
                        clear PY
                        rintro e w8 ⟨rfl, hb8⟩
                        have HM8 : Hid (Below w4.heap.size w4 w8) := HM7.out.trans (((Below.refl _ w7).drew.trans (hb8.mono (Nat.le_refl _))).mono HM7.out.size)
                        obtain ⟨_, _, q0, q1, qb⟩ := bo_blk ((boO c).below HJ4.out HM8.out)
                        have qt := HT.out w8 HM8.out
                        clear hb8
                        dsimp only
                        refine ⟨⟨qb, q0, q1, qt⟩, ?_⟩
                        try simp only [Act.put, List.getElem_toArray, List.getElem_cons_succ, List.getElem_cons_zero, List.setIfInBounds_toArray, List.set_cons_zero, List.set_cons_succ]
                        refine G_takeA (i := 11) (v := ?_) rfl (by kernel_rfl) (by kernel_rfl) (by kernel_rfl) (by kernel_rfl) (fun _ _ _ h => h) (Or.inl ⟨by rfl, ?_⟩) ⟨qb, q0, q1, qt⟩ (Or.inr trivial) ?_
                        rotate_left
                        · intro w hS
                          go_simp
                          try rfl
                        try simp only [Act.put, List.getElem_toArray, List.getElem_cons_succ, List.getElem_cons_zero, List.setIfInBounds_toArray, List.set_cons_zero, List.set_cons_succ]
                        refine G_takeA (i := 12) (v := ?_) rfl (by kernel_rfl) (by kernel_rfl) (by kernel_rfl) (by kernel_rfl) (fun _ _ _ h => h) (Or.inl ⟨by rfl, ?_⟩) ⟨qb, q0, q1, qt⟩ (Or.inr trivial) ?_
                        rotate_left
                        · intro w hS
                          go_simp
                          try rfl
                        try simp only [Act.put, List.getElem_toArray, List.getElem_cons_succ, List.getElem_cons_zero, List.setIfInBounds_toArray, List.set_cons_zero, List.set_cons_succ]
                        refine G_takeA (i := 13) (v := undef) rfl (by kernel_rfl) (by kernel_rfl) (by kernel_rfl) (by kernel_rfl) (fun _ _ _ h => h) (Or.inr ⟨by rfl, rfl⟩) ⟨qb, q0, q1, qt⟩ (Or.inr trivial) ?_
                        try simp only [Act.put, List.getElem_toArray, List.getElem_cons_succ, List.getElem_cons_zero, List.setIfInBounds_toArray, List.set_cons_zero, List.set_cons_succ]
                        refine G_takeA (i := 14) (v := undef) rfl (by kernel_rfl) (by kernel_rfl) (by kernel_rfl) (by kernel_rfl) (fun _ _ _ h => h) (Or.inr ⟨by rfl, rfl⟩) ⟨qb, q0, q1, qt⟩ (Or.inr trivial) ?_
                        try simp only [Act.put, List.getElem_toArray, List.getElem_cons_succ, List.getElem_cons_zero, List.setIfInBounds_toArray, List.set_cons_zero, List.set_cons_succ]
                        refine G_takeA (i := 15) (v := undef) rfl (by kernel_rfl) (by kernel_rfl) (by kernel_rfl) (by kernel_rfl) (fun _ _ _ h => h) (Or.inr ⟨by rfl, rfl⟩) ⟨qb, q0, q1, qt⟩ (Or.inr trivial) ?_
                        try simp only [Act.put, List.getElem_toArray, List.getElem_cons_succ, List.getElem_cons_zero, List.setIfInBounds_toArray, List.set_cons_zero, List.set_cons_succ]
                        refine G_takeA (i := 16) (v := undef) rfl (by kernel_rfl) (by kernel_rfl) (by kernel_rfl) (by kernel_rfl) (fun _ _ _ h => h) (Or.inr ⟨by rfl, rfl⟩) ⟨qb, q0, q1, qt⟩ (Or.inr trivial) ?_
                        try simp only [Act.put, List.getElem_toArray, List.getElem_cons_succ, List.getElem_cons_zero, List.setIfInBounds_toArray, List.set_cons_zero, List.set_cons_succ]
                        refine G_takeA (i := 17) (v := undef) rfl (by kernel_rfl) (by kernel_rfl) (by kernel_rfl) (by kernel_rfl) (fun _ _ _ h => h) (Or.inr ⟨by rfl, rfl⟩) ⟨qb, q0, q1, qt⟩ (Or.inr trivial) ?_
                        try simp only [Act.put, List.getElem_toArray, List.getElem_cons_succ, List.getElem_cons_zero, List.setIfInBounds_toArray, List.set_cons_zero, List.set_cons_succ]
                        refine G_takeA (i := 18) (v := undef) rfl (by kernel_rfl) (by kernel_rfl) (by kernel_rfl) (by kernel_rfl) (fun _ _ _ h => h) (Or.inr ⟨by rfl, rfl⟩) ⟨qb, q0, q1, qt⟩ (Or.inr trivial) ?_
                        try simp only [Act.put, List.getElem_toArray, List.getElem_cons_succ, List.getElem_cons_zero, List.setIfInBounds_toArray, List.set_cons_zero, List.set_cons_succ]
                        refine G_takeA (i := 19) (v := undef) rfl (by kernel_rfl) (by kernel_rfl) (by kernel_rfl) (by kernel_rfl) (fun _ _ _ h => h) (Or.inr ⟨by rfl, rfl⟩) ⟨qb, q0, q1, qt⟩ (Or.inr trivial) ?_
                        try simp only [Act.put, List.getElem_toArray, List.getElem_cons_succ, List.getElem_cons_zero, List.setIfInBounds_toArray, List.set_cons_zero, List.set_cons_succ]
                        refine G_takeA (i := 20) (v := undef) rfl (by kernel_rfl) (by kernel_rfl) (by kernel_rfl) (by kernel_rfl) (fun _ _ _ h => h) (Or.inr ⟨by rfl, rfl⟩) ⟨qb, q0, q1, qt⟩ (Or.inr trivial) ?_
                        try simp only [Act.put, List.getElem_toArray, List.getElem_cons_succ, List.getElem_cons_zero, List.setIfInBounds_toArray, List.set_cons_zero, List.set_cons_succ]
                        refine G_takeA (i := 21) (v := undef) rfl (by kernel_rfl) (by kernel_rfl) (by kernel_rfl) (by kernel_rfl) (fun _ _ _ h => h) (Or.inr ⟨by rfl, rfl⟩) ⟨qb, q0, q1, qt⟩ (Or.inr trivial) ?_
                        try simp only [Act.put, List.getElem_toArray, List.getElem_cons_succ, List.getElem_cons_zero, List.setIfInBounds_toArray, List.set_cons_zero, List.set_cons_succ]
                        refine G_takeA (i := 22) (v := undef) rfl (by kernel_rfl) (by kernel_rfl) (by kernel_rfl) (by kernel_rfl) (fun _ _ _ h => h) (Or.inr ⟨by rfl, rfl⟩) ⟨qb, q0, q1, qt⟩ (Or.inr trivial) ?_
                        try simp only [Act.put, List.getElem_toArray, List.getElem_cons_succ, List.getElem_cons_zero, List.setIfInBounds_toArray, List.set_cons_zero, List.set_cons_succ]
                        refine G_takeA (i := 23) (v := undef) rfl (by kernel_rfl) (by kernel_rfl) (by kernel_rfl) (by kernel_rfl) (fun _ _ _ h => h) (Or.inr ⟨by rfl, rfl⟩) ⟨qb, q0, q1, qt⟩ (Or.inr trivial) ?_
                        try simp only [Act.put, List.getElem_toArray, List.getElem_cons_succ, List.getElem_cons_zero, List.setIfInBounds_toArray, List.set_cons_zero, List.set_cons_succ]
                        refine G_takeA (i := 24) (v := undef) rfl (by kernel_rfl) (by kernel_rfl) (by kernel_rfl) (by kernel_rfl) (fun _ _ _ h => h) (Or.inr ⟨by rfl, rfl⟩) ⟨qb, q0, q1, qt⟩ (Or.inr trivial) ?_
                        try simp only [Act.put, List.getElem_toArray, List.getElem_cons_succ, List.getElem_cons_zero, List.setIfInBounds_toArray, List.set_cons_zero, List.set_cons_succ]
                        refine G_takeA (i := 25) (v := undef) rfl (by kernel_rfl) (by kernel_rfl) (by kernel_rfl) (by kernel_rfl) (fun _ _ _ h => h) (Or.inr ⟨by rfl, rfl⟩) ⟨qb, q0, q1, qt⟩ (Or.inr trivial) ?_
                        try simp only [Act.put, List.getElem_toArray, List.getElem_cons_succ, List.getElem_cons_zero, List.setIfInBounds_toArray, List.set_cons_zero, List.set_cons_succ]
                        refine G_takeA (i := 26) (v := ?_) rfl (by kernel_rfl) (by kernel_rfl) (by kernel_rfl) (by kernel_rfl) (fun _ _ _ h => h) (Or.inl ⟨by rfl, ?_⟩) ⟨qb, q0, q1, qt⟩ (Or.inr trivial) ?_
                        rotate_left
                        · intro w hS
                          go_simp
                          try rfl
                        try simp only [Act.put, List.getElem_toArray, List.getElem_cons_succ, List.getElem_cons_zero, List.setIfInBounds_toArray, List.set_cons_zero, List.set_cons_succ]
                        refine G_done (by kernel_rfl) ?_ _
                        refine NoPanic.normal ?_
                        clear hTS c0 c1 b0c tc q0 q1 qb qt
                        go_wp2_with fail
                        go_roundw
                        case rel => exact ⟨i + 1, by omega, by go_num, HM8⟩
                        case measure => simp [intOf]; omega
                      · rw [hy] at PY
                        have hdt := HD.out hab hy
                        have HPD : Hid (∀ wq, Below w4.heap.size w4 wq → Calls Tryz.prog 29 #[.pointer (some ⟨c.a.pc, 0, none⟩), .int .i64 v] wq fun e w' => e = .returned (.bool true) ∧ Below wq.heap.size wq w') := fun wq hq => by
                          obtain ⟨_, ⟨pq, hcd⟩, _⟩ := bo_blk ((boO c).below HJ4.out hq)
                          have := dirty_any v wq hcd (by omega) (by have := HK.out.2.1.n1; omega) (by omega)
                          rw [hdt] at this
                          exact this
                        clear ha hcd hdt
                        as_aux_lemma =>
                        go_wp2_with fail
                        refine wp_region_noPanic ?_
                        refine wp_region_any (by kernel_rfl) ?_
                        have hTS : w7.drew.cell? ⟨c.pb, 0, none⟩ = some (.pointer (some ⟨c.a.pw, 0, none⟩)) ∧ w7.drew.cell? ⟨c.a.pw, 0, none⟩ = some (.pointer (some ⟨c.a.p, 0, none⟩)) ∧ w7.drew.cell? ⟨c.a.pw, 1, none⟩ = some (.pointer (some ⟨c.a.pc, 0, none⟩)) ∧ w7.drew.cell? ⟨tb, tq + m, none⟩ = some (.int .i64 v) := ⟨b0c, c0, c1, tc⟩
                        refine any_of_G (T := fun w' => w'.cell? ⟨c.pb, 0, none⟩ = some (.pointer (some ⟨c.a.pw, 0, none⟩)) ∧ w'.cell? ⟨c.a.pw, 0, none⟩ = some (.pointer (some ⟨c.a.p, 0, none⟩)) ∧ w'.cell? ⟨c.a.pw, 1, none⟩ = some (.pointer (some ⟨c.a.pc, 0, none⟩)) ∧ w'.cell? ⟨tb, tq + m, none⟩ = some (.int .i64 v)) (S := fun _ => True) (St := []) _ _ _ _ ?_
                        refine G_takeA (i := 0) (v := ?_) rfl (by kernel_rfl) (by kernel_rfl) (by kernel_rfl) (by kernel_rfl) (fun _ _ _ h => h) (Or.inl ⟨by rfl, ?_⟩) hTS (Or.inr trivial) ?_
                        rotate_left
                        · intro w hS
                          go_simp
                          try rfl
                        try simp only [Act.put, List.getElem_toArray, List.getElem_cons_zero, List.setIfInBounds_toArray, List.set_cons_zero, List.set_cons_succ]
                        refine G_takeA (i := 1) (v := ?_) rfl (by kernel_rfl) (by kernel_rfl) (by kernel_rfl) (by kernel_rfl) (fun _ _ _ h => h) (Or.inl ⟨by rfl, ?_⟩) hTS (Or.inr trivial) ?_
                        rotate_left
                        · intro w hS
                          go_simp
                          try rfl
                        try simp only [Act.put, List.getElem_toArray, List.getElem_cons_succ, List.getElem_cons_zero, List.setIfInBounds_toArray, List.set_cons_zero, List.set_cons_succ]
                        refine G_takeA (i := 2) (v := ?_) rfl (by kernel_rfl) (by kernel_rfl) (by kernel_rfl) (by kernel_rfl) (fun _ _ _ h => h) (Or.inl ⟨by rfl, ?_⟩) hTS (Or.inr trivial) ?_
                        rotate_left
                        · intro w hS
                          go_simp
                          try rfl
                        try simp only [Act.put, List.getElem_toArray, List.getElem_cons_succ, List.getElem_cons_zero, List.setIfInBounds_toArray, List.set_cons_zero, List.set_cons_succ]
                        refine G_takeA (i := 3) (v := ?_) rfl (by kernel_rfl) (by kernel_rfl) (by kernel_rfl) (by kernel_rfl) (fun _ _ _ h => h) (Or.inl ⟨by rfl, ?_⟩) hTS (Or.inr trivial) ?_
                        rotate_left
                        · intro w hS
                          go_simp
                          try rfl
                        try simp only [Act.put, List.getElem_toArray, List.getElem_cons_succ, List.getElem_cons_zero, List.setIfInBounds_toArray, List.set_cons_zero, List.set_cons_succ]
                        refine G_takeA (i := 4) (v := ?_) rfl (by kernel_rfl) (by kernel_rfl) (by kernel_rfl) (by kernel_rfl) (fun _ _ _ h => h) (Or.inl ⟨by rfl, ?_⟩) hTS (Or.inr trivial) ?_
                        rotate_left
                        · intro w hS
                          go_simp
                          try rfl
                        try simp only [Act.put, List.getElem_toArray, List.getElem_cons_succ, List.getElem_cons_zero, List.setIfInBounds_toArray, List.set_cons_zero, List.set_cons_succ]
                        refine G_takeA (i := 5) (v := ?_) rfl (by kernel_rfl) (by kernel_rfl) (by kernel_rfl) (by kernel_rfl) (fun _ _ _ h => h) (Or.inl ⟨by rfl, ?_⟩) hTS (Or.inr trivial) ?_
                        rotate_left
                        · intro w hS
                          have hS1 := hS.1
                          have hS2 := hS.2.1
                          have hS3 := hS.2.2.1
                          have hS4 := hS.2.2.2
                          go_simp
                          try rfl
                        try simp only [Act.put, List.getElem_toArray, List.getElem_cons_succ, List.getElem_cons_zero, List.setIfInBounds_toArray, List.set_cons_zero, List.set_cons_succ]
                        refine G_takeA (i := 6) (v := ?_) rfl (by kernel_rfl) (by kernel_rfl) (by kernel_rfl) (by kernel_rfl) (fun _ _ _ h => h) (Or.inl ⟨by rfl, ?_⟩) hTS (Or.inr trivial) ?_
                        rotate_left
                        · intro w hS
                          go_simp
                          try rfl
                        try simp only [Act.put, List.getElem_toArray, List.getElem_cons_succ, List.getElem_cons_zero, List.setIfInBounds_toArray, List.set_cons_zero, List.set_cons_succ]
                        refine G_takeA (i := 7) (v := ?_) rfl (by kernel_rfl) (by kernel_rfl) (by kernel_rfl) (by kernel_rfl) (fun _ _ _ h => h) (Or.inl ⟨by rfl, ?_⟩) hTS (Or.inr trivial) ?_
                        rotate_left
                        · intro w hS
                          go_simp
                          try rfl
                        try simp only [Act.put, List.getElem_toArray, List.getElem_cons_succ, List.getElem_cons_zero, List.setIfInBounds_toArray, List.set_cons_zero, List.set_cons_succ]
                        refine G_takeA (i := 8) (v := ?_) rfl (by kernel_rfl) (by kernel_rfl) (by kernel_rfl) (by kernel_rfl) (fun _ _ _ h => h) (Or.inl ⟨by rfl, ?_⟩) hTS (Or.inr trivial) ?_
                        rotate_left
                        · intro w hS
                          have hS1 := hS.1
                          have hS2 := hS.2.1
                          have hS3 := hS.2.2.1
                          have hS4 := hS.2.2.2
                          go_simp
                          try rfl
                        try simp only [Act.put, List.getElem_toArray, List.getElem_cons_succ, List.getElem_cons_zero, List.setIfInBounds_toArray, List.set_cons_zero, List.set_cons_succ]
                        refine G_takeA (i := 9) (v := ?_) rfl (by kernel_rfl) (by kernel_rfl) (by kernel_rfl) (by kernel_rfl) (fun _ _ _ h => h) (Or.inl ⟨by rfl, ?_⟩) hTS (Or.inr trivial) ?_
                        rotate_left
                        · intro w hS
                          go_simp
                          try rfl
                        try simp only [Act.put, List.getElem_toArray, List.getElem_cons_succ, List.getElem_cons_zero, List.setIfInBounds_toArray, List.set_cons_zero, List.set_cons_succ]
                        refine G_one (i := 10) (by kernel_rfl) ?_
                        refine wpOp_of_wpG rfl (by rfl) ?_
                        simp only [List.getElem_toArray, List.getElem_cons_succ, List.getElem_cons_zero]
                        go_simp
                        refine PY.mono ?_
                        clear PY
                        rintro e w8 ⟨rfl, hb8⟩
                        have HM8 : Hid (Below w4.heap.size w4 w8) := HM7.out.trans (((Below.refl _ w7).drew.trans (hb8.mono (Nat.le_refl _))).mono HM7.out.size)
                        obtain ⟨_, _, q0, q1, qb⟩ := bo_blk ((boO c).below HJ4.out HM8.out)
                        have qt := HT.out w8 HM8.out
                        clear hb8
                        dsimp only
                        refine ⟨⟨qb, q0, q1, qt⟩, ?_⟩
                        try simp only [Act.put, List.getElem_toArray, List.getElem_cons_succ, List.getElem_cons_zero, List.setIfInBounds_toArray, List.set_cons_zero, List.set_cons_succ]
                        refine G_takeA (i := 11) (v := ?_) rfl (by kernel_rfl) (by kernel_rfl) (by kernel_rfl) (by kernel_rfl) (fun _ _ _ h => h) (Or.inl ⟨by rfl, ?_⟩) ⟨qb, q0, q1, qt⟩ (Or.inr trivial) ?_
                        rotate_left
                        · intro w hS
                          go_simp
                          try rfl
                        try simp only [Act.put, List.getElem_toArray, List.getElem_cons_succ, List.getElem_cons_zero, List.setIfInBounds_toArray, List.set_cons_zero, List.set_cons_succ]
                        refine G_takeA (i := 12) (v := ?_) rfl (by kernel_rfl) (by kernel_rfl) (by kernel_rfl) (by kernel_rfl) (fun _ _ _ h => h) (Or.inl ⟨by rfl, ?_⟩) ⟨qb, q0, q1, qt⟩ (Or.inr trivial) ?_
                        rotate_left
                        · intro w hS
                          go_simp
                          try rfl
                        try simp only [Act.put, List.getElem_toArray, List.getElem_cons_succ, List.getElem_cons_zero, List.setIfInBounds_toArray, List.set_cons_zero, List.set_cons_succ]
                        refine G_takeA (i := 13) (v := ?_) rfl (by kernel_rfl) (by kernel_rfl) (by kernel_rfl) (by kernel_rfl) (fun _ _ _ h => h) (Or.inl ⟨by rfl, ?_⟩) ⟨qb, q0, q1, qt⟩ (Or.inr trivial) ?_
                        rotate_left
                        · intro w hS
                          go_simp
                          try rfl
                        try simp only [Act.put, List.getElem_toArray, List.getElem_cons_succ, List.getElem_cons_zero, List.setIfInBounds_toArray, List.set_cons_zero, List.set_cons_succ]
                        refine G_takeA (i := 14) (v := ?_) rfl (by kernel_rfl) (by kernel_rfl) (by kernel_rfl) (by kernel_rfl) (fun _ _ _ h => h) (Or.inl ⟨by rfl, ?_⟩) ⟨qb, q0, q1, qt⟩ (Or.inr trivial) ?_
                        rotate_left
                        · intro w hS
                          go_simp
                          try rfl
                        try simp only [Act.put, List.getElem_toArray, List.getElem_cons_succ, List.getElem_cons_zero, List.setIfInBounds_toArray, List.set_cons_zero, List.set_cons_succ]
                        refine G_takeA (i := 15) (v := ?_) rfl (by kernel_rfl) (by kernel_rfl) (by kernel_rfl) (by kernel_rfl) (fun _ _ _ h => h) (Or.inl ⟨by rfl, ?_⟩) ⟨qb, q0, q1, qt⟩ (Or.inr trivial) ?_
                        rotate_left
                        · intro w hS
                          go_simp
                          try rfl
                        try simp only [Act.put, List.getElem_toArray, List.getElem_cons_succ, List.getElem_cons_zero, List.setIfInBounds_toArray, List.set_cons_zero, List.set_cons_succ]
                        refine G_takeA (i := 16) (v := ?_) rfl (by kernel_rfl) (by kernel_rfl) (by kernel_rfl) (by kernel_rfl) (fun _ _ _ h => h) (Or.inl ⟨by rfl, ?_⟩) ⟨qb, q0, q1, qt⟩ (Or.inr trivial) ?_
                        rotate_left
                        · intro w hS
                          have hS1 := hS.1
                          have hS2 := hS.2.1
                          have hS3 := hS.2.2.1
                          have hS4 := hS.2.2.2
                          go_simp
                          try rfl
                        try simp only [Act.put, List.getElem_toArray, List.getElem_cons_succ, List.getElem_cons_zero, List.setIfInBounds_toArray, List.set_cons_zero, List.set_cons_succ]
                        refine G_takeA (i := 17) (v := ?_) rfl (by kernel_rfl) (by kernel_rfl) (by kernel_rfl) (by kernel_rfl) (fun _ _ _ h => h) (Or.inl ⟨by rfl, ?_⟩) ⟨qb, q0, q1, qt⟩ (Or.inr trivial) ?_
                        rotate_left
                        · intro w hS
                          go_simp
                          try rfl
                        try simp only [Act.put, List.getElem_toArray, List.getElem_cons_succ, List.getElem_cons_zero, List.setIfInBounds_toArray, List.set_cons_zero, List.set_cons_succ]
                        refine G_takeA (i := 18) (v := ?_) rfl (by kernel_rfl) (by kernel_rfl) (by kernel_rfl) (by kernel_rfl) (fun _ _ _ h => h) (Or.inl ⟨by rfl, ?_⟩) ⟨qb, q0, q1, qt⟩ (Or.inr trivial) ?_
                        rotate_left
                        · intro w hS
                          go_simp
                          try rfl
                        try simp only [Act.put, List.getElem_toArray, List.getElem_cons_succ, List.getElem_cons_zero, List.setIfInBounds_toArray, List.set_cons_zero, List.set_cons_succ]
                        refine G_takeA (i := 19) (v := ?_) rfl (by kernel_rfl) (by kernel_rfl) (by kernel_rfl) (by kernel_rfl) (fun _ _ _ h => h) (Or.inl ⟨by rfl, ?_⟩) ⟨qb, q0, q1, qt⟩ (Or.inr trivial) ?_
                        rotate_left
                        · intro w hS
                          have hS1 := hS.1
                          have hS2 := hS.2.1
                          have hS3 := hS.2.2.1
                          have hS4 := hS.2.2.2
                          go_simp
                          try rfl
                        try simp only [Act.put, List.getElem_toArray, List.getElem_cons_succ, List.getElem_cons_zero, List.setIfInBounds_toArray, List.set_cons_zero, List.set_cons_succ]
                        refine G_takeA (i := 20) (v := ?_) rfl (by kernel_rfl) (by kernel_rfl) (by kernel_rfl) (by kernel_rfl) (fun _ _ _ h => h) (Or.inl ⟨by rfl, ?_⟩) ⟨qb, q0, q1, qt⟩ (Or.inr trivial) ?_
                        rotate_left
                        · intro w hS
                          go_simp
                          try rfl
                        try simp only [Act.put, List.getElem_toArray, List.getElem_cons_succ, List.getElem_cons_zero, List.setIfInBounds_toArray, List.set_cons_zero, List.set_cons_succ]
                        refine G_takeA (i := 21) (v := ?_) rfl (by kernel_rfl) (by kernel_rfl) (by kernel_rfl) (by kernel_rfl) (fun _ _ _ h => h) (Or.inl ⟨by rfl, ?_⟩) ⟨qb, q0, q1, qt⟩ (Or.inr trivial) ?_
                        rotate_left
                        · intro w hS
                          go_simp
                          try rfl
                        try simp only [Act.put, List.getElem_toArray, List.getElem_cons_succ, List.getElem_cons_zero, List.setIfInBounds_toArray, List.set_cons_zero, List.set_cons_succ]
                        refine G_takeA (i := 22) (v := ?_) rfl (by kernel_rfl) (by kernel_rfl) (by kernel_rfl) (by kernel_rfl) (fun _ _ _ h => h) (Or.inl ⟨by rfl, ?_⟩) ⟨qb, q0, q1, qt⟩ (Or.inr trivial) ?_
                        rotate_left
                        · intro w hS
                          go_simp
                          try rfl
                        try simp only [Act.put, List.getElem_toArray, List.getElem_cons_succ, List.getElem_cons_zero, List.setIfInBounds_toArray, List.set_cons_zero, List.set_cons_succ]
                        refine G_takeA (i := 23) (v := ?_) rfl (by kernel_rfl) (by kernel_rfl) (by kernel_rfl) (by kernel_rfl) (fun _ _ _ h => h) (Or.inl ⟨by rfl, ?_⟩) ⟨qb, q0, q1, qt⟩ (Or.inr trivial) ?_
                        rotate_left
                        · intro w hS
                          have hS1 := hS.1
                          have hS2 := hS.2.1
                          have hS3 := hS.2.2.1
                          have hS4 := hS.2.2.2
                          go_simp
                          try rfl
                        try simp only [Act.put, List.getElem_toArray, List.getElem_cons_succ, List.getElem_cons_zero, List.setIfInBounds_toArray, List.set_cons_zero, List.set_cons_succ]
                        refine G_one (i := 24) (by kernel_rfl) ?_
                        refine wpOp_of_wpG rfl (by rfl) ?_
                        simp only [List.getElem_toArray, List.getElem_cons_succ, List.getElem_cons_zero]
                        go_simp
                        refine (HPD.out w8 HM8.out).mono ?_
                        rintro e w9 ⟨rfl, hb9⟩
                        have HM9 : Hid (Below w4.heap.size w4 w9) := HM8.out.trans (hb9.mono HM8.out.size)
                        clear q0 q1 qb qt
                        obtain ⟨_, _, q0, q1, qb⟩ := bo_blk ((boO c).below HJ4.out HM9.out)
                        have qt := HT.out w9 HM9.out
                        clear hb9
                        dsimp only
                        refine ⟨⟨qb, q0, q1, qt⟩, ?_⟩
                        try simp only [Act.put, List.getElem_toArray, List.getElem_cons_succ, List.getElem_cons_zero, List.setIfInBounds_toArray, List.set_cons_zero, List.set_cons_succ]
                        refine G_takeA (i := 25) (v := ?_) rfl (by kernel_rfl) (by kernel_rfl) (by kernel_rfl) (by kernel_rfl) (fun _ _ _ h => h) (Or.inl ⟨by rfl, ?_⟩) ⟨qb, q0, q1, qt⟩ (Or.inr trivial) ?_
                        rotate_left
                        · intro w hS
                          go_simp
                          try rfl
                        try simp only [Act.put, List.getElem_toArray, List.getElem_cons_succ, List.getElem_cons_zero, List.setIfInBounds_toArray, List.set_cons_zero, List.set_cons_succ]
                        refine G_takeA (i := 26) (v := ?_) rfl (by kernel_rfl) (by kernel_rfl) (by kernel_rfl) (by kernel_rfl) (fun _ _ _ h => h) (Or.inl ⟨by rfl, ?_⟩) ⟨qb, q0, q1, qt⟩ (Or.inr trivial) ?_
                        rotate_left
                        · intro w hS
                          go_simp
                          try rfl
                        try simp only [Act.put, List.getElem_toArray, List.getElem_cons_succ, List.getElem_cons_zero, List.setIfInBounds_toArray, List.set_cons_zero, List.set_cons_succ]
                        refine G_done (by kernel_rfl) ?_ _
                        refine NoPanic.normal ?_
                        clear hTS c0 c1 b0c tc q0 q1 qb qt
                        go_wp2_with fail
                        go_roundw
                        case rel => exact ⟨i + 1, by omega, by go_num, HM9⟩
                        case measure => simp [intOf]; omega
                  · obtain rfl : i = f := by omega
                    go_wp2_with fail
                    go_roundw
                    case rel => exact ⟨m + 1, by omega, by go_num, HI⟩
                    case measure => simp [intOf]; omega
              · obtain rfl : m = G.length := by omega
                have HJ5 : Hid ((boO c).J F3 S3 wr ∧ Bok c S3 (j + 1) ∧ ∀ b, F3 b → w1.heap.size ≤ b) := ⟨(boO c).below HJ4.out HM.out, HK.out.2.2, HG3.out⟩
                have HB5 : Hid (Below w1.heap.size w1 wr) := HB4.out.trans (HM.out.mono HB4.out.size)
                go_wp2_with fail
                go_roundw
                case rel => exact ⟨j + 1, S3, F3, by omega, by go_num, HJ5, HB5⟩
                case measure => simp [intOf]; omega
          · have P := cutB_any H.out.1 (by have := H.out.2.1.rq; omega)
            have hB3 := H.out.2.1.cut (bo_wbd H.out.1)
            go_wp2_with fail
            refine P.mono ?_
            clear P
            rintro e w3 ⟨F3, rfl, j3, t3⟩
            generalize (S.1.cut c.a, S.2) = S3 at *
            clear y1 y2 y3 y4 bcell
            have HB3 : Hid (Below w1.heap.size w1 w3) := HB.out.trans (t3.fr.below HB.out.size H.out.2.2)
            have HG3 : Hid (∀ b, F3 b → w1.heap.size ≤ b) := fun b d => (t3.sub b d).elim (H.out.2.2 b) (fun e => Nat.le_trans HB.out.size e)
            clear H HB t3
            obtain ⟨Y, G, hkv⟩ := hB3.kv
            have hwb := bo_wbd j3
            obtain ⟨ha3, _, c0, c1, b0c⟩ := bo_blk j3
            have P := things_any w3 ha3
            obtain ⟨ey, eo⟩ := hkv.inv.full.lists (O := c.a.O) hwb.n1 hwb.y1 hwb.o1 hwb.g1
            rw [ey, eo] at P
            have HK : Hid (KInv c.a S3.1.s Y G ∧ Wbd c.a S3.1.s ∧ Bok c S3 (j + 1)) := ⟨hkv, hwb, hB3⟩
            have HJ : Hid ((boO c).J F3 S3 w3) := j3
            clear hkv hwb hB3 j3 ha3 ey eo
            as_aux_lemma =>
            go_wp2_with fail
            refine P.mono ?_
            clear P
            rintro e w4 ⟨v1, v2, rfl, ho1, ho2, hb4⟩
            obtain ⟨d1, f1, rfl⟩ := row_slice ho1
            obtain ⟨d2, f2, rfl⟩ := row_slice ho2
            have HLs : Hid (Ls w4 d2 G) := row_ints ho2
            have HJ4 : Hid ((boO c).J F3 S3 w4) := (boO c).below HJ.out hb4
            have HB4 : Hid (Below w1.heap.size w1 w4) := HB3.out.trans (hb4.mono HB3.out.size)
            have hGl : G.length ≤ 2000 := by
              have := HK.out.1.inv.full.lists (O := c.a.O) HK.out.2.1.n1 HK.out.2.1.y1 HK.out.2.1.o1 HK.out.2.1.g1
              rw [← this.2]
              exact ths_le _ _
            clear ho1 ho2 hb4 HJ HB3 c0 c1 b0c
            go_wp2_with fail
            go_loopw [12] (fun iv wr => ∃ m : Nat, m ≤ G.length ∧ iv = .int .i64 m ∧ Hid (Below w4.heap.size w4 wr)) (fun iv _ => G.length - (intOf iv).toNat)
            case atStart => exact ⟨0, Nat.zero_le _, rfl, Below.refl _ _⟩
            case round =>
              obtain ⟨m, hm, rfl, HM⟩ := hrel
              by_cases hml : m < G.length
              · obtain ⟨tb, tq, e0, lt0, hc⟩ := HLs.out (by omega)
                have tc := (HM.out.cell (p := ⟨tb, tq + m, none⟩) lt0).trans (hc m hml)
                subst e0
                have hv : G.getD m 0 ∈ G := by rw [List.getD_eq_getElem?_getD, List.getElem?_eq_getElem hml]; exact List.getElem_mem hml
                have HT : Hid (∀ wq, Below w4.heap.size w4 wq → wq.cell? ⟨tb, tq + m, none⟩ = some (.int .i64 (G.getD m 0))) := fun wq hq => (hq.cell (p := ⟨tb, tq + m, none⟩) lt0).trans (hc m hml)
                generalize G.getD m 0 = v at *
                have hio := HK.out.1.inv.full.io v hv
                have n1 := HK.out.2.1.n1
                have n2 := HK.out.2.1.g1
                have n3 := HK.out.2.1.o1
                have v0 : 0 ≤ v := by omega
                have v1 : v ≤ 2000 := by omega
                obtain ⟨f, hf⟩ : ∃ f : Nat, pf (ld c.a.N S3.1.s.y S3.1.s.g S3.1.s.ws v) = f := ⟨(pf (ld c.a.N S3.1.s.y S3.1.s.g S3.1.s.ws v)).toNat, by have := pf_bd (ld c.a.N S3.1.s.y S3.1.s.g S3.1.s.ws v); omega⟩
                have hf12 : f ≤ 12 := by have := pf_bd (ld c.a.N S3.1.s.y S3.1.s.g S3.1.s.ws v); omega
                have HV : Hid (v ∈ G ∧ pf (ld c.a.N S3.1.s.y S3.1.s.g S3.1.s.ws v) = f) := ⟨hv, hf⟩
                have jr := (boO c).below HJ4.out HM.out
                obtain ⟨ha, _, c0, c1, b0c⟩ := bo_blk jr
                have P := thing_any v wr.drew (ha.below (Below.refl _ wr).drew (Nat.le_refl _))
                rw [hf] at P
                have m0 : (0 : Int) ≤ (m : Int) := by omega
                have m1 : (m : Int) < (G.length : Int) := by omega
                clear hio n1 n2 n3 hf hv hc jr ha lt0
                go_wp2_with fail
                go_region_held3 (fun w' => w'.cell? ⟨c.pb, 0, none⟩ = some (.pointer (some ⟨c.a.pw, 0, none⟩)) ∧ w'.cell? ⟨c.a.pw, 0, none⟩ = some (.pointer (some ⟨c.a.p, 0, none⟩)) ∧ w'.cell? ⟨tb, tq + m, none⟩ = some (.int .i64 v)) (go_keep)
                  (first
                    | (go_at_call 25; refine P.mono ?_; clear P; rintro e w5 ⟨rfl, hb5⟩; have HM5 : Hid (Below w4.heap.size w4 w5) := HM.out.trans (((Below.refl _ wr).drew.trans (hb5.mono (Nat.le_refl _))).mono HM.out.size); obtain ⟨_, _, q0, q1, qb⟩ := bo_blk ((boO c).below HJ4.out HM5.out); have qt := HT.out w5 HM5.out; clear hb5))
                clear HM c0 c1 b0c tc q0 q1 qb qt
                go_wp2_with fail
                go_loopw [16] (fun iv wr => ∃ i : Nat, i ≤ f ∧ iv = .int .i64 i ∧ Hid (Below w4.heap.size w4 wr)) (fun iv _ => f - (intOf iv).toNat)
                case atStart => exact ⟨0, Nat.zero_le _, rfl, HM5⟩
                case round =>
                  clear HM5
                  obtain ⟨i, hi, rfl, HI⟩ := hrel
                  by_cases hil : i < f
                  · have i0 : (0 : Int) ≤ (i : Int) := by omega
                    have i1 : (i : Int) < (f : Int) := by omega
                    obtain ⟨ha, _, c0, c1, b0c⟩ := bo_blk ((boO c).below HJ4.out HI.out)
                    have tc := HT.out _ HI.out
                    have P := load_any (v + 1 + i) wr.drew (ha.below (Below.refl _ wr).drew (Nat.le_refl _))
                    have KD := KInv.dirty HK.out.1 HK.out.2.1 HV.out.1 (i := (i : Int)) i0 (by rw [HV.out.2]; exact i1)
                    generalize ld c.a.N S3.1.s.y S3.1.s.g S3.1.s.ws (v + 1 + i) = x at *
                    have HD : Hid (aB x = true → hB 0 S3.1.s.y (aV x) = true → (cB c.a.N (nC c.a.O) v && S3.1.s.M.contains (cN c.a.N v)) = true) := KD
                    have b6 : IntKind.i64.wrap (v + 1) = v + 1 := by rw [IntKind.wrap_i64]; omega
                    have b7 : IntKind.i64.wrap (v + 1 + (i : Int)) = v + 1 + i := by rw [IntKind.wrap_i64]; omega
                    clear ha KD
                    go_wp2_with fail
                    go_region_held3 (fun w' => w'.cell? ⟨c.pb, 0, none⟩ = some (.pointer (some ⟨c.a.pw, 0, none⟩)) ∧ w'.cell? ⟨c.a.pw, 0, none⟩ = some (.pointer (some ⟨c.a.p, 0, none⟩)) ∧ w'.cell? ⟨tb, tq + m, none⟩ = some (.int .i64 v)) (go_keep)
                      (first
                        | (go_at_call 27; refine P.mono ?_; clear P; rintro e w6 ⟨rfl, hb6⟩; have HM6 : Hid (Below w4.heap.size w4 w6) := HI.out.trans (((Below.refl _ wr).drew.trans (hb6.mono (Nat.le_refl _))).mono HI.out.size); obtain ⟨_, _, q0, q1, qb⟩ := bo_blk ((boO c).below HJ4.out HM6.out); have qt := HT.out w6 HM6.out; clear hb6)
                        | (go_at_call 26; refine (at_any x w6).mono ?_; rintro e w7 ⟨rfl, hb7⟩; have HM7 : Hid (Below w4.heap.size w4 w7) := HM6.out.trans (hb7.mono HM6.out.size); obtain ⟨_, _, q0, q1, qb⟩ := bo_blk ((boO c).below HJ4.out HM7.out); have qt := HT.out w7 HM7.out; clear hb7))
                    clear HI HM6 c0 c1 b0c tc q0 q1 qb qt b6 b7
                    obtain ⟨ha, ⟨pq, hcd⟩, c0, c1, b0c⟩ := bo_blk ((boO c).below HJ4.out HM7.out)
                    have tc := HT.out _ HM7.out
                    cases hab : aB x
                    · clear ha hcd
                      as_aux_lemma =>
                      go_wp2_with fail
                      refine wp_region_noPanic ?_
                      refine wp_region_any (by kernel_rfl) ?_
                      have hTS : w7.drew.cell? ⟨c.pb, 0, none⟩ = some (.pointer (some ⟨c.a.pw, 0, none⟩)) ∧ w7.drew.cell? ⟨c.a.pw, 0, none⟩ = some (.pointer (some ⟨c.a.p, 0, none⟩)) ∧ w7.drew.cell? ⟨c.a.pw, 1, none⟩ = some (.pointer (some ⟨c.a.pc, 0, none⟩)) ∧ w7.drew.cell? ⟨tb, tq + m, none⟩ = some (.int .i64 v) := ⟨b0c, c0, c1, tc⟩
                      refine any_of_G (T := fun w' => w'.cell? ⟨c.pb, 0, none⟩ = some (.pointer (some ⟨c.a.pw, 0, none⟩)) ∧ w'.cell? ⟨c.a.pw, 0, none⟩ = some (.pointer (some ⟨c.a.p, 0, none⟩)) ∧ w'.cell? ⟨c.a.pw, 1, none⟩ = some (.pointer (some ⟨c.a.pc, 0, none⟩)) ∧ w'.cell? ⟨tb, tq + m, none⟩ = some (.int .i64 v)) (S := fun _ => True) (St := []) _ _ _ _ ?_
                      refine G_takeA (i := 0) (v := ?_) rfl (by kernel_rfl) (by kernel_rfl) (by kernel_rfl) (by kernel_rfl) (fun _ _ _ h => h) (Or.inl ⟨by rfl, ?_⟩) hTS (Or.inr trivial) ?_
                      rotate_left
                      · intro w hS
                        go_simp
                        try rfl
                      try simp only [Act.put, List.getElem_toArray, List.getElem_cons_zero, List.setIfInBounds_toArray, List.set_cons_zero, List.set_cons_succ]
                      refine G_takeA (i := 1) (v := ?_) rfl (by kernel_rfl) (by kernel_rfl) (by kernel_rfl) (by kernel_rfl) (fun _ _ _ h => h) (Or.inl ⟨by rfl, ?_⟩) hTS (Or.inr trivial) ?_
                      rotate_left
                      · intro w hS
                        go_simp
                        try rfl
                      try simp only [Act.put, List.getElem_toArray, List.getElem_cons_succ, List.getElem_cons_zero, List.setIfInBounds_toArray, List.set_cons_zero, List.set_cons_succ]
                      refine G_takeA (i := 2) (v := undef) rfl (by kernel_rfl) (by kernel_rfl) (by kernel_rfl) (by kernel_rfl) (fun _ _ _ h => h) (Or.inr ⟨by rfl, rfl⟩) hTS (Or.inr trivial) ?_
                      try simp only [Act.put, List.getElem_toArray, List.getElem_cons_succ, List.getElem_cons_zero, List.setIfInBounds_toArray, List.set_cons_zero, List.set_cons_succ]
                      refine G_takeA (i := 3) (v := undef) rfl (by kernel_rfl) (by kernel_rfl) (by kernel_rfl) (by kernel_rfl) (fun _ _ _ h => h) (Or.inr ⟨by rfl, rfl⟩) hTS (Or.inr trivial) ?_
                      try simp only [Act.put, List.getElem_toArray, List.getElem_cons_succ, List.getElem_cons_zero, List.setIfInBounds_toArray, List.set_cons_zero, List.set_cons_succ]
                      refine G_takeA (i := 4) (v := undef) rfl (by kernel_rfl) (by kernel_rfl) (by kernel_rfl) (by kernel_rfl) (fun _ _ _ h => h) (Or.inr ⟨by rfl, rfl⟩) hTS (Or.inr trivial) ?_
                      try simp only [Act.put, List.getElem_toArray, List.getElem_cons_succ, List.getElem_cons_zero, List.setIfInBounds_toArray, List.set_cons_zero, List.set_cons_succ]
                      refine G_takeA (i := 5) (v := undef) rfl (by kernel_rfl) (by kernel_rfl) (by kernel_rfl) (by kernel_rfl) (fun _ _ _ h => h) (Or.inr ⟨by rfl, rfl⟩) hTS (Or.inr trivial) ?_
                      try simp only [Act.put, List.getElem_toArray, List.getElem_cons_succ, List.getElem_cons_zero, List.setIfInBounds_toArray, List.set_cons_zero, List.set_cons_succ]
                      refine G_takeA (i := 6) (v := undef) rfl (by kernel_rfl) (by kernel_rfl) (by kernel_rfl) (by kernel_rfl) (fun _ _ _ h => h) (Or.inr ⟨by rfl, rfl⟩) hTS (Or.inr trivial) ?_
                      try simp only [Act.put, List.getElem_toArray, List.getElem_cons_succ, List.getElem_cons_zero, List.setIfInBounds_toArray, List.set_cons_zero, List.set_cons_succ]
                      refine G_takeA (i := 7) (v := undef) rfl (by kernel_rfl) (by kernel_rfl) (by kernel_rfl) (by kernel_rfl) (fun _ _ _ h => h) (Or.inr ⟨by rfl, rfl⟩) hTS (Or.inr trivial) ?_
                      try simp only [Act.put, List.getElem_toArray, List.getElem_cons_succ, List.getElem_cons_zero, List.setIfInBounds_toArray, List.set_cons_zero, List.set_cons_succ]
                      refine G_takeA (i := 8) (v := undef) rfl (by kernel_rfl) (by kernel_rfl) (by kernel_rfl) (by kernel_rfl) (fun _ _ _ h => h) (Or.inr ⟨by rfl, rfl⟩) hTS (Or.inr trivial) ?_
                      try simp only [Act.put, List.getElem_toArray, List.getElem_cons_succ, List.getElem_cons_zero, List.setIfInBounds_toArray, List.set_cons_zero, List.set_cons_succ]
                      refine G_takeA (i := 9) (v := undef) rfl (by kernel_rfl) (by kernel_rfl) (by kernel_rfl) (by kernel_rfl) (fun _ _ _ h => h) (Or.inr ⟨by rfl, rfl⟩) hTS (Or.inr trivial) ?_
                      try simp only [Act.put, List.getElem_toArray, List.getElem_cons_succ, List.getElem_cons_zero, List.setIfInBounds_toArray, List.set_cons_zero, List.set_cons_succ]
                      refine G_takeA (i := 10) (v := undef) rfl (by kernel_rfl) (by kernel_rfl) (by kernel_rfl) (by kernel_rfl) (fun _ _ _ h => h) (Or.inr ⟨by rfl, rfl⟩) hTS (Or.inr trivial) ?_
                      try simp only [Act.put, List.getElem_toArray, List.getElem_cons_succ, List.getElem_cons_zero, List.setIfInBounds_toArray, List.set_cons_zero, List.set_cons_succ]
                      refine G_takeA (i := 11) (v := ?_) rfl (by kernel_rfl) (by kernel_rfl) (by kernel_rfl) (by kernel_rfl) (fun _ _ _ h => h) (Or.inl ⟨by rfl, ?_⟩) hTS (Or.inr trivial) ?_
                      rotate_left
                      · intro w hS
                        go_simp
                        try rfl
                      try simp only [Act.put, List.getElem_toArray, List.getElem_cons_succ, List.getElem_cons_zero, List.setIfInBounds_toArray, List.set_cons_zero, List.set_cons_succ]
                      refine G_takeA (i := 12) (v := ?_) rfl (by kernel_rfl) (by kernel_rfl) (by kernel_rfl) (by kernel_rfl) (fun _ _ _ h => h) (Or.inl ⟨by rfl, ?_⟩) hTS (Or.inr trivial) ?_
                      rotate_left
                      · intro w hS
                        go_simp
                        try rfl
                      try simp only [Act.put, List.getElem_toArray, List.getElem_cons_succ, List.getElem_cons_zero, List.setIfInBounds_toArray, List.set_cons_zero, List.set_cons_succ]
                      refine G_takeA (i := 13) (v := undef) rfl (by kernel_rfl) (by kernel_rfl) (by kernel_rfl) (by kernel_rfl) (fun _ _ _ h => h) (Or.inr ⟨by rfl, rfl⟩) hTS (Or.inr trivial) ?_
                      try simp only [Act.put, List.getElem_toArray, List.getElem_cons_succ, List.getElem_cons_zero, List.setIfInBounds_toArray, List.set_cons_zero, List.set_cons_succ]
                      refine G_takeA (i := 14) (v := undef) rfl (by kernel_rfl) (by kernel_rfl) (by kernel_rfl) (by kernel_rfl) (fun _ _ _ h => h) (Or.inr ⟨by rfl, rfl⟩) hTS (Or.inr trivial) ?_
                      try simp only [Act.put, List.getElem_toArray, List.getElem_cons_succ, List.getElem_cons_zero, List.setIfInBounds_toArray, List.set_cons_zero, List.set_cons_succ]
                      refine G_takeA (i := 15) (v := undef) rfl (by kernel_rfl) (by kernel_rfl) (by kernel_rfl) (by kernel_rfl) (fun _ _ _ h => h) (Or.inr ⟨by rfl, rfl⟩) hTS (Or.inr trivial) ?_
                      try simp only [Act.put, List.getElem_toArray, List.getElem_cons_succ, List.getElem_cons_zero, List.setIfInBounds_toArray, List.set_cons_zero, List.set_cons_succ]
                      refine G_takeA (i := 16) (v := undef) rfl (by kernel_rfl) (by kernel_rfl) (by kernel_rfl) (by kernel_rfl) (fun _ _ _ h => h) (Or.inr ⟨by rfl, rfl⟩) hTS (Or.inr trivial) ?_
                      try simp only [Act.put, List.getElem_toArray, List.getElem_cons_succ, List.getElem_cons_zero, List.setIfInBounds_toArray, List.set_cons_zero, List.set_cons_succ]
                      refine G_takeA (i := 17) (v := undef) rfl (by kernel_rfl) (by kernel_rfl) (by kernel_rfl) (by kernel_rfl) (fun _ _ _ h => h) (Or.inr ⟨by rfl, rfl⟩) hTS (Or.inr trivial) ?_
                      try simp only [Act.put, List.getElem_toArray, List.getElem_cons_succ, List.getElem_cons_zero, List.setIfInBounds_toArray, List.set_cons_zero, List.set_cons_succ]
                      refine G_takeA (i := 18) (v := undef) rfl (by kernel_rfl) (by kernel_rfl) (by kernel_rfl) (by kernel_rfl) (fun _ _ _ h => h) (Or.inr ⟨by rfl, rfl⟩) hTS (Or.inr trivial) ?_
                      try simp only [Act.put, List.getElem_toArray, List.getElem_cons_succ, List.getElem_cons_zero, List.setIfInBounds_toArray, List.set_cons_zero, List.set_cons_succ]
                      refine G_takeA (i := 19) (v := undef) rfl (by kernel_rfl) (by kernel_rfl) (by kernel_rfl) (by kernel_rfl) (fun _ _ _ h => h) (Or.inr ⟨by rfl, rfl⟩) hTS (Or.inr trivial) ?_
                      try simp only [Act.put, List.getElem_toArray, List.getElem_cons_succ, List.getElem_cons_zero, List.setIfInBounds_toArray, List.set_cons_zero, List.set_cons_succ]
                      refine G_takeA (i := 20) (v := undef) rfl (by kernel_rfl) (by kernel_rfl) (by kernel_rfl) (by kernel_rfl) (fun _ _ _ h => h) (Or.inr ⟨by rfl, rfl⟩) hTS (Or.inr trivial) ?_
                      try simp only [Act.put, List.getElem_toArray, List.getElem_cons_succ, List.getElem_cons_zero, List.setIfInBounds_toArray, List.set_cons_zero, List.set_cons_succ]
                      refine G_takeA (i := 21) (v := undef) rfl (by kernel_rfl) (by kernel_rfl) (by kernel_rfl) (by kernel_rfl) (fun _ _ _ h => h) (Or.inr ⟨by rfl, rfl⟩) hTS (Or.inr trivial) ?_
                      try simp only [Act.put, List.getElem_toArray, List.getElem_cons_succ, List.getElem_cons_zero, List.setIfInBounds_toArray, List.set_cons_zero, List.set_cons_succ]
                      refine G_takeA (i := 22) (v := undef) rfl (by kernel_rfl) (by kernel_rfl) (by kernel_rfl) (by kernel_rfl) (fun _ _ _ h => h) (Or.inr ⟨by rfl, rfl⟩) hTS (Or.inr trivial) ?_
                      try simp only [Act.put, List.getElem_toArray, List.getElem_cons_succ, List.getElem_cons_zero, List.setIfInBounds_toArray, List.set_cons_zero, List.set_cons_succ]
                      refine G_takeA (i := 23) (v := undef) rfl (by kernel_rfl) (by kernel_rfl) (by kernel_rfl) (by kernel_rfl) (fun _ _ _ h => h) (Or.inr ⟨by rfl, rfl⟩) hTS (Or.inr trivial) ?_
                      try simp only [Act.put, List.getElem_toArray, List.getElem_cons_succ, List.getElem_cons_zero, List.setIfInBounds_toArray, List.set_cons_zero, List.set_cons_succ]
                      refine G_takeA (i := 24) (v := undef) rfl (by kernel_rfl) (by kernel_rfl) (by kernel_rfl) (by kernel_rfl) (fun _ _ _ h => h) (Or.inr ⟨by rfl, rfl⟩) hTS (Or.inr trivial) ?_
                      try simp only [Act.put, List.getElem_toArray, List.getElem_cons_succ, List.getElem_cons_zero, List.setIfInBounds_toArray, List.set_cons_zero, List.set_cons_succ]
                      refine G_takeA (i := 25) (v := undef) rfl (by kernel_rfl) (by kernel_rfl) (by kernel_rfl) (by kernel_rfl) (fun _ _ _ h => h) (Or.inr ⟨by rfl, rfl⟩) hTS (Or.inr trivial) ?_
                      try simp only [Act.put, List.getElem_toArray, List.getElem_cons_succ, List.getElem_cons_zero, List.setIfInBounds_toArray, List.set_cons_zero, List.set_cons_succ]
                      refine G_takeA (i := 26) (v := ?_) rfl (by kernel_rfl) (by kernel_rfl) (by kernel_rfl) (by kernel_rfl) (fun _ _ _ h => h) (Or.inl ⟨by rfl, ?_⟩) hTS (Or.inr trivial) ?_
                      rotate_left
                      · intro w hS
                        go_simp
                        try rfl
                      try simp only [Act.put, List.getElem_toArray, List.getElem_cons_succ, List.getElem_cons_zero, List.setIfInBounds_toArray, List.set_cons_zero, List.set_cons_succ]
                      refine G_done (by kernel_rfl) ?_ _
                      refine NoPanic.normal ?_
                      have HM8 : Hid (Below w4.heap.size w4 w7.drew) := HM7.out.trans ((Below.refl _ w7).drew.mono HM7.out.size)
                      clear hTS c0 c1 b0c tc
                      go_wp2_with fail
                      go_roundw
                      case rel => exact ⟨i + 1, by omega, by go_num, HM8⟩
                      case measure => simp [intOf]; omega
                    · have PY := young_any (aV x) w7.drew (ha.below (Below.refl _ w7).drew (Nat.le_refl _))
                      cases hy : hB 0 S3.1.s.y (aV x)
                      · rw [hy] at PY
                        clear ha hcd
                        as_aux_lemma =>
                        go_wp2_with fail
                        refine wp_region_noPanic ?_
                        refine wp_region_any (by kernel_rfl) ?_
                        have hTS : w7.drew.cell? ⟨c.pb, 0, none⟩ = some (.pointer (some ⟨c.a.pw, 0, none⟩)) ∧ w7.drew.cell? ⟨c.a.pw, 0, none⟩ = some (.pointer (some ⟨c.a.p, 0, none⟩)) ∧ w7.drew.cell? ⟨c.a.pw, 1, none⟩ = some (.pointer (some ⟨c.a.pc, 0, none⟩)) ∧ w7.drew.cell? ⟨tb, tq + m, none⟩ = some (.int .i64 v) := ⟨b0c, c0, c1, tc⟩
                        refine any_of_G (T := fun w' => w'.cell? ⟨c.pb, 0, none⟩ = some (.pointer (some ⟨c.a.pw, 0, none⟩)) ∧ w'.cell? ⟨c.a.pw, 0, none⟩ = some (.pointer (some ⟨c.a.p, 0, none⟩)) ∧ w'.cell? ⟨c.a.pw, 1, none⟩ = some (.pointer (some ⟨c.a.pc, 0, none⟩)) ∧ w'.cell? ⟨tb, tq + m, none⟩ = some (.int .i64 v)) (S := fun _ => True) (St := []) _ _ _ _ ?_
                        refine G_takeA (i := 0) (v := ?_) rfl (by kernel_rfl) (by kernel_rfl) (by kernel_rfl) (by kernel_rfl) (fun _ _ _ h => h) (Or.inl ⟨by rfl, ?_⟩) hTS (Or.inr trivial) ?_
                        rotate_left
                        · intro w hS
                          go_simp
                          try rfl
                        try simp only [Act.put, List.getElem_toArray, List.getElem_cons_zero, List.setIfInBounds_toArray, List.set_cons_zero, List.set_cons_succ]
                        refine G_takeA (i := 1) (v := ?_) rfl (by kernel_rfl) (by kernel_rfl) (by kernel_rfl) (by kernel_rfl) (fun _ _ _ h => h) (Or.inl ⟨by rfl, ?_⟩) hTS (Or.inr trivial) ?_
                        rotate_left
                        · intro w hS
                          go_simp
                          try rfl
                        try simp only [Act.put, List.getElem_toArray, List.getElem_cons_succ, List.getElem_cons_zero, List.setIfInBounds_toArray, List.set_cons_zero, List.set_cons_succ]
                        refine G_takeA (i := 2) (v := ?_) rfl (by kernel_rfl) (by kernel_rfl) (by kernel_rfl) (by kernel_rfl) (fun _ _ _ h => h) (Or.inl ⟨by rfl, ?_⟩) hTS (Or.inr trivial) ?_
                        rotate_left
                        · intro w hS
                          go_simp
                          try rfl
                        try simp only [Act.put, List.getElem_toArray, List.getElem_cons_succ, List.getElem_cons_zero, List.setIfInBounds_toArray, List.set_cons_zero, List.set_cons_succ]
                        refine G_takeA (i := 3) (v := ?_) rfl (by kernel_rfl) (by kernel_rfl) (by kernel_rfl) (by kernel_rfl) (fun _ _ _ h => h) (Or.inl ⟨by rfl, ?_⟩) hTS (Or.inr trivial) ?_
                        rotate_left
                        · intro w hS
                          go_simp
                          try rfl
                        try simp only [Act.put, List.getElem_toArray, List.getElem_cons_succ, List.getElem_cons_zero, List.setIfInBounds_toArray, List.set_cons_zero, List.set_cons_succ]
                        refine G_takeA (i := 4) (v := ?_) rfl (by kernel_rfl) (by kernel_rfl) (by kernel_rfl) (by kernel_rfl) (fun _ _ _ h => h) (Or.inl ⟨by rfl, ?_⟩) hTS (Or.inr trivial) ?_
                        rotate_left
                        · intro w hS
                          go_simp
                          try rfl
                        try simp only [Act.put, List.getElem_toArray, List.getElem_cons_succ, List.getElem_cons_zero, List.setIfInBounds_toArray, List.set_cons_zero, List.set_cons_succ]
                        refine G_takeA (i := 5) (v := ?_) rfl (by kernel_rfl) (by kernel_rfl) (by kernel_rfl) (by kernel_rfl) (fun _ _ _ h => h) (Or.inl ⟨by rfl, ?_⟩) hTS (Or.inr trivial) ?_
                        rotate_left
                        · intro w hS
                          have hS1 := hS.1
                          have hS2 := hS.2.1
                          have hS3 := hS.2.2.1
                          have hS4 := hS.2.2.2
                          go_simp
                          try rfl
                        try simp only [Act.put, List.getElem_toArray, List.getElem_cons_succ, List.getElem_cons_zero, List.setIfInBounds_toArray, List.set_cons_zero, List.set_cons_succ]
                        refine G_takeA (i := 6) (v := ?_) rfl (by kernel_rfl) (by kernel_rfl) (by kernel_rfl) (by kernel_rfl) (fun _ _ _ h => h) (Or.inl ⟨by rfl, ?_⟩) hTS (Or.inr trivial) ?_
                        rotate_left
                        · intro w hS
                          go_simp
                          try rfl
                        try simp only [Act.put, List.getElem_toArray, List.getElem_cons_succ, List.getElem_cons_zero, List.setIfInBounds_toArray, List.set_cons_zero, List.set_cons_succ]
                        refine G_takeA (i := 7) (v := ?_) rfl (by kernel_rfl) (by kernel_rfl) (by kernel_rfl) (by kernel_rfl) (fun _ _ _ h => h) (Or.inl ⟨by rfl, ?_⟩) hTS (Or.inr trivial) ?_
                        rotate_left
                        · intro w hS
                          go_simp
                          try rfl
                        try simp only [Act.put, List.getElem_toArray, List.getElem_cons_succ, List.getElem_cons_zero, List.setIfInBounds_toArray, List.set_cons_zero, List.set_cons_succ]
                        refine G_takeA (i := 8) (v := ?_) rfl (by kernel_rfl) (by kernel_rfl) (by kernel_rfl) (by kernel_rfl) (fun _ _ _ h => h) (Or.inl ⟨by rfl, ?_⟩) hTS (Or.inr trivial) ?_
                        rotate_left
                        · intro w hS
                          have hS1 := hS.1
                          have hS2 := hS.2.1
                          have hS3 := hS.2.2.1
                          have hS4 := hS.2.2.2
                          go_simp
                          try rfl
                        try simp only [Act.put, List.getElem_toArray, List.getElem_cons_succ, List.getElem_cons_zero, List.setIfInBounds_toArray, List.set_cons_zero, List.set_cons_succ]
                        refine G_takeA (i := 9) (v := ?_) rfl (by kernel_rfl) (by kernel_rfl) (by kernel_rfl) (by kernel_rfl) (fun _ _ _ h => h) (Or.inl ⟨by rfl, ?_⟩) hTS (Or.inr trivial) ?_
                        rotate_left
                        · intro w hS
                          go_simp
                          try rfl
                        try simp only [Act.put, List.getElem_toArray, List.getElem_cons_succ, List.getElem_cons_zero, List.setIfInBounds_toArray, List.set_cons_zero, List.set_cons_succ]
                        refine G_one (i := 10) (by kernel_rfl) ?_
                        refine wpOp_of_wpG rfl (by rfl) ?_
                        simp only [List.getElem_toArray, List.getElem_cons_succ, List.getElem_cons_zero]
                        go_simp
                        refine PY.mono ?_
                        clear PY
                        rintro e w8 ⟨rfl, hb8⟩
                        have HM8 : Hid (Below w4.heap.size w4 w8) := HM7.out.trans (((Below.refl _ w7).drew.trans (hb8.mono (Nat.le_refl _))).mono HM7.out.size)
                        obtain ⟨_, _, q0, q1, qb⟩ := bo_blk ((boO c).below HJ4.out HM8.out)
                        have qt := HT.out w8 HM8.out
                        clear hb8
                        dsimp only
                        refine ⟨⟨qb, q0, q1, qt⟩, ?_⟩
                        try simp only [Act.put, List.getElem_toArray, List.getElem_cons_succ, List.getElem_cons_zero, List.setIfInBounds_toArray, List.set_cons_zero, List.set_cons_succ]
                        refine G_takeA (i := 11) (v := ?_) rfl (by kernel_rfl) (by kernel_rfl) (by kernel_rfl) (by kernel_rfl) (fun _ _ _ h => h) (Or.inl ⟨by rfl, ?_⟩) ⟨qb, q0, q1, qt⟩ (Or.inr trivial) ?_
                        rotate_left
                        · intro w hS
                          go_simp
                          try rfl
                        try simp only [Act.put, List.getElem_toArray, List.getElem_cons_succ, List.getElem_cons_zero, List.setIfInBounds_toArray, List.set_cons_zero, List.set_cons_succ]
                        refine G_takeA (i := 12) (v := ?_) rfl (by kernel_rfl) (by kernel_rfl) (by kernel_rfl) (by kernel_rfl) (fun _ _ _ h => h) (Or.inl ⟨by rfl, ?_⟩) ⟨qb, q0, q1, qt⟩ (Or.inr trivial) ?_
                        rotate_left
                        · intro w hS
                          go_simp
                          try rfl
                        try simp only [Act.put, List.getElem_toArray, List.getElem_cons_succ, List.getElem_cons_zero, List.setIfInBounds_toArray, List.set_cons_zero, List.set_cons_succ]
                        refine G_takeA (i := 13) (v := undef) rfl (by kernel_rfl) (by kernel_rfl) (by kernel_rfl) (by kernel_rfl) (fun _ _ _ h => h) (Or.inr ⟨by rfl, rfl⟩) ⟨qb, q0, q1, qt⟩ (Or.inr trivial) ?_
                        try simp only [Act.put, List.getElem_toArray, List.getElem_cons_succ, List.getElem_cons_zero, List.setIfInBounds_toArray, List.set_cons_zero, List.set_cons_succ]
                        refine G_takeA (i := 14) (v := undef) rfl (by kernel_rfl) (by kernel_rfl) (by kernel_rfl) (by kernel_rfl) (fun _ _ _ h => h) (Or.inr ⟨by rfl, rfl⟩) ⟨qb, q0, q1, qt⟩ (Or.inr trivial) ?_
                        try simp only [Act.put, List.getElem_toArray, List.getElem_cons_succ, List.getElem_cons_zero, List.setIfInBounds_toArray, List.set_cons_zero, List.set_cons_succ]
                        refine G_takeA (i := 15) (v := undef) rfl (by kernel_rfl) (by kernel_rfl) (by kernel_rfl) (by kernel_rfl) (fun _ _ _ h => h) (Or.inr ⟨by rfl, rfl⟩) ⟨qb, q0, q1, qt⟩ (Or.inr trivial) ?_
                        try simp only [Act.put, List.getElem_toArray, List.getElem_cons_succ, List.getElem_cons_zero, List.setIfInBounds_toArray, List.set_cons_zero, List.set_cons_succ]
                        refine G_takeA (i := 16) (v := undef) rfl (by kernel_rfl) (by kernel_rfl) (by kernel_rfl) (by kernel_rfl) (fun _ _ _ h => h) (Or.inr ⟨by rfl, rfl⟩) ⟨qb, q0, q1, qt⟩ (Or.inr trivial) ?_
                        try simp only [Act.put, List.getElem_toArray, List.getElem_cons_succ, List.getElem_cons_zero, List.setIfInBounds_toArray, List.set_cons_zero, List.set_cons_succ]
                        refine G_takeA (i := 17) (v := undef) rfl (by kernel_rfl) (by kernel_rfl) (by kernel_rfl) (by kernel_rfl) (fun _ _ _ h => h) (Or.inr ⟨by rfl, rfl⟩) ⟨qb, q0, q1, qt⟩ (Or.inr trivial) ?_
                        try simp only [Act.put, List.getElem_toArray, List.getElem_cons_succ, List.getElem_cons_zero, List.setIfInBounds_toArray, List.set_cons_zero, List.set_cons_succ]
                        refine G_takeA (i := 18) (v := undef) rfl (by kernel_rfl) (by kernel_rfl) (by kernel_rfl) (by kernel_rfl) (fun _ _ _ h => h) (Or.inr ⟨by rfl, rfl⟩) ⟨qb, q0, q1, qt⟩ (Or.inr trivial) ?_
                        try simp only [Act.put, List.getElem_toArray, List.getElem_cons_succ, List.getElem_cons_zero, List.setIfInBounds_toArray, List.set_cons_zero, List.set_cons_succ]
                        refine G_takeA (i := 19) (v := undef) rfl (by kernel_rfl) (by kernel_rfl) (by kernel_rfl) (by kernel_rfl) (fun _ _ _ h => h) (Or.inr ⟨by rfl, rfl⟩) ⟨qb, q0, q1, qt⟩ (Or.inr trivial) ?_
                        try simp only [Act.put, List.getElem_toArray, List.getElem_cons_succ, List.getElem_cons_zero, List.setIfInBounds_toArray, List.set_cons_zero, List.set_cons_succ]
                        refine G_takeA (i := 20) (v := undef) rfl (by kernel_rfl) (by kernel_rfl) (by kernel_rfl) (by kernel_rfl) (fun _ _ _ h => h) (Or.inr ⟨by rfl, rfl⟩) ⟨qb, q0, q1, qt⟩ (Or.inr trivial) ?_
                        try simp only [Act.put, List.getElem_toArray, List.getElem_cons_succ, List.getElem_cons_zero, List.setIfInBounds_toArray, List.set_cons_zero, List.set_cons_succ]
                        refine G_takeA (i := 21) (v := undef) rfl (by kernel_rfl) (by kernel_rfl) (by kernel_rfl) (by kernel_rfl) (fun _ _ _ h => h) (Or.inr ⟨by rfl, rfl⟩) ⟨qb, q0, q1, qt⟩ (Or.inr trivial) ?_
                        try simp only [Act.put, List.getElem_toArray, List.getElem_cons_succ, List.getElem_cons_zero, List.setIfInBounds_toArray, List.set_cons_zero, List.set_cons_succ]
                        refine G_takeA (i := 22) (v := undef) rfl (by kernel_rfl) (by kernel_rfl) (by kernel_rfl) (by kernel_rfl) (fun _ _ _ h => h) (Or.inr ⟨by rfl, rfl⟩) ⟨qb, q0, q1, qt⟩ (Or.inr trivial) ?_
                        try simp only [Act.put, List.getElem_toArray, List.getElem_cons_succ, List.getElem_cons_zero, List.setIfInBounds_toArray, List.set_cons_zero, List.set_cons_succ]
                        refine G_takeA (i := 23) (v := undef) rfl (by kernel_rfl) (by kernel_rfl) (by kernel_rfl) (by kernel_rfl) (fun _ _ _ h => h) (Or.inr ⟨by rfl, rfl⟩) ⟨qb, q0, q1, qt⟩ (Or.inr trivial) ?_
                        try simp only [Act.put, List.getElem_toArray, List.getElem_cons_succ, List.getElem_cons_zero, List.setIfInBounds_toArray, List.set_cons_zero, List.set_cons_succ]
                        refine G_takeA (i := 24) (v := undef) rfl (by kernel_rfl) (by kernel_rfl) (by kernel_rfl) (by kernel_rfl) (fun _ _ _ h => h) (Or.inr ⟨by rfl, rfl⟩) ⟨qb, q0, q1, qt⟩ (Or.inr trivial) ?_
                        try simp only [Act.put, List.getElem_toArray, List.getElem_cons_succ, List.getElem_cons_zero, List.setIfInBounds_toArray, List.set_cons_zero, List.set_cons_succ]
                        refine G_takeA (i := 25) (v := undef) rfl (by kernel_rfl) (by kernel_rfl) (by kernel_rfl) (by kernel_rfl) (fun _ _ _ h => h) (Or.inr ⟨by rfl, rfl⟩) ⟨qb, q0, q1, qt⟩ (Or.inr trivial) ?_
                        try simp only [Act.put, List.getElem_toArray, List.getElem_cons_succ, List.getElem_cons_zero, List.setIfInBounds_toArray, List.set_cons_zero, List.set_cons_succ]
                        refine G_takeA (i := 26) (v := ?_) rfl (by kernel_rfl) (by kernel_rfl) (by kernel_rfl) (by kernel_rfl) (fun _ _ _ h => h) (Or.inl ⟨by rfl, ?_⟩) ⟨qb, q0, q1, qt⟩ (Or.inr trivial) ?_
                        rotate_left
                        · intro w hS
                          go_simp
                          try rfl
                        try simp only [Act.put, List.getElem_toArray, List.getElem_cons_succ, List.getElem_cons_zero, List.setIfInBounds_toArray, List.set_cons_zero, List.set_cons_succ]
                        refine G_done (by kernel_rfl) ?_ _
                        refine NoPanic.normal ?_
                        clear hTS c0 c1 b0c tc q0 q1 qb qt
                        go_wp2_with fail
                        go_roundw
                        case rel => exact ⟨i + 1, by omega, by go_num, HM8⟩
                        case measure => simp [intOf]; omega
                      · rw [hy] at PY
                        have hdt := HD.out hab hy
                        have HPD : Hid (∀ wq, Below w4.heap.size w4 wq → Calls Tryz.prog 29 #[.pointer (some ⟨c.a.pc, 0, none⟩), .int .i64 v] wq fun e w' => e = .returned (.bool true) ∧ Below wq.heap.size wq w') := fun wq hq => by
                          obtain ⟨_, ⟨pq, hcd⟩, _⟩ := bo_blk ((boO c).below HJ4.out hq)
                          have := dirty_any v wq hcd (by omega) (by have := HK.out.2.1.n1; omega) (by omega)
                          rw [hdt] at this
                          exact this
                        clear ha hcd hdt
                        as_aux_lemma =>
                        go_wp2_with fail
                        refine wp_region_noPanic ?_
                        refine wp_region_any (by kernel_rfl) ?_
                        have hTS : w7.drew.cell? ⟨c.pb, 0, none⟩ = some (.pointer (some ⟨c.a.pw, 0, none⟩)) ∧ w7.drew.cell? ⟨c.a.pw, 0, none⟩ = some (.pointer (some ⟨c.a.p, 0, none⟩)) ∧ w7.drew.cell? ⟨c.a.pw, 1, none⟩ = some (.pointer (some ⟨c.a.pc, 0, none⟩)) ∧ w7.drew.cell? ⟨tb, tq + m, none⟩ = some (.int .i64 v) := ⟨b0c, c0, c1, tc⟩
                        refine any_of_G (T := fun w' => w'.cell? ⟨c.pb, 0, none⟩ = some (.pointer (some ⟨c.a.pw, 0, none⟩)) ∧ w'.cell? ⟨c.a.pw, 0, none⟩ = some (.pointer (some ⟨c.a.p, 0, none⟩)) ∧ w'.cell? ⟨c.a.pw, 1, none⟩ = some (.pointer (some ⟨c.a.pc, 0, none⟩)) ∧ w'.cell? ⟨tb, tq + m, none⟩ = some (.int .i64 v)) (S := fun _ => True) (St := []) _ _ _ _ ?_
                        refine G_takeA (i := 0) (v := ?_) rfl (by kernel_rfl) (by kernel_rfl) (by kernel_rfl) (by kernel_rfl) (fun _ _ _ h => h) (Or.inl ⟨by rfl, ?_⟩) hTS (Or.inr trivial) ?_
                        rotate_left
                        · intro w hS
                          go_simp
                          try rfl
                        try simp only [Act.put, List.getElem_toArray, List.getElem_cons_zero, List.setIfInBounds_toArray, List.set_cons_zero, List.set_cons_succ]
                        refine G_takeA (i := 1) (v := ?_) rfl (by kernel_rfl) (by kernel_rfl) (by kernel_rfl) (by kernel_rfl) (fun _ _ _ h => h) (Or.inl ⟨by rfl, ?_⟩) hTS (Or.inr trivial) ?_
                        rotate_left
                        · intro w hS
                          go_simp
                          try rfl
                        try simp only [Act.put, List.getElem_toArray, List.getElem_cons_succ, List.getElem_cons_zero, List.setIfInBounds_toArray, List.set_cons_zero, List.set_cons_succ]
                        refine G_takeA (i := 2) (v := ?_) rfl (by kernel_rfl) (by kernel_rfl) (by kernel_rfl) (by kernel_rfl) (fun _ _ _ h => h) (Or.inl ⟨by rfl, ?_⟩) hTS (Or.inr trivial) ?_
                        rotate_left
                        · intro w hS
                          go_simp
                          try rfl
                        try simp only [Act.put, List.getElem_toArray, List.getElem_cons_succ, List.getElem_cons_zero, List.setIfInBounds_toArray, List.set_cons_zero, List.set_cons_succ]
                        refine G_takeA (i := 3) (v := ?_) rfl (by kernel_rfl) (by kernel_rfl) (by kernel_rfl) (by kernel_rfl) (fun _ _ _ h => h) (Or.inl ⟨by rfl, ?_⟩) hTS (Or.inr trivial) ?_
                        rotate_left
                        · intro w hS
                          go_simp
                          try rfl
                        try simp only [Act.put, List.getElem_toArray, List.getElem_cons_succ, List.getElem_cons_zero, List.setIfInBounds_toArray, List.set_cons_zero, List.set_cons_succ]
                        refine G_takeA (i := 4) (v := ?_) rfl (by kernel_rfl) (by kernel_rfl) (by kernel_rfl) (by kernel_rfl) (fun _ _ _ h => h) (Or.inl ⟨by rfl, ?_⟩) hTS (Or.inr trivial) ?_
                        rotate_left
                        · intro w hS
                          go_simp
                          try rfl
                        try simp only [Act.put, List.getElem_toArray, List.getElem_cons_succ, List.getElem_cons_zero, List.setIfInBounds_toArray, List.set_cons_zero, List.set_cons_succ]
                        refine G_takeA (i := 5) (v := ?_) rfl (by kernel_rfl) (by kernel_rfl) (by kernel_rfl) (by kernel_rfl) (fun _ _ _ h => h) (Or.inl ⟨by rfl, ?_⟩) hTS (Or.inr trivial) ?_
                        rotate_left
                        · intro w hS
                          have hS1 := hS.1
                          have hS2 := hS.2.1
                          have hS3 := hS.2.2.1
                          have hS4 := hS.2.2.2
                          go_simp
                          try rfl
                        try simp only [Act.put, List.getElem_toArray, List.getElem_cons_succ, List.getElem_cons_zero, List.setIfInBounds_toArray, List.set_cons_zero, List.set_cons_succ]
                        refine G_takeA (i := 6) (v := ?_) rfl (by kernel_rfl) (by kernel_rfl) (by kernel_rfl) (by kernel_rfl) (fun _ _ _ h => h) (Or.inl ⟨by rfl, ?_⟩) hTS (Or.inr trivial) ?_
                        rotate_left
                        · intro w hS
                          go_simp
                          try rfl
                        try simp only [Act.put, List.getElem_toArray, List.getElem_cons_succ, List.getElem_cons_zero, List.setIfInBounds_toArray, List.set_cons_zero, List.set_cons_succ]
                        refine G_takeA (i := 7) (v := ?_) rfl (by kernel_rfl) (by kernel_rfl) (by kernel_rfl) (by kernel_rfl) (fun _ _ _ h => h) (Or.inl ⟨by rfl, ?_⟩) hTS (Or.inr trivial) ?_
                        rotate_left
                        · intro w hS
                          go_simp
                          try rfl
                        try simp only [Act.put, List.getElem_toArray, List.getElem_cons_succ, List.getElem_cons_zero, List.setIfInBounds_toArray, List.set_cons_zero, List.set_cons_succ]
                        refine G_takeA (i := 8) (v := ?_) rfl (by kernel_rfl) (by kernel_rfl) (by kernel_rfl) (by kernel_rfl) (fun _ _ _ h => h) (Or.inl ⟨by rfl, ?_⟩) hTS (Or.inr trivial) ?_
                        rotate_left
                        · intro w hS
                          have hS1 := hS.1
                          have hS2 := hS.2.1
                          have hS3 := hS.2.2.1
                          have hS4 := hS.2.2.2
                          go_simp
                          try rfl
                        try simp only [Act.put, List.getElem_toArray, List.getElem_cons_succ, List.getElem_cons_zero, List.setIfInBounds_toArray, List.set_cons_zero, List.set_cons_succ]
                        refine G_takeA (i := 9) (v := ?_) rfl (by kernel_rfl) (by kernel_rfl) (by kernel_rfl) (by kernel_rfl) (fun _ _ _ h => h) (Or.inl ⟨by rfl, ?_⟩) hTS (Or.inr trivial) ?_
                        rotate_left
                        · intro w hS
                          go_simp
                          try rfl
                        try simp only [Act.put, List.getElem_toArray, List.getElem_cons_succ, List.getElem_cons_zero, List.setIfInBounds_toArray, List.set_cons_zero, List.set_cons_succ]
                        refine G_one (i := 10) (by kernel_rfl) ?_
                        refine wpOp_of_wpG rfl (by rfl) ?_
                        simp only [List.getElem_toArray, List.getElem_cons_succ, List.getElem_cons_zero]
                        go_simp
                        refine PY.mono ?_
                        clear PY
                        rintro e w8 ⟨rfl, hb8⟩
                        have HM8 : Hid (Below w4.heap.size w4 w8) := HM7.out.trans (((Below.refl _ w7).drew.trans (hb8.mono (Nat.le_refl _))).mono HM7.out.size)
                        obtain ⟨_, _, q0, q1, qb⟩ := bo_blk ((boO c).below HJ4.out HM8.out)
                        have qt := HT.out w8 HM8.out
                        clear hb8
                        dsimp only
                        refine ⟨⟨qb, q0, q1, qt⟩, ?_⟩
                        try simp only [Act.put, List.getElem_toArray, List.getElem_cons_succ, List.getElem_cons_zero, List.setIfInBounds_toArray, List.set_cons_zero, List.set_cons_succ]
                        refine G_takeA (i := 11) (v := ?_) rfl (by kernel_rfl) (by kernel_rfl) (by kernel_rfl) (by kernel_rfl) (fun _ _ _ h => h) (Or.inl ⟨by rfl, ?_⟩) ⟨qb, q0, q1, qt⟩ (Or.inr trivial) ?_
                        rotate_left
                        · intro w hS
                          go_simp
                          try rfl
                        try simp only [Act.put, List.getElem_toArray, List.getElem_cons_succ, List.getElem_cons_zero, List.setIfInBounds_toArray, List.set_cons_zero, List.set_cons_succ]
                        refine G_takeA (i := 12) (v := ?_) rfl (by kernel_rfl) (by kernel_rfl) (by kernel_rfl) (by kernel_rfl) (fun _ _ _ h => h) (Or.inl ⟨by rfl, ?_⟩) ⟨qb, q0, q1, qt⟩ (Or.inr trivial) ?_
                        rotate_left
                        · intro w hS
                          go_simp
                          try rfl
                        try simp only [Act.put, List.getElem_toArray, List.getElem_cons_succ, List.getElem_cons_zero, List.setIfInBounds_toArray, List.set_cons_zero, List.set_cons_succ]
                        refine G_takeA (i := 13) (v := ?_) rfl (by kernel_rfl) (by kernel_rfl) (by kernel_rfl) (by kernel_rfl) (fun _ _ _ h => h) (Or.inl ⟨by rfl, ?_⟩) ⟨qb, q0, q1, qt⟩ (Or.inr trivial) ?_
                        rotate_left
                        · intro w hS
                          go_simp
                          try rfl
                        try simp only [Act.put, List.getElem_toArray, List.getElem_cons_succ, List.getElem_cons_zero, List.setIfInBounds_toArray, List.set_cons_zero, List.set_cons_succ]
                        refine G_takeA (i := 14) (v := ?_) rfl (by kernel_rfl) (by kernel_rfl) (by kernel_rfl) (by kernel_rfl) (fun _ _ _ h => h) (Or.inl ⟨by rfl, ?_⟩) ⟨qb, q0, q1, qt⟩ (Or.inr trivial) ?_
                        rotate_left
                        · intro w hS
                          go_simp
                          try rfl
                        try simp only [Act.put, List.getElem_toArray, List.getElem_cons_succ, List.getElem_cons_zero, List.setIfInBounds_toArray, List.set_cons_zero, List.set_cons_succ]
                        refine G_takeA (i := 15) (v := ?_) rfl (by kernel_rfl) (by kernel_rfl) (by kernel_rfl) (by kernel_rfl) (fun _ _ _ h => h) (Or.inl ⟨by rfl, ?_⟩) ⟨qb, q0, q1, qt⟩ (Or.inr trivial) ?_
                        rotate_left
                        · intro w hS
                          go_simp
                          try rfl
                        try simp only [Act.put, List.getElem_toArray, List.getElem_cons_succ, List.getElem_cons_zero, List.setIfInBounds_toArray, List.set_cons_zero, List.set_cons_succ]
                        refine G_takeA (i := 16) (v := ?_) rfl (by kernel_rfl) (by kernel_rfl) (by kernel_rfl) (by kernel_rfl) (fun _ _ _ h => h) (Or.inl ⟨by rfl, ?_⟩) ⟨qb, q0, q1, qt⟩ (Or.inr trivial) ?_
                        rotate_left
                        · intro w hS
                          have hS1 := hS.1
                          have hS2 := hS.2.1
                          have hS3 := hS.2.2.1
                          have hS4 := hS.2.2.2
                          go_simp
                          try rfl
                        try simp only [Act.put, List.getElem_toArray, List.getElem_cons_succ, List.getElem_cons_zero, List.setIfInBounds_toArray, List.set_cons_zero, List.set_cons_succ]
                        refine G_takeA (i := 17) (v := ?_) rfl (by kernel_rfl) (by kernel_rfl) (by kernel_rfl) (by kernel_rfl) (fun _ _ _ h => h) (Or.inl ⟨by rfl, ?_⟩) ⟨qb, q0, q1, qt⟩ (Or.inr trivial) ?_
                        rotate_left
                        · intro w hS
                          go_simp
                          try rfl
                        try simp only [Act.put, List.getElem_toArray, List.getElem_cons_succ, List.getElem_cons_zero, List.setIfInBounds_toArray, List.set_cons_zero, List.set_cons_succ]
                        refine G_takeA (i := 18) (v := ?_) rfl (by kernel_rfl) (by kernel_rfl) (by kernel_rfl) (by kernel_rfl) (fun _ _ _ h => h) (Or.inl ⟨by rfl, ?_⟩) ⟨qb, q0, q1, qt⟩ (Or.inr trivial) ?_
                        rotate_left
                        · intro w hS
                          go_simp
                          try rfl
                        try simp only [Act.put, List.getElem_toArray, List.getElem_cons_succ, List.getElem_cons_zero, List.setIfInBounds_toArray, List.set_cons_zero, List.set_cons_succ]
                        refine G_takeA (i := 19) (v := ?_) rfl (by kernel_rfl) (by kernel_rfl) (by kernel_rfl) (by kernel_rfl) (fun _ _ _ h => h) (Or.inl ⟨by rfl, ?_⟩) ⟨qb, q0, q1, qt⟩ (Or.inr trivial) ?_
                        rotate_left
                        · intro w hS
                          have hS1 := hS.1
                          have hS2 := hS.2.1
                          have hS3 := hS.2.2.1
                          have hS4 := hS.2.2.2
                          go_simp
                          try rfl
                        try simp only [Act.put, List.getElem_toArray, List.getElem_cons_succ, List.getElem_cons_zero, List.setIfInBounds_toArray, List.set_cons_zero, List.set_cons_succ]
                        refine G_takeA (i := 20) (v := ?_) rfl (by kernel_rfl) (by kernel_rfl) (by kernel_rfl) (by kernel_rfl) (fun _ _ _ h => h) (Or.inl ⟨by rfl, ?_⟩) ⟨qb, q0, q1, qt⟩ (Or.inr trivial) ?_
                        rotate_left
                        · intro w hS
                          go_simp
                          try rfl
                        try simp only [Act.put, List.getElem_toArray, List.getElem_cons_succ, List.getElem_cons_zero, List.setIfInBounds_toArray, List.set_cons_zero, List.set_cons_succ]
                        refine G_takeA (i := 21) (v := ?_) rfl (by kernel_rfl) (by kernel_rfl) (by kernel_rfl) (by kernel_rfl) (fun _ _ _ h => h) (Or.inl ⟨by rfl, ?_⟩) ⟨qb, q0, q1, qt⟩ (Or.inr trivial) ?_
                        rotate_left
                        · intro w hS
                          go_simp
                          try rfl
                        try simp only [Act.put, List.getElem_toArray, List.getElem_cons_succ, List.getElem_cons_zero, List.setIfInBounds_toArray, List.set_cons_zero, List.set_cons_succ]
                        refine G_takeA (i := 22) (v := ?_) rfl (by kernel_rfl) (by kernel_rfl) (by kernel_rfl) (by kernel_rfl) (fun _ _ _ h => h) (Or.inl ⟨by rfl, ?_⟩) ⟨qb, q0, q1, qt⟩ (Or.inr trivial) ?_
                        rotate_left
                        · intro w hS
                          go_simp
                          try rfl
                        try simp only [Act.put, List.getElem_toArray, List.getElem_cons_succ, List.getElem_cons_zero, List.setIfInBounds_toArray, List.set_cons_zero, List.set_cons_succ]
                        refine G_takeA (i := 23) (v := ?_) rfl (by kernel_rfl) (by kernel_rfl) (by kernel_rfl) (by kernel_rfl) (fun _ _ _ h => h) (Or.inl ⟨by rfl, ?_⟩) ⟨qb, q0, q1, qt⟩ (Or.inr trivial) ?_
                        rotate_left
                        · intro w hS
                          have hS1 := hS.1
                          have hS2 := hS.2.1
                          have hS3 := hS.2.2.1
                          have hS4 := hS.2.2.2
                          go_simp
                          try rfl
                        try simp only [Act.put, List.getElem_toArray, List.getElem_cons_succ, List.getElem_cons_zero, List.setIfInBounds_toArray, List.set_cons_zero, List.set_cons_succ]
                        refine G_one (i := 24) (by kernel_rfl) ?_
                        refine wpOp_of_wpG rfl (by rfl) ?_
                        simp only [List.getElem_toArray, List.getElem_cons_succ, List.getElem_cons_zero]
                        go_simp
                        refine (HPD.out w8 HM8.out).mono ?_
                        rintro e w9 ⟨rfl, hb9⟩
                        have HM9 : Hid (Below w4.heap.size w4 w9) := HM8.out.trans (hb9.mono HM8.out.size)
                        clear q0 q1 qb qt
                        obtain ⟨_, _, q0, q1, qb⟩ := bo_blk ((boO c).below HJ4.out HM9.out)
                        have qt := HT.out w9 HM9.out
                        clear hb9
                        dsimp only
                        refine ⟨⟨qb, q0, q1, qt⟩, ?_⟩
                        try simp only [Act.put, List.getElem_toArray, List.getElem_cons_succ, List.getElem_cons_zero, List.setIfInBounds_toArray, List.set_cons_zero, List.set_cons_succ]
                        refine G_takeA (i := 25) (v := ?_) rfl (by kernel_rfl) (by kernel_rfl) (by kernel_rfl) (by kernel_rfl) (fun _ _ _ h => h) (Or.inl ⟨by rfl, ?_⟩) ⟨qb, q0, q1, qt⟩ (Or.inr trivial) ?_
                        rotate_left
                        · intro w hS
                          go_simp
                          try rfl
                        try simp only [Act.put, List.getElem_toArray, List.getElem_cons_succ, List.getElem_cons_zero, List.setIfInBounds_toArray, List.set_cons_zero, List.set_cons_succ]
                        refine G_takeA (i := 26) (v := ?_) rfl (by kernel_rfl) (by kernel_rfl) (by kernel_rfl) (by kernel_rfl) (fun _ _ _ h => h) (Or.inl ⟨by rfl, ?_⟩) ⟨qb, q0, q1, qt⟩ (Or.inr trivial) ?_
                        rotate_left
                        · intro w hS
                          go_simp
                          try rfl
                        try simp only [Act.put, List.getElem_toArray, List.getElem_cons_succ, List.getElem_cons_zero, List.setIfInBounds_toArray, List.set_cons_zero, List.set_cons_succ]
                        refine G_done (by kernel_rfl) ?_ _
                        refine NoPanic.normal ?_
                        clear hTS c0 c1 b0c tc q0 q1 qb qt
                        go_wp2_with fail
                        go_roundw
                        case rel => exact ⟨i + 1, by omega, by go_num, HM9⟩
                        case measure => simp [intOf]; omega
                  · obtain rfl : i = f := by omega
                    go_wp2_with fail
                    go_roundw
                    case rel => exact ⟨m + 1, by omega, by go_num, HI⟩
                    case measure => simp [intOf]; omega
              · obtain rfl : m = G.length := by omega
                have HJ5 : Hid ((boO c).J F3 S3 wr ∧ Bok c S3 (j + 1) ∧ ∀ b, F3 b → w1.heap.size ≤ b) := ⟨(boO c).below HJ4.out HM.out, HK.out.2.2, HG3.out⟩
                have HB5 : Hid (Below w1.heap.size w1 wr) := HB4.out.trans (HM.out.mono HB4.out.size)
                go_wp2_with fail
                go_roundw
                case rel => exact ⟨j + 1, S3, F3, by omega, by go_num, HJ5, HB5⟩
                case measure => simp [intOf]; omega
        · obtain rfl : j = l.length := by omega
          have hfin : Below w.heap.size w wr := hb1.trans (HB.out.mono hb1.size)
          go_wp2_with fail
          go_ret
          exact ⟨rfl, hfin⟩

end Go.Proofs.YtakofbkmhmcnfabGreat.MCl
