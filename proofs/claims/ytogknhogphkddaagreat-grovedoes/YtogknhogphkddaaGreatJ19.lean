/- Joined: Gv4, Gx4. -/
import Derived.Test.YtogknhogphkddaaGreatJ18
/- A grove in memory: length, same, set: contracts. -/
namespace Go.Proofs.YtogknhogphkddaaGreat
open Go.RowKit W Kp Stl

theorem field_th (k : Int) (ad : Option Addr) (n c : Nat) (w : World) : (Instr.field 76 (.agg #[.int .i64 k, .slice ad n c]) 1).run Tryz.prog w = .ok (.slice ad n c) w := by kernel_rfl
theorem alloc_trd (w : World) (a b o : Obj) : (((w.alloc a).alloc b).alloc o).heap[w.heap.size + 1 + 1]? = some o := by
  have h := heap_alloc_new ((w.alloc a).alloc b) o
  rwa [show ((w.alloc a).alloc b).heap.size = w.heap.size + 1 + 1 by simp] at h

section
variable {gp : Nat} {most grow : Int} {l : Gl} {F : Nat → Prop} {s : Wrs} {w : World}

set_option maxRecDepth 100000 in
set_option maxHeartbeats 2000000 in
theorem lengthG_no (h : Gvy gp most grow l s w) (v : Int × Int) (hv : v.1 = 3 → 0 ≤ v.2 ∧ Alv s.T v.2.toNat) (hT : s.T.length ≤ 10000) (hk : v.1 = 3 → (s.T.getD v.2.toNat t0).1 = 5) :
    Calls Tryz.prog 49 #[.pointer (some ⟨gp, 0, none⟩), .agg #[.int .i64 v.1, .int .i64 v.2]] w fun e w' => e = .returned (.tuple #[.agg #[.int .i64 0, .int .i64 0], .int .i64 2]) ∧ Below w.heap.size w w' := by
  obtain ⟨k, x⟩ := v
  have b1 : Below w.heap.size w ((w.alloc (.cells #[.int .i64 k, .int .i64 x] 54)).alloc (.cells #[.int .i64 0, .int .i64 0] 54)) := ((Below.refl _ _).alloc (Nat.le_refl _) _).alloc (by simp) _
  have P := fieldsG_no (h.below b1) (k, x) hv hT hk
  clear h hv hT hk
  go_enter Tryz.func49, Tryz.ntmps49
  go_wp2_with fail
  refine P.mono ?_
  clear P
  rintro e w1 ⟨rfl, hb⟩
  have hq := (hb.block (w.heap.size + 1) (by simp)).trans (alloc_snd w (.cells #[.int .i64 k, .int .i64 x] 54) (.cells #[.int .i64 0, .int .i64 0] 54))
  obtain ⟨e0, e1, f0, lw⟩ := two_cells hq
  have HN : Hid (_ = _) := hq
  have HB : Hid (Below w.heap.size w w1) := b1.trans (hb.mono (by simp; omega))
  clear hb b1 hq
  go_wp2_with fail
  obtain ⟨r0, r1, _, _⟩ := two_cells (set_two (v1 := .int .i64 0) (v2 := .int .i64 0) HN.out)
  exact bodyPost_ret (v := .tuple #[.agg #[.int .i64 0, .int .i64 0], .int .i64 2]) (by simp [results, Tryz.results49, go_sem, r0, r1]) rfl ⟨rfl, (HB.out.setCell (by simp) _).setCell (by simp) _⟩

set_option maxRecDepth 100000 in
set_option maxHeartbeats 2000000 in
theorem lengthG_yes (h : Gvy gp most grow l s w) (x : Int) (hv : 0 ≤ x ∧ Alv s.T x.toNat) (hT : s.T.length ≤ 10000) (hk : (s.T.getD x.toNat t0).1 ≠ 5) :
    Calls Tryz.prog 49 #[.pointer (some ⟨gp, 0, none⟩), .agg #[.int .i64 3, .int .i64 x]] w fun e w' => e = .returned (.tuple #[.agg #[.int .i64 1, .int .i64 (s.T.getD x.toNat t0).2.1.length], .int .i64 0]) ∧ Below w.heap.size w w' := by
  have b1 : Below w.heap.size w ((w.alloc (.cells #[.int .i64 3, .int .i64 x] 54)).alloc (.cells #[.int .i64 0, .int .i64 0] 54)) := ((Below.refl _ _).alloc (Nat.le_refl _) _).alloc (by simp) _
  have P := fieldsG_yes (h.below b1) x hv hT hk
  clear h hv hT hk
  dsimp only [fsV] at P
  generalize (s.T.getD x.toNat t0).2.1.length = n at *
  generalize (l.fm x.toNat).1 = ad at *
  generalize (l.fm x.toNat).2 = cp at *
  go_enter Tryz.func49, Tryz.ntmps49
  go_wp2_with fail
  refine P.mono ?_
  clear P
  rintro e w1 ⟨rfl, hb⟩
  have hq := (hb.block (w.heap.size + 1) (by simp)).trans (alloc_snd w (.cells #[.int .i64 3, .int .i64 x] 54) (.cells #[.int .i64 0, .int .i64 0] 54))
  have HB : Hid (Below w.heap.size w w1) := b1.trans (hb.mono (by simp; omega))
  have Q := intValue_any n w1
  clear hb b1
  go_wp2_with fail
  refine Q.mono ?_
  clear Q
  rintro e w2 ⟨rfl, hb2⟩
  have hq := (hb2.block _ (lt_of_some hq)).trans hq
  obtain ⟨e0, e1, f0, lw⟩ := two_cells hq
  have HN : Hid (_ = _) := hq
  have HB : Hid (Below w.heap.size w w2) := HB.out.trans (hb2.mono HB.out.size)
  clear hb2 hq
  go_wp2_with fail
  obtain ⟨r0, r1, _, _⟩ := two_cells (set_two (v1 := .int .i64 1) (v2 := .int .i64 n) HN.out)
  exact bodyPost_ret (v := .tuple #[.agg #[.int .i64 1, .int .i64 n], .int .i64 0]) (by simp [results, Tryz.results49, go_sem, r0, r1]) rfl ⟨rfl, (HB.out.setCell (by simp) _).setCell (by simp) _⟩

set_option maxRecDepth 100000 in
set_option maxHeartbeats 2000000 in
theorem sameG_any (x y : Int × Int) (w : World) :
    Calls Tryz.prog 50 #[.agg #[.int .i64 x.1, .int .i64 x.2], .agg #[.int .i64 y.1, .int .i64 y.2]] w fun e w' => e = .returned (.agg #[.int .i64 1, .int .i64 (if x = y then 1 else 0)]) ∧ Below w.heap.size w w' := by
  obtain ⟨x0, x1⟩ := x
  obtain ⟨y0, y1⟩ := y
  have b1 : Below w.heap.size w (((w.alloc (.cells #[.int .i64 x0, .int .i64 x1] 54)).alloc (.cells #[.int .i64 y0, .int .i64 y1] 54)).alloc (.cells #[.int .i64 0, .int .i64 0] 54)) := (((Below.refl _ _).alloc (Nat.le_refl _) _).alloc (by simp) _).alloc (by simp; omega) _
  by_cases h0 : x0 = y0 ∧ x1 = y1
  · obtain ⟨h0, h1⟩ := h0
    subst h0 h1
    rw [if_pos rfl]
    go_enter Tryz.func50, Tryz.ntmps50
    go_wp2_with fail
    refine (intValue_any _ _).mono ?_
    rintro e w2 ⟨rfl, hb2⟩
    have hq := (hb2.block (w.heap.size + 1 + 1) (by simp)).trans (alloc_trd w _ _ _)
    obtain ⟨e0, e1, f0, lw⟩ := two_cells hq
    have HN : Hid (_ = _) := hq
    have HB : Hid (Below w.heap.size w w2) := b1.trans (hb2.mono b1.size)
    clear hb2 hq b1
    go_wp2_with fail
    obtain ⟨r0, r1, _, _⟩ := two_cells (set_two (v1 := .int .i64 1) (v2 := .int .i64 1) HN.out)
    exact bodyPost_ret (v := .agg #[.int .i64 1, .int .i64 1]) (by simp [results, Tryz.results50, go_sem, r0, r1]) rfl ⟨rfl, (HB.out.setCell (by simp; omega) _).setCell (by simp; omega) _⟩
  · rw [if_neg (fun c => h0 (by cases c; exact ⟨rfl, rfl⟩))]
    by_cases h1 : x0 = y0
    · subst h1
      have h2 : ¬ x1 = y1 := fun c => h0 ⟨rfl, c⟩
      clear h0
      go_enter Tryz.func50, Tryz.ntmps50
      go_wp2_with fail
      refine (intValue_any _ _).mono ?_
      rintro e w2 ⟨rfl, hb2⟩
      have hq := (hb2.block (w.heap.size + 1 + 1) (by simp)).trans (alloc_trd w _ _ _)
      obtain ⟨e0, e1, f0, lw⟩ := two_cells hq
      have HN : Hid (_ = _) := hq
      have HB : Hid (Below w.heap.size w w2) := b1.trans (hb2.mono b1.size)
      clear hb2 hq b1
      go_wp2_with fail
      obtain ⟨r0, r1, _, _⟩ := two_cells (set_two (v1 := .int .i64 1) (v2 := .int .i64 0) HN.out)
      exact bodyPost_ret (v := .agg #[.int .i64 1, .int .i64 0]) (by simp [results, Tryz.results50, go_sem, r0, r1]) rfl ⟨rfl, (HB.out.setCell (by simp; omega) _).setCell (by simp; omega) _⟩
    · clear h0
      go_enter Tryz.func50, Tryz.ntmps50
      go_wp2_with fail
      refine (intValue_any _ _).mono ?_
      rintro e w2 ⟨rfl, hb2⟩
      have hq := (hb2.block (w.heap.size + 1 + 1) (by simp)).trans (alloc_trd w _ _ _)
      obtain ⟨e0, e1, f0, lw⟩ := two_cells hq
      have HN : Hid (_ = _) := hq
      have HB : Hid (Below w.heap.size w w2) := b1.trans (hb2.mono b1.size)
      clear hb2 hq b1
      go_wp2_with fail
      obtain ⟨r0, r1, _, _⟩ := two_cells (set_two (v1 := .int .i64 1) (v2 := .int .i64 0) HN.out)
      exact bodyPost_ret (v := .agg #[.int .i64 1, .int .i64 0]) (by simp [results, Tryz.results50, go_sem, r0, r1]) rfl ⟨rfl, (HB.out.setCell (by simp; omega) _).setCell (by simp; omega) _⟩

set_option maxRecDepth 100000 in
set_option maxHeartbeats 4000000 in
theorem setG_yes (h : Gvy gp most grow l s w) (x : Int) (i : Nat) (y : Int × Int) (hv : 0 ≤ x ∧ Alv s.T x.toNat) (hT : s.T.length ≤ 10000) (hk : (s.T.getD x.toNat t0).1 ≠ 5) (hi : i < (s.T.getD x.toNat t0).2.1.length) (hi2 : i < 12) :
    Calls Tryz.prog 20 #[.pointer (some ⟨gp, 0, none⟩), .agg #[.int .i64 3, .int .i64 x], .int .i64 i, .agg #[.int .i64 y.1, .int .i64 y.2]] w fun e w' => e = .returned (.int .i64 0) ∧ Gvy gp most grow l { s with T := stf s.T x.toNat i y } w' ∧ Fr (fun b => l.own b ≠ 0) w w' := by
  obtain ⟨y0, y1⟩ := y
  have b1 : Below w.heap.size w ((w.alloc (.cells #[.int .i64 3, .int .i64 x] 54)).alloc (.cells #[.int .i64 y0, .int .i64 y1] 54)) := ((Below.refl _ _).alloc (Nat.le_refl _) _).alloc (by simp) _
  have P := getG_yes (h.below b1) x i hv hT hk hi
  obtain ⟨b, cp, ef, g0, g1, gf, lb, ob, HU⟩ := h.field hv.2 hi (y0, y1)
  obtain ⟨_, _, c2, _, _, _, _, _, lg⟩ := h.cells
  have hl : x < 10000 := by have := hv.2.1; omega
  have L : ∀ W, Below w.heap.size w W → (Instr.lookup 47 (.map (some l.mb)) (.int .i64 x) false).run Tryz.prog W = .ok (thV s.T l.fm x.toNat) W := fun W hb => by
    have := (h.below hb).g2.mp.look (t := 47) (e := 76) Tryz.underlying47 (zeroTh W) (x := x) hv.1 (by omega)
    rw [gvF_yes hv] at this
    exact this
  have x0 := hv.1
  dsimp only [thV] at L
  rw [ef] at L
  have HU : Hid (∀ w' W : World, (∀ k, l.own k ≠ 0 → k ≠ b → w'.heap[k]? = w.heap[k]?) → w.heap.size ≤ w'.heap.size → W.heap[b]? = w.heap[b]? → w'.heap[b]? = ((W.setCell ⟨b, i * 2, none⟩ (.int .i64 y0)).setCell ⟨b, i * 2 + 1, none⟩ (.int .i64 y1)).heap[b]? → Gvy gp most grow l { s with T := stf s.T x.toNat i (y0, y1) } w') := HU
  have HO : Hid (l.own b = 10 + x.toNat) := ob
  have HL : Hid (∀ b, l.own b ≠ 0 → b < w.heap.size) := h.lt
  have m0 : b ≠ gp := fun c => by have := h.bo; rw [← c, ob] at this; omega
  have m1 : b ≠ w.heap.size := by omega
  have m2 : b ≠ w.heap.size + 1 := by omega
  clear h hv hT hk ef ob
  generalize (s.T.getD x.toNat t0).2.1.getD i (0, 0) = z at *
  generalize (s.T.getD x.toNat t0).2.1.length = n at *
  generalize (s.T.getD x.toNat t0).1 = kd at *
  go_enter Tryz.func20, Tryz.ntmps20
  go_wp2_with fail
  refine P.mono ?_
  clear P
  rintro e w1 ⟨rfl, hb⟩
  have HB : Hid (Below w.heap.size w w1) := b1.trans (hb.mono (by simp; omega))
  have h5 := (hb.block w.heap.size (by simp; omega)).trans ((Below.heap_alloc _ _ _ (by simp)).trans (heap_alloc_new w (.cells #[.int .i64 3, .int .i64 x] 54)))
  have h7 := (hb.block (w.heap.size + 1) (by simp)).trans (alloc_snd w (.cells #[.int .i64 3, .int .i64 x] 54) (.cells #[.int .i64 y0, .int .i64 y1] 54))
  have b2 := HB.out.alloc HB.out.size (.cells #[.int .i64 z.1, .int .i64 z.2] 54)
  have h5 := (Below.heap_alloc w1 (.cells #[.int .i64 z.1, .int .i64 z.2] 54) _ (lt_of_some h5)).trans h5
  have h7 := (Below.heap_alloc w1 (.cells #[.int .i64 z.1, .int .i64 z.2] 54) _ (lt_of_some h7)).trans h7
  clear hb b1 HB
  go_wp2_with fail
  generalize w1.alloc (.cells #[.int .i64 z.1, .int .i64 z.2] 54) = W at *
  obtain ⟨_, p1, _, _⟩ := two_cells h5
  obtain ⟨q0, q1, _, _⟩ := two_cells h7
  have d2 := (b2.cell (p := ⟨gp, 2, none⟩) lg).trans c2
  have k0 := (b2.cell (p := ⟨b, i * 2, none⟩) lb).trans g0
  have k1 := (b2.cell (p := ⟨b, i * 2 + 1, none⟩) lb).trans g1
  have kf : ∀ o, W.frozen? ⟨b, o, none⟩ = false := fun o => (b2.frozen (p := ⟨b, o, none⟩) lb).trans (gf o)
  have L1 := L _ b2.drew
  have hf := field_th kd (some ⟨b, 0, none⟩) n cp
  have n1 : (0 : Int) ≤ i := by omega
  have n2 : (i : Int) < n := by omega
  have HB : Hid (Below w.heap.size w W) := b2
  clear h5 h7 L g0 g1 gf c2 b2
  go_region_held3 (fun w' => w'.cell? ⟨gp, 2, none⟩ = some (.map (some l.mb)) ∧ w'.cell? ⟨w.heap.size, 1, none⟩ = some (.int .i64 x) ∧ w'.cell? ⟨w.heap.size + 1, 0, none⟩ = some (.int .i64 y0) ∧ w'.cell? ⟨w.heap.size + 1, 1, none⟩ = some (.int .i64 y1)) (go_keep) (fail)
  go_wp2_with fail
  go_ret
  have hs := HB.out.size
  have fr : Fr (fun k => k = b) W ((W.setCell ⟨b, i * 2, none⟩ (.int .i64 y0)).setCell ⟨b, i * 2 + 1, none⟩ (.int .i64 y1)).drew := (((Fr.refl (fun k => k = b) W).set b _ _ rfl).set b _ _ rfl).drew
  have fr2 : Fr (fun k => k = b) w ((W.setCell ⟨b, i * 2, none⟩ (.int .i64 y0)).setCell ⟨b, i * 2 + 1, none⟩ (.int .i64 y1)).drew := (Fr.of HB.out).trans fr (fun _ c => Or.inl c)
  exact ⟨rfl, HU.out _ W (fun k hk hn => fr2.block k (HL.out k hk) hn) fr2.size (HB.out.block b lb) rfl, fr2.mono (fun k e => by rw [e, HO.out]; omega)⟩

set_option maxRecDepth 100000 in
set_option maxHeartbeats 2000000 in
theorem setG_no (v y : Int × Int) (i c : Int) (hc : c ≠ 0)
    (P : ∀ w', Below w.heap.size w w' → Calls Tryz.prog 43 #[.pointer (some ⟨gp, 0, none⟩), .agg #[.int .i64 v.1, .int .i64 v.2], .int .i64 i] w' fun e w'' => e = .returned (.tuple #[.agg #[.int .i64 0, .int .i64 0], .int .i64 c]) ∧ Below w'.heap.size w' w'') :
    Calls Tryz.prog 20 #[.pointer (some ⟨gp, 0, none⟩), .agg #[.int .i64 v.1, .int .i64 v.2], .int .i64 i, .agg #[.int .i64 y.1, .int .i64 y.2]] w fun e w' => e = .returned (.int .i64 c) ∧ Below w.heap.size w w' := by
  obtain ⟨y0, y1⟩ := y
  obtain ⟨k, x⟩ := v
  have b1 : Below w.heap.size w ((w.alloc (.cells #[.int .i64 k, .int .i64 x] 54)).alloc (.cells #[.int .i64 y0, .int .i64 y1] 54)) := ((Below.refl _ _).alloc (Nat.le_refl _) _).alloc (by simp) _
  have P := P _ b1
  go_enter Tryz.func20, Tryz.ntmps20
  go_wp2_with fail
  refine P.mono ?_
  clear P
  rintro e w1 ⟨rfl, hb⟩
  have HB : Hid (Below w.heap.size w w1) := b1.trans (hb.mono b1.size)
  clear hb b1
  go_wp2_with fail
  go_ret
  exact ⟨rfl, HB.out.alloc HB.out.size _⟩
end

end Go.Proofs.YtogknhogphkddaaGreat

/- A grove's cut in memory: isAlive, isLost, mark: contracts. -/
namespace Go.Proofs.YtogknhogphkddaaGreat
open Go.RowKit W Kp Stl

theorem infoL : (Tryz.prog.info? 2).map (fun i => (i.zero, i.size, i.bytes)) = some (some (.int .i64 0), 1, 8) := by kernel_rfl

section
variable {c : Cp} {own : Nat → Nat} {vt : Value} {n1 n2 : Nat} {hm : Int → Option Addr × Nat} {st : Cst} {w : World}

set_option maxRecDepth 100000 in
set_option maxHeartbeats 2000000 in
theorem isAliveM {cp ab : Nat} {T : List Tw1} {fm : Fm} {A : List Bool} (c1 : w.cell? ⟨cp, 1, none⟩ = some (.map (some ab))) (hM : Mh w ab n1 (alF T fm A)) (x : Int) (h0 : 0 ≤ x) (h1 : x < 1152921504606846976) :
    Calls Tryz.prog 87 #[.pointer (some ⟨cp, 0, none⟩), .int .i64 x] w fun e w' => e = .returned (.bool (isd A x)) ∧ Below w.heap.size w w' := by
  have L := hM.look_ok (t := 47) (e := 76) Tryz.underlying47 (zeroTh w) (x := x) h0 h1
  rw [alF_some h0] at L
  have hv : ∃ k ad n cq, (alF T fm A x).getD (.agg #[.int .i64 0, .slice none 0 0]) = .agg #[.int .i64 k, .slice ad n cq] := by
    unfold alF
    split
    · exact ⟨_, _, _, _, rfl⟩
    · exact ⟨_, _, _, _, rfl⟩
  obtain ⟨k, ad, n, cc, ev⟩ := hv
  rw [ev] at L
  generalize isd A x = b at *
  clear hM ev
  go_enter Tryz.func87, Tryz.ntmps87
  go_wp2_with fail
  go_ret
  exact ⟨rfl, (Below.refl _ _).alloc (Nat.le_refl _) _⟩

set_option maxRecDepth 100000 in
set_option maxHeartbeats 2000000 in
theorem isLostM {cp ab : Nat} {T : List Tw1} {fm : Fm} {A : List Bool} (c1 : w.cell? ⟨cp, 1, none⟩ = some (.map (some ab))) (hM : Mh w ab n1 (alF T fm A)) (v : Int × Int) (hv : v.1 = 3 → 0 ≤ v.2 ∧ v.2 < 1152921504606846976) :
    Calls Tryz.prog 90 #[.pointer (some ⟨cp, 0, none⟩), .agg #[.int .i64 v.1, .int .i64 v.2]] w fun e w' => e = .returned (.bool (!inS A v)) ∧ Below w.heap.size w w' := by
  obtain ⟨k, x⟩ := v
  by_cases h3 : k = 3
  · subst h3
    have b1 := (Below.refl w.heap.size w).alloc (Nat.le_refl _) (.cells #[.int .i64 3, .int .i64 x] 54)
    have P := isAliveM ((b1.cell (p := ⟨cp, 1, none⟩) (World.block_lt_of_cell? w _ c1)).trans c1) (hM.same (b1.block ab hM.lt)) x (hv rfl).1 (hv rfl).2
    have e : inS A (3, x) = isd A x := by unfold inS isd; simp
    rw [e]
    generalize isd A x = b at *
    clear hM c1 hv e
    go_enter Tryz.func90, Tryz.ntmps90
    go_wp2_with fail
    refine P.mono ?_
    clear P
    rintro e w1 ⟨rfl, hb⟩
    have HB : Hid (Below w.heap.size w w1) := b1.trans (hb.mono b1.size)
    clear hb b1
    go_wp2_with fail
    go_ret
    exact ⟨rfl, HB.out⟩
  · have e : inS A (k, x) = true := by unfold inS; simp [h3]
    rw [e]
    clear hM c1 hv e
    go_enter Tryz.func90, Tryz.ntmps90
    go_wp2_with fail
    go_ret
    exact ⟨rfl, (Below.refl _ _).alloc (Nat.le_refl _) _⟩
theorem isAliveX_any (h : Cm c own vt n1 n2 hm st w) (x : Int) (h0 : 0 ≤ x) (h1 : x < 1152921504606846976) :
    Calls Tryz.prog 87 #[.pointer (some ⟨c.cp, 0, none⟩), .int .i64 x] w fun e w' => e = .returned (.bool (isd st.A x)) ∧ Below w.heap.size w w' := isAliveM h.cells.2.1 h.am x h0 h1
theorem isLostX_any (h : Cm c own vt n1 n2 hm st w) (v : Int × Int) (hv : v.1 = 3 → 0 ≤ v.2 ∧ v.2 < 1152921504606846976) :
    Calls Tryz.prog 90 #[.pointer (some ⟨c.cp, 0, none⟩), .agg #[.int .i64 v.1, .int .i64 v.2]] w fun e w' => e = .returned (.bool (!inS st.A v)) ∧ Below w.heap.size w w' := isLostM h.cells.2.1 h.am v hv

structure Rdl (own : Nat → Nat) (w : World) (ad : Option Addr) (l : List (Int × Int)) : Prop where
  lp : Lp w ad l
  no : 0 < l.length → ∀ z, ad = some z → ¬ (own z.block = 1 ∨ own z.block = 2 ∨ own z.block = 3)
theorem Rdl.tm {own own' : Nat → Nat} {w w' : World} {ad : Option Addr} {l : List (Int × Int)} (h : Rdl own w ad l) (t : Tm own w own' w') : Rdl own' w' ad l :=
  ⟨h.lp.keep t.fr.size (fun hp z e => t.fr.block _ (by obtain ⟨b, o, e', hb, _⟩ := h.lp hp; rw [e] at e'; cases e'; exact hb) (h.no hp z e)), fun hp z e => by
    rw [t.old _ (by obtain ⟨b, o, e', hb, _⟩ := h.lp hp; rw [e] at e'; cases e'; exact hb)]
    exact h.no hp z e⟩

set_option maxRecDepth 100000 in
set_option maxHeartbeats 4000000 in
theorem markX_any (hg : Gvy c.gp c.most c.grow c.l c.s c.w0) (hT : c.s.T.length ≤ 10000) (hlen : st.A.length = c.s.T.length) (h : Cm c own vt n1 n2 hm st w) (ad : Option Addr) (cap : Nat) (l : List (Int × Int)) (hl : Rdl own w ad l) (hv : ∀ v ∈ l, v.1 = 3 → 0 ≤ v.2 ∧ Alv c.s.T v.2.toNat) (hm1 : l.length ≤ 100000) :
    Calls Tryz.prog 83 #[.pointer (some ⟨c.cp, 0, none⟩), .slice ad l.length cap] w fun e w' => ∃ own' vt' n1', e = .returned (.tuple #[]) ∧ Cm c own' vt' n1' n2 hm (mks st l) w' ∧ Tm own w own' w' := by
  have HG : Hid (Gvy c.gp c.most c.grow c.l c.s c.w0) := hg
  have HV : Hid (∀ v ∈ l, v.1 = 3 → 0 ≤ v.2 ∧ Alv c.s.T v.2.toNat) := hv
  have HC : Hid (Cm c own vt n1 n2 hm st w ∧ Rdl own w ad l) := ⟨h, hl⟩
  have HT : Hid (c.s.T.length ≤ 10000 ∧ st.A.length = c.s.T.length) := ⟨hT, hlen⟩
  have lc := h.cells.2.2.2.2.2
  clear hg h hl hv hT hlen
  go_enter Tryz.func83, Tryz.ntmps83
  go_wp2_with fail
  go_loopw [8] (fun i wr => ∃ (j : Nat) (own' : Nat → Nat) (vt' : Value) (n1' : Nat), j ≤ l.length ∧ i = .int .i64 j ∧ Cm c own' vt' n1' n2 hm (mks st (l.take j)) wr ∧ Tm own w own' wr) (fun i _ => l.length - (intOf i).toNat)
  case atStart => exact ⟨0, own, vt, n1, Nat.zero_le _, rfl, HC.out.1, Tm.of (Below.refl _ _) (fun b hb => (HC.out.1.lt b hb).2)⟩
  case round =>
    obtain ⟨j, own', vt', n1', hj, rfl, g, t⟩ := hrel
    by_cases hlt : j < l.length
    · have etk : l.take (j + 1) = l.take j ++ [l.getD j (0, 0)] := by
        rw [List.take_add_one, List.getD_eq_getElem?_getD, List.getElem?_eq_getElem hlt]
        rfl
      have hvj := HV.out (l.getD j (0, 0)) (getD_in hlt)
      obtain ⟨hT, hlen⟩ := HT.out
      have hsl : (mks st (l.take j)).A.length = c.s.T.length := ((mks_hd st (l.take j)).2.2).trans hlen
      have HS : Hid (mks st (l.take (j + 1)) = mk1 (mks st (l.take j)) (l.getD j (0, 0))) := by
        show _ = _
        rw [etk, mks_snoc]
      generalize mks st (l.take j) = S at g HS hsl
      obtain ⟨bb, o, ead, lb, hcl⟩ := (HC.out.2.tm t).lp (by omega)
      have hc := hcl j hlt
      obtain ⟨z0, z1⟩ := hc
      generalize l.getD j (0, 0) = v at *
      obtain ⟨k, x⟩ := v
      dsimp only at z0 z1 hvj
      have b1 := (Below.refl wr.heap.size wr).alloc (Nat.le_refl _) (.cells #[.int .i64 k, .int .i64 x] 54)
      have P := isLostX_any (g.below b1) (k, x) (fun h3 => ⟨(hvj h3).1, by have := (hvj h3).2.1; omega⟩)
      have HX : Hid (wr.heap.size + 1 = wr.heap.size + 1) := rfl
      have n2_ : (j : Int) < l.length := by omega
      have n3 : IntKind.i64.wrap ((j : Int) + 1) = (j : Int) + 1 := by rw [IntKind.wrap_i64]; omega
      cases hi : inS S.A (k, x)
      · rw [hi] at P
        obtain ⟨h3, h4⟩ := inS_no hi
        dsimp only at h3 h4
        subst h3
        obtain ⟨x0, xa⟩ := hvj rfl
        have xl : x < 10000 := by have := xa.1; omega
        obtain ⟨ad3, cap3, ev3⟩ := row_slice g.tr
        subst ev3
        have tdl : S.td.length ≤ 10000 := by have := g.tn; omega
        have n1l : n1' < 100000 := by have := g.an; omega
        have np : ∀ b, own' b = 3 → b ≠ c.cp := fun b hb e => by rw [e, g.co] at hb; omega
        have HP : Hid (∀ w1, Below wr.heap.size wr w1 → w1.heap[wr.heap.size]? = some (.cells #[.int .i64 3, .int .i64 x] 54 (0, 0)) → ∃ kd fa fn fc w2, (w1.cell? ⟨c.cp, 0, none⟩ = some (.pointer (some ⟨c.gp, 0, none⟩)) ∧ w1.cell? ⟨c.cp, 1, none⟩ = some (.map (some c.ab)) ∧ w1.cell? ⟨c.gp, 2, none⟩ = some (.map (some c.l.mb))) ∧
            (Instr.lookup 47 (.map (some c.l.mb)) (.int .i64 x) false).run Tryz.prog w1.drew = .ok (.agg #[.int .i64 kd, .slice fa fn fc]) w1.drew ∧ (Instr.mapUpdate 47 (.map (some c.ab)) (.int .i64 x) (.agg #[.int .i64 kd, .slice fa fn fc])).run Tryz.prog w1.drew = .ok () w2 ∧
            (w2.cell? ⟨c.cp, 0, none⟩ = some (.pointer (some ⟨c.gp, 0, none⟩)) ∧ w2.cell? ⟨c.cp, 1, none⟩ = some (.map (some c.ab)) ∧ w2.cell? ⟨c.gp, 2, none⟩ = some (.map (some c.l.mb)) ∧ w2.cell? ⟨wr.heap.size, 1, none⟩ = some (.int .i64 x) ∧ w2.cell? ⟨c.cp, 2, none⟩ = some (.slice ad3 S.td.length cap3) ∧ (∀ o, w2.frozen? ⟨c.cp, o, none⟩ = false) ∧ c.cp < w2.heap.size) ∧
            Hid (w2.ownsRow 0 2 1 (.slice ad3 S.td.length cap3) S.td.length (S.td.map (Value.int .i64)) ∧ some c.cp ≠ (Value.slice ad3 S.td.length cap3).ownBlock ∧ ∀ w4 b4 cap4, (w2.alloc (.cells #[.int .i64 x] 2)).drew.grownBy w4 (Value.slice ad3 S.td.length cap3).ownBlock → w4.ownsRow 0 2 1 (.slice (some ⟨b4, 0, none⟩) (S.td.length + 1) cap4) (S.td.length + 1) ((S.td ++ [x]).map (Value.int .i64)) → (some b4 = (Value.slice ad3 S.td.length cap3).ownBlock ∨ w2.heap.size ≤ b4) →
              ∃ own2, Cm c own2 (.slice (some ⟨b4, 0, none⟩) (S.td.length + 1) cap4) (n1' + 1) n2 hm (mks st (l.take (j + 1))) (w4.setCell ⟨c.cp, 2, none⟩ (.slice (some ⟨b4, 0, none⟩) (S.td.length + 1) cap4)) ∧ Tm own w own2 (w4.setCell ⟨c.cp, 2, none⟩ (.slice (some ⟨b4, 0, none⟩) (S.td.length + 1) cap4)))) := fun w1 hb hbx => by
          have g1 := g.below hb
          have gv := g1.gv HG.out
          have gd := g.below hb.drew
          have L := (gd.gv HG.out).g2.mp.look (t := 47) (e := 76) Tryz.underlying47 (zeroTh _) (x := x) x0 (by omega)
          rw [gvF_yes ⟨x0, xa⟩] at L
          obtain ⟨w2, hrun, hM2, gr2⟩ := gd.am.put (t := 47) (e := 76) Tryz.underlying47 n1l x0 (by omega) (thV c.s.T c.l.fm x.toNat)
          obtain ⟨q0, q1, q2, _, qf, ql⟩ := g1.cells
          obtain ⟨_, _, p2, _, _, _, _, _, pl⟩ := gv.cells
          have kb : ∀ b, b < w1.heap.size → b ≠ c.ab → w2.heap[b]? = w1.heap[b]? := fun b hb hn => gr2.block b hb (fun e => hn (Option.some.inj e))
          have nca : c.cp ≠ c.ab := fun e => by have h1 := g1.co; rw [e, g1.ao] at h1; omega
          have nga : c.gp ≠ c.ab := fun e => by have h1 := HG.out.cells.2.2.2.2.2.2.2.2; have h2 := (g1.lt c.ab (by rw [g1.ao]; decide)).1; omega
          have nba : wr.heap.size ≠ c.ab := fun e => by have h2 := (g.lt c.ab (by rw [g.ao]; decide)).2; omega
          have hcp2 := kb c.cp ql nca
          refine ⟨_, _, _, _, w2, ⟨q0, q1, p2⟩, L, hrun, ⟨(World.cell?_of_block (a := ⟨c.cp, 0, none⟩) hcp2).trans q0, (World.cell?_of_block (a := ⟨c.cp, 1, none⟩) hcp2).trans q1, (World.cell?_of_block (a := ⟨c.gp, 2, none⟩) (kb c.gp pl nga)).trans p2, (World.cell?_of_block (a := ⟨wr.heap.size, 1, none⟩) (kb wr.heap.size (lt_of_some hbx) nba)).trans (by simp [World.cell?, hbx]), (World.cell?_of_block (a := ⟨c.cp, 2, none⟩) hcp2).trans q2, fun o => (World.frozen?_of_block (a := ⟨c.cp, o, none⟩) hcp2).trans (qf o), Nat.lt_of_lt_of_le ql gr2.size⟩, ?_⟩
          have hrow2 : w2.ownsRow 0 2 1 (.slice ad3 S.td.length cap3) S.td.length (S.td.map (Value.int .i64)) := row_keep g1.tr (fun k e => kb k (row_lt g1.tr k e).2 (fun cc => by have h1 := g1.tw k e; rw [cc, g1.ao] at h1; omega))
          refine ⟨hrow2, fun e => np c.cp (g1.tw c.cp e) rfl, fun w4 b4 cap4 hg4 hr4 hb4 => ?_⟩
          have fr12 : Fr (fun b => own' b = 1 ∨ own' b = 2 ∨ own' b = 3) w1 w2 := ((Fr.refl _ w1).drew).grown gr2 (fun k e => Or.inl (by cases e; exact Or.inr (Or.inl g1.ao)))
          have fr24 : Fr (fun b => own' b = 1 ∨ own' b = 2 ∨ own' b = 3) w2 w4 := (((Fr.refl _ w2).alloc _).drew).grown hg4 (fun k e => Or.inl (Or.inr (Or.inr (g1.tw k e.symm))))
          have fr14 := (fr12.trans fr24 (fun _ d => Or.inl d)).set c.cp 2 (.slice (some ⟨b4, 0, none⟩) (S.td.length + 1) cap4) (Or.inl g1.co)
          have nb4 : b4 ≠ c.cp := by
            rcases hb4 with e | e
            · exact np b4 (g1.tw b4 e)
            · have := gr2.size
              have : w1.heap.size ≤ w2.heap.size := this
              omega
          have hk4 : ∀ b, b ≠ c.cp → (w4.setCell ⟨c.cp, 2, none⟩ (.slice (some ⟨b4, 0, none⟩) (S.td.length + 1) cap4)).heap[b]? = w4.heap[b]? := fun b hn => Below.heap_setCell _ _ _ _ hn
          have hab4 : (w4.setCell ⟨c.cp, 2, none⟩ (.slice (some ⟨b4, 0, none⟩) (S.td.length + 1) cap4)).heap[c.ab]? = w2.heap[c.ab]? := (hk4 c.ab nca.symm).trans ((hg4.block c.ab (by have := hM2.lt; simp [World.drew]; omega) (fun e => by have h1 := g1.tw c.ab e; rw [g1.ao] at h1; omega)).trans (Below.heap_alloc _ _ _ hM2.lt))
          have hcp4 : w4.heap[c.cp]? = w1.heap[c.cp]? := (hg4.block c.cp (by have := Nat.lt_of_lt_of_le ql gr2.size; simp [World.drew]; omega) (fun e => np c.cp (g1.tw c.cp e) rfl)).trans ((Below.heap_alloc _ _ _ (Nat.lt_of_lt_of_le ql gr2.size)).trans hcp2)
          obtain ⟨own2, c1, c2⟩ := g1.mrk (vt' := .slice (some ⟨b4, 0, none⟩) (S.td.length + 1) cap4) hi x0 (by rw [hsl]; exact xa.1) fr14 (hM2.same hab4) (row_keep hr4 (fun k e => by cases e; exact hk4 _ nb4)) (by
            have h1 := hcp4.trans g1.cb
            simp only [World.setCell, Array.getElem?_modify, if_true, h1, Option.map_some]
            rfl) (fun k e => by
            cases e
            exact hb4.imp (fun e => g1.tw _ e) (fun e => Nat.le_trans (show w1.heap.size ≤ w2.heap.size from gr2.size) e))
          rw [HS.out]
          exact ⟨own2, c1, (t.trans (Tm.of hb (fun b hb => (g.lt b hb).2))).trans c2⟩
        rw [ead]
        clear g t hcl hvj etk hi hsl hT hlen ead np n1l xa
        go_wp2_with fail
        refine P.mono ?_
        clear P
        rintro e w1 ⟨rfl, hb⟩
        have hbx := (hb.block wr.heap.size (by simp)).trans (heap_alloc_new wr (.cells #[.int .i64 3, .int .i64 x] 54))
        obtain ⟨kd, fa, fn, fc, w2, ⟨y0, y1, y2⟩, L1, L2, ⟨u0, u1, u2, u3, u4, uf, ul⟩, HQ⟩ := HP.out w1 (b1.trans (hb.mono b1.size)) hbx
        obtain ⟨_, y3, _, _⟩ := two_cells hbx
        clear hb b1 hbx HP
        go_wp2_with fail
        go_region_held3 (fun w' => w'.cell? ⟨c.cp, 0, none⟩ = some (.pointer (some ⟨c.gp, 0, none⟩)) ∧ w'.cell? ⟨c.cp, 1, none⟩ = some (.map (some c.ab)) ∧ w'.cell? ⟨c.gp, 2, none⟩ = some (.map (some c.l.mb)) ∧ w'.cell? ⟨wr.heap.size, 1, none⟩ = some (.int .i64 x)) (go_keep) (fail)
        clear L1 L2 y0 y1 y2 y3 u0 u1 u2
        obtain ⟨i0, hi0, hz0, hz1, hz2⟩ := info_parts infoL
        have hbd := ((Below.refl w2.heap.size w2).alloc (Nat.le_refl _) (.cells #[.int .i64 x] 2)).drew
        have HSd : Hid ((w2.alloc (.cells #[.int .i64 x] 2)).drew.ownsRow 0 2 1 (.slice ad3 S.td.length cap3) S.td.length (S.td.map (Value.int .i64))) := row_keep (row_alloc HQ.out.1 _) (fun _ _ => rfl)
        have rn : some c.cp ≠ (Value.slice ad3 S.td.length cap3).ownBlock := HQ.out.2.1
        have uf2 := uf 2
        clear uf
        go_wp2_with fail
        go_region_law (refine step_append_lies _ rfl (.tmp 35) (.tmp 38) 118 rfl 0 2 i0 (.int .i64 0) 1 8 Tryz.underlying118 hi0 hz0 hz1 hz2 rfl (by decide) (.slice ad3 S.td.length cap3) S.td.length (S.td.map (Value.int .i64)) (by simp [Act.eval]) HSd.out ⟨w2.heap.size, 0, none⟩ 1 1 [.int .i64 x] (by simp [Act.eval]) rfl ?_ ?_ (by decide) (by unfold maxLen; omega) (by omega) (by simp) _ rfl ?_; (intro j u hj; match j, hj with | 0, hj => (simp at hj; subst hj; simp [Addr.add])); (intro u hu; simp at hu; subst hu; rfl); intro b4 cap4 w4 hown4 hgrow4 hat4 hlt4; have d4 := hgrow4.cell (a := ⟨c.cp, 2, none⟩) (v := .slice ad3 S.td.length cap3) ((hbd.cell (p := ⟨c.cp, 2, none⟩) ul).trans u4) rn; have f4 : w4.frozen? ⟨c.cp, 2, none⟩ = false := (World.frozen?_of_block (a := ⟨c.cp, 2, none⟩) (hgrow4.block _ (Nat.lt_of_lt_of_le ul hbd.size) rn)).trans ((hbd.frozen (p := ⟨c.cp, 2, none⟩) ul).trans uf2))
        all_goals
          obtain ⟨own2, e1, e2⟩ := HQ.out.2.2 w4 b4 cap4 hgrow4 (by simpa using hown4) (hat4.imp Eq.symm (fun e => by rw [e]; exact hbd.size))
          have HF : Hid (_ ∧ _) := ⟨e1, e2⟩
          clear hown4 hgrow4 hat4 HQ HSd e1 e2 hbd u4
          go_wp2_with fail
          go_roundw
          case rel => exact ⟨j + 1, own2, _, n1' + 1, by omega, by go_num, HF.out.1, HF.out.2⟩
          case measure => simp [intOf]; omega
      · rw [hi] at P
        have HF : Hid (∀ w1, Below wr.heap.size wr w1 → Cm c own' vt' n1' n2 hm (mks st (l.take (j + 1))) w1 ∧ Tm own w own' w1) := fun w1 hb => by
          rw [HS.out, mk1_no hi]
          exact ⟨g.below hb, t.trans (Tm.of hb (fun b hb => (g.lt b hb).2))⟩
        rw [ead]
        clear g t hcl hvj etk hi hsl hT hlen ead
        go_wp2_with fail
        refine P.mono ?_
        clear P
        rintro e w1 ⟨rfl, hb⟩
        have hb := b1.trans (hb.mono b1.size)
        have HF : Hid (_ ∧ _) := HF.out w1 hb
        clear hb b1
        go_wp2_with fail
        go_roundw
        case rel => exact ⟨j + 1, own', vt', n1', by omega, by go_num, HF.out.1, HF.out.2⟩
        case measure => simp [intOf]; omega
    · have e : l.take j = l := List.take_of_length_le (by omega)
      rw [e] at g
      have HF : Hid (Cm c own' vt' n1' n2 hm (mks st l) wr ∧ Tm own w own' wr) := ⟨g, t⟩
      have hge : (l.length : Int) ≤ j := by omega
      clear g t e
      go_wp2_with fail
      go_end0
      exact ⟨own', vt', n1', rfl, HF.out.1, HF.out.2⟩
end

end Go.Proofs.YtogknhogphkddaaGreat
