/- Joined: Wq4, Wq3. -/
import Derived.Test.YtogknhogphkddaaGreatJ14
import Derived.Test.YtogknhogphkddaaGreatJ26
import Derived.Deep.DeepCutAuto
import Derived.Deep.RegionHeld3
import Derived.Deep.AppendLies
import Derived.Test.YtogknhogphkddaaGreatJ04
/- The document's world: Do, whatever the step: register: a contract. -/
namespace Go.Proofs.YtogknhogphkddaaGreat
open Go.RowKit W Kp Stl

theorem infoREq : (Tryz.prog.info? 71).map (fun i => (i.zero, i.size, i.bytes)) = some (some (.agg #[.int .i64 0, .int .i64 0]), 2, 16) := by kernel_rfl
def Wrs.rcq (s : Wrs) (A B : Nat) : Int := if s.th A < 0 ∨ s.gd B < 0 then 2 else if 24 ≤ s.rg.length + s.wt.length then 3 else 0

section
variable {rp rb : Nat} {most grow : Int} {F : Nat → Prop} {s : Wrs} {w : World}

set_option maxRecDepth 100000 in
set_option maxHeartbeats 2000000 in
theorem doQ_reg (h : (wrO rp rb most grow).J F s w) (A B : Nat) (hA : A < 12) (hB : B < 12) (hth : 0 ≤ s.th B → s.th B < s.T.length) (hrg : s.rg.length ≤ 10000) (hwt : s.wt.length ≤ 10000) (R I n : Int) (hP : SFk 9 R A B I n) :
    Calls Tryz.prog 9 #[.pointer (some ⟨rp, 0, none⟩), stpV 9 R A B I n] w fun e w' => ∃ F', e = .returned (.int .i64 (s.rcq A B)) ∧ (wrO rp rb most grow).J F' (if s.rcq A B = 0 then { s with rg := s.rg ++ [(s.gd B, s.th A)] } else s) w' ∧ Tn F w F' w' := by
  have hb0 := (Below.refl w.heap.size w).alloc (Nat.le_refl _) (stpC 9 R A B I n)
  have P := hP (w.alloc (stpC 9 R A B I n))
  have HJ : Hid ((wrO rp rb most grow).J F s w ∧ Below w.heap.size w (w.alloc (stpC 9 R A B I n))) := ⟨h, hb0⟩
  have HRC : Hid (s.rcq A B = if s.th A < 0 ∨ s.gd B < 0 then 2 else if 24 ≤ s.rg.length + s.wt.length then 3 else 0) := rfl
  have PT : Hid (∀ w', (wrO rp rb most grow).J F s w' → Calls Tryz.prog 27 #[.pointer (some ⟨rp, 0, none⟩), .int .i64 A] w' fun e w'' => e = .returned (.int .i64 (s.th A)) ∧ w'' = w') := fun w' hh => thingW_any hh A hA
  have PG : Hid (∀ w', (wrO rp rb most grow).J F s w' → Calls Tryz.prog 28 #[.pointer (some ⟨rp, 0, none⟩), .int .i64 B] w' fun e w'' => e = .returned (.int .i64 (s.gd B)) ∧ w'' = w') := fun w' hh => guardW_any hh B hB hth
  have hrp : rp < w.heap.size := (wr_cells h).2.2.2.1
  have ltF : Hid (∀ b, F b → b < w.heap.size) := (wrO rp rb most grow).lt h
  clear h hb0 hP hth
  generalize s.rcq A B = z at HRC ⊢
  generalize s.th A = a at *
  generalize s.gd B = g at *
  obtain ⟨i0, hi0, hz0, hz1, hz2⟩ := info_parts infoREq
  go_enter Tryz.func9, Tryz.ntmps9
  go_wp2_with fail
  refine P.mono ?_
  clear P
  rintro e w1 ⟨rfl, hb1⟩
  have hb := HJ.out.2.trans (hb1.mono (by simp))
  have hJ1 := (wrO rp rb most grow).below HJ.out.1 hb
  have hx : w1.heap[w.heap.size]? = some (stpC 9 R A B I n) := (hb1.block _ (by simp)).trans (heap_alloc_new _ _)
  have q0 : w1.cell? ⟨w.heap.size, 0, none⟩ = some (.int .i64 9) := by simp [World.cell?, hx]
  have q2 : w1.cell? ⟨w.heap.size, 2, none⟩ = some (.int .i64 A) := by simp [World.cell?, hx]
  have q3 : w1.cell? ⟨w.heap.size, 3, none⟩ = some (.int .i64 B) := by simp [World.cell?, hx]
  have lx := lt_of_some hx
  obtain ⟨_, _, _, lrp, _, cz, _, _⟩ := wr_cells hJ1
  have z2 := cz 2
  obtain ⟨v2, v3, d2, d3, hr2, hr3, rne, hup⟩ := wr_regs hJ1
  obtain ⟨a2, k2, e2⟩ := row_slice hr2
  obtain ⟨a3, k3, e3⟩ := row_slice hr3
  subst e2 e3
  have HJ1 : Hid ((wrO rp rb most grow).J F s w1 ∧ Tn F w F w1) := ⟨hJ1, Tn.of hb⟩
  have HR : Hid (w1.ownsRow 0 71 2 (.slice a2 s.rg.length k2) s.rg.length (ev s.rg) ∧ (∀ (l : List En) (v1 : Value) (w' : World), Fr (fun b => some b = (Value.slice a2 s.rg.length k2).ownBlock) w1 w' → w'.ownsRow 0 71 2 v1 l.length (ev l) → (∀ b, some b = v1.ownBlock → some b = (Value.slice a2 s.rg.length k2).ownBlock ∨ w1.heap.size ≤ b) →
      (wrO rp rb most grow).J (fun b => F b ∨ some b = v1.ownBlock) { s with rg := l } (w'.setCell ⟨rp, 2, none⟩ v1) ∧ Fr F w1 (w'.setCell ⟨rp, 2, none⟩ v1)) ∧ ∀ b, some b = (Value.slice a2 s.rg.length k2).ownBlock → F b) := ⟨hr2, hup, fun b e => by
    obtain ⟨own, m2, vT2, v22, v32, hM, hF⟩ := hJ1
    have h1 := hM.blk
    have e4 : v22 = .slice a2 s.rg.length k2 := by simpa [World.cell?, h1] using d2
    exact (hF b).2 (by rw [hM.g2o b (by rw [e4]; exact e)]; decide)⟩
  clear hJ1 hb hb1 hx cz HJ hr2 hr3 hup
  go_wp2_with fail
  refine (PT.out w1 HJ1.out.1).mono ?_
  rintro e w2 ⟨rfl, hw2⟩
  have hw2 := hw2.symm
  subst hw2
  by_cases ha : a < 0
  · have hz : z = 2 := by rw [HRC.out, if_pos (Or.inl ha)]
    go_wp2_with fail
    go_ret
    exact ⟨rfl, F, HJ1.out.1, HJ1.out.2⟩
  · go_wp2_with fail
    refine (PG.out w1 HJ1.out.1).mono ?_
    rintro e w2 ⟨rfl, hw2⟩
    have hw2 := hw2.symm
    subst hw2
    by_cases hg : g < 0
    · have hz : z = 2 := by rw [HRC.out, if_pos (Or.inr hg)]
      go_wp2_with fail
      go_ret
      exact ⟨rfl, F, HJ1.out.1, HJ1.out.2⟩
    · have hn24 : ∃ n : Nat, n = s.rg.length + s.wt.length := ⟨_, rfl⟩
      by_cases hf : 24 ≤ s.rg.length + s.wt.length
      · have hz : z = 3 := by rw [HRC.out, if_neg (by omega), if_pos hf]
        have hf1 : (24 : Int) ≤ (s.rg.length : Int) + (s.wt.length : Int) := by omega
        go_upto_region 30 with fail
        go_quiet (fail)
        go_wp2_with fail
        go_ret
        have hb := below_drewN (Below.refl w1.heap.size w1) nq
        exact ⟨rfl, F, (wrO rp rb most grow).below HJ1.out.1 hb, HJ1.out.2.below hb⟩
      · have hz : z = 0 := by rw [HRC.out, if_neg (by omega), if_neg hf]
        have hf1 : ¬ (24 : Int) ≤ (s.rg.length : Int) + (s.wt.length : Int) := by omega
        go_upto_region 30 with fail
        go_quiet (fail)
        have hb := below_drewN (Below.refl w1.heap.size w1) nq
        generalize w1.drewN nq = w2 at *
        have hJ2 := (wrO rp rb most grow).below HJ1.out.1 hb
        have p2 := (hb.cell (p := ⟨w.heap.size, 2, none⟩) lx).trans q2
        have p3 := (hb.cell (p := ⟨w.heap.size, 3, none⟩) lx).trans q3
        have e2 := (hb.cell (p := ⟨rp, 2, none⟩) lrp).trans d2
        have y2 := (hb.frozen (p := ⟨rp, 2, none⟩) lrp).trans z2
        have lr2 : rp < w2.heap.size := by have := hb.size; omega
        have lx2 : w.heap.size < w2.heap.size := by have := hb.size; omega
        have hbd := (Below.refl w2.heap.size w2).drew
        have hba := ((Below.refl w2.heap.size w2).alloc (Nat.le_refl _) (.cells #[.int .i64 g, .int .i64 a] 71)).drew
        have HSd : Hid ((w2.alloc (.cells #[.int .i64 g, .int .i64 a] 71)).drew.ownsRow 0 71 2 (.slice a2 s.rg.length k2) s.rg.length (ev s.rg)) := row_keep (row_alloc (row_keep HR.out.1 (fun b e => hb.block b (row_lt HR.out.1 b e).2)) _) (fun _ _ => rfl)
        have hba2 := ((Below.refl w2.heap.size w2).drew).alloc (Nat.le_refl _) (.cells #[.int .i64 g, .int .i64 a] 71)
        have HSd2 : Hid ((w2.drew.alloc (.cells #[.int .i64 g, .int .i64 a] 71)).ownsRow 0 71 2 (.slice a2 s.rg.length k2) s.rg.length (ev s.rg)) := row_keep (w := w2) (row_keep HR.out.1 (fun b e => hb.block b (row_lt HR.out.1 b e).2)) (fun b e => hba2.block b (by have h1 := (row_lt HR.out.1 b e).2; have := hb.size; omega))
        have C1 := PT.out w2.drew ((wrO rp rb most grow).below hJ2 hbd)
        have C2 := PG.out w2.drew ((wrO rp rb most grow).below hJ2 hbd)
        have HB : Hid (Below w1.heap.size w1 w2) := hb
        clear q2 q3 d2 d3 z2 hJ2 hb PT PG q0 HRC
        go_wp2_with fail
        have nx1 : rp ≠ w.heap.size := by omega
        have rnx : some w.heap.size ≠ (Value.slice a2 s.rg.length k2).ownBlock := fun e => by have := ltF.out _ (HR.out.2.2 _ e); omega
        refine wp_region_noPanic ?_
        refine wp_region_any (by kernel_rfl) ?_
        have hTS : (w2.drew.cell? ⟨w.heap.size, 2, none⟩ = some (.int .i64 A) ∧ w2.drew.cell? ⟨w.heap.size, 3, none⟩ = some (.int .i64 B)) ∧ w2.drew.cell? ⟨rp, 2, none⟩ = some (.slice a2 s.rg.length k2) := ⟨⟨p2, p3⟩, e2⟩
        refine any_of_G (T := fun w' => w'.cell? ⟨w.heap.size, 2, none⟩ = some (.int .i64 A) ∧ w'.cell? ⟨w.heap.size, 3, none⟩ = some (.int .i64 B)) (S := fun w' => w'.cell? ⟨rp, 2, none⟩ = some (.slice a2 s.rg.length k2)) (St := [18]) _ _ _ _ ?_
        refine G_takeA (i := 0) (v := ?_) rfl (by kernel_rfl) (by kernel_rfl) (by kernel_rfl) (by kernel_rfl) (fun _ _ _ h => h) (Or.inl ⟨by rfl, ?_⟩) hTS.1 (Or.inr hTS.2) ?_
        rotate_left
        · intro w hS
          go_simp
          try rfl
        try simp only [Act.put, List.getElem_toArray, List.getElem_cons_zero, List.setIfInBounds_toArray, List.set_cons_zero, List.set_cons_succ]
        refine G_takeA (i := 1) (v := ?_) rfl (by kernel_rfl) (by kernel_rfl) (by kernel_rfl) (by kernel_rfl) (fun _ _ _ h => h) (Or.inl ⟨by rfl, ?_⟩) hTS.1 (Or.inr hTS.2) ?_
        rotate_left
        · intro w hS
          go_simp
          try rfl
        try simp only [Act.put, List.getElem_toArray, List.getElem_cons_succ, List.getElem_cons_zero, List.setIfInBounds_toArray, List.set_cons_zero, List.set_cons_succ]
        refine G_takeA (i := 2) (v := ?_) rfl (by kernel_rfl) (by kernel_rfl) (by kernel_rfl) (by kernel_rfl) (fun _ _ _ h => h) (Or.inl ⟨by rfl, ?_⟩) hTS.1 (Or.inr hTS.2) ?_
        rotate_left
        · intro w hS
          go_simp
          try rfl
        try simp only [Act.put, List.getElem_toArray, List.getElem_cons_succ, List.getElem_cons_zero, List.setIfInBounds_toArray, List.set_cons_zero, List.set_cons_succ]
        refine G_takeA (i := 3) (v := ?_) rfl (by kernel_rfl) (by kernel_rfl) (by kernel_rfl) (by kernel_rfl) (fun _ _ _ h => h) (Or.inl ⟨by rfl, ?_⟩) hTS.1 (Or.inr hTS.2) ?_
        rotate_left
        · intro w hS
          go_simp
          try rfl
        try simp only [Act.put, List.getElem_toArray, List.getElem_cons_succ, List.getElem_cons_zero, List.setIfInBounds_toArray, List.set_cons_zero, List.set_cons_succ]
        refine G_take (i := 4) (v := ?_) rfl (by kernel_rfl) (by kernel_rfl) (by kernel_rfl) (by kernel_rfl) (by kernel_rfl) (by kernel_rfl) (fun _ _ _ h => h) (Or.inl ⟨by rfl, ?_⟩) hTS ?_
        rotate_left
        · intro w hS
          have hS1 := hS.2
          go_simp
          try rfl
        try simp only [Act.put, List.getElem_toArray, List.getElem_cons_succ, List.getElem_cons_zero, List.setIfInBounds_toArray, List.set_cons_zero, List.set_cons_succ]
        refine G_takeA (i := 5) (v := ?_) rfl (by kernel_rfl) (by kernel_rfl) (by kernel_rfl) (by kernel_rfl) (fun _ _ _ h => h) (Or.inl ⟨by rfl, ?_⟩) hTS.1 (Or.inr hTS.2) ?_
        rotate_left
        · intro w hS
          go_simp
          try rfl
        try simp only [Act.put, List.getElem_toArray, List.getElem_cons_succ, List.getElem_cons_zero, List.setIfInBounds_toArray, List.set_cons_zero, List.set_cons_succ]
        refine G_takeA (i := 6) (v := ?_) rfl (by kernel_rfl) (by kernel_rfl) (by kernel_rfl) (by kernel_rfl) (fun _ _ _ h => h) (Or.inl ⟨by rfl, ?_⟩) hTS.1 (Or.inr hTS.2) ?_
        rotate_left
        · intro w hS
          go_simp
          try rfl
        try simp only [Act.put, List.getElem_toArray, List.getElem_cons_succ, List.getElem_cons_zero, List.setIfInBounds_toArray, List.set_cons_zero, List.set_cons_succ]
        refine G_takeA (i := 7) (v := ?_) rfl (by kernel_rfl) (by kernel_rfl) (by kernel_rfl) (by kernel_rfl) (fun _ _ _ h => h) (Or.inl ⟨by rfl, ?_⟩) hTS.1 (Or.inr hTS.2) ?_
        rotate_left
        · intro w hS
          have hS1 := hS.1
          have hS2 := hS.2
          go_simp
          try rfl
        try simp only [Act.put, List.getElem_toArray, List.getElem_cons_succ, List.getElem_cons_zero, List.setIfInBounds_toArray, List.set_cons_zero, List.set_cons_succ]
        refine G_takeA (i := 9) (v := ?_) rfl (by kernel_rfl) (by kernel_rfl) (by kernel_rfl) (by kernel_rfl) (fun _ _ _ h => h) (Or.inl ⟨by rfl, ?_⟩) hTS.1 (Or.inr hTS.2) ?_
        rotate_left
        · intro w hS
          go_simp
          try rfl
        try simp only [Act.put, List.getElem_toArray, List.getElem_cons_succ, List.getElem_cons_zero, List.setIfInBounds_toArray, List.set_cons_zero, List.set_cons_succ]
        refine G_takeA (i := 10) (v := ?_) rfl (by kernel_rfl) (by kernel_rfl) (by kernel_rfl) (by kernel_rfl) (fun _ _ _ h => h) (Or.inl ⟨by rfl, ?_⟩) hTS.1 (Or.inr hTS.2) ?_
        rotate_left
        · intro w hS
          go_simp
          try rfl
        try simp only [Act.put, List.getElem_toArray, List.getElem_cons_succ, List.getElem_cons_zero, List.setIfInBounds_toArray, List.set_cons_zero, List.set_cons_succ]
        refine G_takeA (i := 11) (v := ?_) rfl (by kernel_rfl) (by kernel_rfl) (by kernel_rfl) (by kernel_rfl) (fun _ _ _ h => h) (Or.inl ⟨by rfl, ?_⟩) hTS.1 (Or.inr hTS.2) ?_
        rotate_left
        · intro w hS
          have hS1 := hS.1
          have hS2 := hS.2
          go_simp
          try rfl
        try simp only [Act.put, List.getElem_toArray, List.getElem_cons_succ, List.getElem_cons_zero, List.setIfInBounds_toArray, List.set_cons_zero, List.set_cons_succ]
        refine G_one (i := 8) (by kernel_rfl) ?_
        refine wpOp_of_wp rfl rfl ?_
        simp only [List.getElem_toArray, List.getElem_cons_succ, List.getElem_cons_zero]
        go_simp
        refine C2.mono ?_
        rintro e w4 ⟨rfl, hw4⟩
        have hw4 := hw4.symm
        subst hw4
        dsimp only
        refine ⟨⟨hTS.1, Or.inr hTS.2⟩, ?_⟩
        try simp only [Act.put, List.getElem_toArray, List.getElem_cons_succ, List.getElem_cons_zero, List.setIfInBounds_toArray, List.set_cons_zero, List.set_cons_succ]
        refine G_one (i := 12) (by kernel_rfl) ?_
        refine wpOp_of_wp rfl rfl ?_
        simp only [List.getElem_toArray, List.getElem_cons_succ, List.getElem_cons_zero]
        go_simp
        refine C1.mono ?_
        rintro e w4 ⟨rfl, hw4⟩
        have hw4 := hw4.symm
        subst hw4
        dsimp only
        refine ⟨⟨hTS.1, Or.inr hTS.2⟩, ?_⟩
        try simp only [Act.put, List.getElem_toArray, List.getElem_cons_succ, List.getElem_cons_zero, List.setIfInBounds_toArray, List.set_cons_zero, List.set_cons_succ]
        refine G_takeA (i := 13) (v := ?_) rfl (by kernel_rfl) (by kernel_rfl) (by kernel_rfl) (by kernel_rfl) (fun _ _ _ h => h) (Or.inl ⟨by rfl, ?_⟩) hTS.1 (Or.inr hTS.2) ?_
        rotate_left
        · intro w hS
          go_simp
          try rfl
        try simp only [Act.put, List.getElem_toArray, List.getElem_cons_succ, List.getElem_cons_zero, List.setIfInBounds_toArray, List.set_cons_zero, List.set_cons_succ]
        refine G_one (i := 14) (by kernel_rfl) ?_
        refine wpOp_of_wp rfl rfl ?_
        simp only [List.getElem_toArray, List.getElem_cons_succ, List.getElem_cons_zero]
        go_simp
        refine G_one (i := 15) (by kernel_rfl) ?_
        refine wpOp_of_wp rfl rfl ?_
        refine wp_append_lies _ (.tmp 149) (.tmp 159) 58 rfl 0 71 i0 (.agg #[.int .i64 0, .int .i64 0]) 2 16 Tryz.underlying58 hi0 hz0 hz1 hz2 rfl (by decide) (.slice a2 s.rg.length k2) s.rg.length (ev s.rg) (by simp [Act.eval]) HSd.out ⟨w2.heap.size, 0, none⟩ 1 1 [.int .i64 g, .int .i64 a] (by simp [Act.eval]) rfl ?_ ?_ (by decide) (by unfold maxLen; omega) (by omega) (by simp) _ rfl ?_
        · (intro j u hj; match j, hj with | 0, hj => (simp at hj; subst hj; simp [Addr.add]) | 1, hj => (simp at hj; subst hj; simp [Addr.add]))
        · (intro u hu; simp at hu; rcases hu with hu | hu <;> (subst hu; rfl))
        intro b4 cap4 w4 hown4 hgrow4 hat4 hlt4
        have d4 := hgrow4.cell (a := ⟨rp, 2, none⟩) (v := .slice a2 s.rg.length k2) ((hba.cell (p := ⟨rp, 2, none⟩) lr2).trans e2) rne
        have f4 : w4.frozen? ⟨rp, 2, none⟩ = false := (World.frozen?_of_block (a := ⟨rp, 2, none⟩) (hgrow4.block _ (Nat.lt_of_lt_of_le lr2 hba.size) rne)).trans ((hba.frozen (p := ⟨rp, 2, none⟩) lr2).trans y2)
        have d42 := hgrow4.cell (a := ⟨w.heap.size, 2, none⟩) ((hba.cell (p := ⟨w.heap.size, 2, none⟩) lx2).trans p2) rnx
        have d43 := hgrow4.cell (a := ⟨w.heap.size, 3, none⟩) ((hba.cell (p := ⟨w.heap.size, 3, none⟩) lx2).trans p3) rnx
        refine ⟨⟨⟨d42, d43⟩, Or.inr d4⟩, ?_⟩
        try simp only [Act.put, List.getElem_toArray, List.getElem_cons_succ, List.getElem_cons_zero, List.setIfInBounds_toArray, List.set_cons_zero, List.set_cons_succ]
        have HF : Hid ((wrO rp rb most grow).J (fun b => F b ∨ some b = (Value.slice (some ⟨b4, 0, none⟩) (s.rg.length + 1) cap4).ownBlock) { s with rg := s.rg ++ [(g, a)] } (w4.setCell ⟨rp, 2, none⟩ (.slice (some ⟨b4, 0, none⟩) (s.rg.length + 1) cap4)) ∧ Tn F w (fun b => F b ∨ some b = (Value.slice (some ⟨b4, 0, none⟩) (s.rg.length + 1) cap4).ownBlock) (w4.setCell ⟨rp, 2, none⟩ (.slice (some ⟨b4, 0, none⟩) (s.rg.length + 1) cap4))) := by
          have hsz4 := hgrow4.size
          simp at hsz4
          have hs2 := HB.out.size
          have hat : some b4 = (Value.slice a2 s.rg.length k2).ownBlock ∨ w1.heap.size ≤ b4 := hat4.imp Eq.symm (fun e => by
            have e1 : b4 = w2.heap.size + 1 := by simpa using e
            omega)
          have hfr4 : Fr (fun b => some b = (Value.slice a2 s.rg.length k2).ownBlock) w1 w4 := (((Fr.of (X := fun b => some b = (Value.slice a2 s.rg.length k2).ownBlock) HB.out).alloc _).drew).grown hgrow4 (fun b e => Or.inl e.symm)
          obtain ⟨h1, h2⟩ := HR.out.2.1 (s.rg ++ [(g, a)]) (.slice (some ⟨b4, 0, none⟩) (s.rg.length + 1) cap4) w4 hfr4 (by
            rw [ev_append, List.length_append]
            simpa [ev] using hown4) (fun b e => by
            simp [Value.ownBlock] at e
            subst e
            exact hat)
          refine ⟨h1, ⟨HJ1.out.2.fr.trans h2 HJ1.out.2.sub, fun b d => ?_⟩⟩
          rcases d with d | d
          · exact Or.inl d
          · simp [Value.ownBlock] at d
            subst d
            rcases hat with e4 | e4
            · exact Or.inl (HR.out.2.2 _ e4)
            · exact Or.inr (by omega)
        clear hown4 hgrow4 hat4 HR HSd HSd2
        refine G_takeA (i := 16) (v := ?_) rfl (by kernel_rfl) (by kernel_rfl) (by kernel_rfl) (by kernel_rfl) (fun _ _ _ h => h) (Or.inl ⟨by rfl, ?_⟩) ⟨d42, d43⟩ (Or.inr d4) ?_
        rotate_left
        · intro w hS
          go_simp
          try rfl
        try simp only [Act.put, List.getElem_toArray, List.getElem_cons_succ, List.getElem_cons_zero, List.setIfInBounds_toArray, List.set_cons_zero, List.set_cons_succ]
        refine G_takeA (i := 17) (v := ?_) rfl (by kernel_rfl) (by kernel_rfl) (by kernel_rfl) (by kernel_rfl) (fun _ _ _ h => h) (Or.inl ⟨by rfl, ?_⟩) ⟨d42, d43⟩ (Or.inr d4) ?_
        rotate_left
        · intro w hS
          go_simp
          try rfl
        try simp only [Act.put, List.getElem_toArray, List.getElem_cons_succ, List.getElem_cons_zero, List.setIfInBounds_toArray, List.set_cons_zero, List.set_cons_succ]
        refine G_one (i := 18) (by kernel_rfl) ?_
        refine wpOp_of_wp rfl rfl ?_
        simp only [List.getElem_toArray, List.getElem_cons_succ, List.getElem_cons_zero]
        go_simp
        refine ⟨⟨18, by simp, by kernel_rfl⟩, ?_⟩
        refine G_done (by kernel_rfl) ?_ _
        refine NoPanic.normal ?_
        clear C1 C2 p2 p3 e2 y2 d4 f4 d42 d43
        go_wp2_with fail
        go_ret
        exact ⟨rfl, _, HF.out.1, HF.out.2⟩
end

end Go.Proofs.YtogknhogphkddaaGreat

/- The document's world: Do, whatever the step: get, set: contracts. -/
namespace Go.Proofs.YtogknhogphkddaaGreat
open Go.RowKit W Kp Stl

def Wrs.sTq (s : Wrs) (A B : Nat) (I : Int) : List Tw1 := s.T.set (s.th A).toNat ((s.T.getD (s.th A).toNat (0, [], false, false)).1, (s.T.getD (s.th A).toNat (0, [], false, false)).2.1.set I.toNat (s.rs.getD B (0, 0)), (s.T.getD (s.th A).toNat (0, [], false, false)).2.2)

section
variable {rp rb : Nat} {most grow : Int} {F : Nat → Prop} {s : Wrs} {w : World}

set_option maxRecDepth 100000 in
set_option maxHeartbeats 2000000 in
theorem doQ_get (h : (wrO rp rb most grow).J F s w) (R A : Nat) (hR : R < 12) (hA : A < 12) (I : Int) (hth : 0 ≤ s.th A → s.th A < s.T.length) (hT : ∀ t ∈ s.T, t.2.1.length ≤ 12) (hl : s.T.length ≤ 10000) (B n : Int) (hP : SFk 11 R A B I n) :
    Calls Tryz.prog 9 #[.pointer (some ⟨rp, 0, none⟩), stpV 11 R A B I n] w fun e w' => e = .returned (.int .i64 (s.gc A I)) ∧ (wrO rp rb most grow).J F (if s.gc A I = 0 then { s with rs := s.rs.set R (s.gf A I) } else s) w' ∧ Tn F w F w' := by
  have hb0 := (Below.refl w.heap.size w).alloc (Nat.le_refl _) (stpC 11 R A B I n)
  have P := hP (w.alloc (stpC 11 R A B I n))
  have HJ : Hid ((wrO rp rb most grow).J F s w ∧ Below w.heap.size w (w.alloc (stpC 11 R A B I n))) := ⟨h, hb0⟩
  have HGC : Hid (s.gc A I = if s.th A < 0 ∨ (s.T.getD (s.th A).toNat (0, [], false, false)).1 = 5 then 2 else if I < 0 ∨ ((s.T.getD (s.th A).toNat (0, [], false, false)).2.1.length : Int) ≤ I then 1 else 0) := rfl
  have HGF : Hid (s.gf A I = (s.T.getD (s.th A).toNat (0, [], false, false)).2.1.getD I.toNat (0, 0)) := rfl
  clear h hb0 hP
  generalize s.gc A I = z at HGC ⊢
  generalize s.gf A I = fv at HGF ⊢
  have PT := fun w' (hh : (wrO rp rb most grow).J F s w') => thingW_any hh A hA
  generalize s.th A = a at *
  go_enter Tryz.func9, Tryz.ntmps9
  go_wp2_with fail
  refine P.mono ?_
  clear P
  rintro e w1 ⟨rfl, hb1⟩
  have hb := HJ.out.2.trans (hb1.mono (by simp))
  have hJ1 := (wrO rp rb most grow).below HJ.out.1 hb
  have hx : w1.heap[w.heap.size]? = some (stpC 11 R A B I n) := (hb1.block _ (by simp)).trans (heap_alloc_new _ _)
  have q0 : w1.cell? ⟨w.heap.size, 0, none⟩ = some (.int .i64 11) := by simp [World.cell?, hx]
  have q1 : w1.cell? ⟨w.heap.size, 1, none⟩ = some (.int .i64 R) := by simp [World.cell?, hx]
  have q2 : w1.cell? ⟨w.heap.size, 2, none⟩ = some (.int .i64 A) := by simp [World.cell?, hx]
  have q4 : w1.cell? ⟨w.heap.size, 4, none⟩ = some (.int .i64 I) := by simp [World.cell?, hx]
  obtain ⟨c1, _, _, lrp, lrb, cz, hrl, cr⟩ := wr_cells hJ1
  obtain ⟨x0, x1, y0, y1⟩ := cr R hR
  obtain ⟨nrb, hFb, hFp⟩ := wr_ne hJ1
  have lb := (wrO rp rb most grow).lt HJ.out.1 rb hFb
  have lp := (wrO rp rb most grow).lt HJ.out.1 rp hFp
  have nx1 : rb ≠ w.heap.size := by omega
  have nx2 : rp ≠ w.heap.size := by omega
  obtain ⟨aT, cT, t0, tne, tx⟩ := wr_things hJ1
  have HJ1 : Hid ((wrO rp rb most grow).J F s w1 ∧ Tn F w F w1) := ⟨hJ1, Tn.of hb⟩
  have Q := PT w1 hJ1
  have r0 : (0 : Int) ≤ (R : Int) := by omega
  have r1 : (R : Int) < 12 := by omega
  clear hJ1 hb hb1 hx cr cz HJ PT
  go_wp2_with fail
  refine Q.mono ?_
  clear Q
  rintro e w2 ⟨rfl, hw2⟩
  have hw2 := hw2.symm
  subst hw2
  by_cases ha : a < 0
  · have hz : z = 2 := by rw [HGC.out, if_pos (Or.inl ha)]
    clear tx
    go_wp2_with fail
    go_ret
    exact ⟨rfl, HJ1.out.1, HJ1.out.2⟩
  · obtain ⟨j, rfl⟩ : ∃ j : Nat, a = j := ⟨a.toNat, by omega⟩
    have hlt : j < s.T.length := by have := hth (by omega); omega
    obtain ⟨t, ht⟩ : ∃ t, s.T[j]? = some t := ⟨_, List.getElem?_eq_getElem hlt⟩
    obtain ⟨b, ad, cp, rfl, u0, u1, _, _, hLp, hfn⟩ := tx j t ht
    have ht12 := hT t (List.mem_of_getElem? ht)
    have eT : s.T.getD (j : Int).toNat (0, [], false, false) = t := by rw [Int.toNat_natCast, List.getD_eq_getElem?_getD, ht]; rfl
    rw [eT] at HGC HGF
    have jn : decide ((j : Int) < 0) = false := by simp
    have j0 : (0 : Int) ≤ (j : Int) := by omega
    have j1 : (j : Int) < (s.T.length : Int) := by omega
    clear tx ht eT hth hT
    obtain ⟨kd, fs, od, dd⟩ := t
    dsimp only at u0 u1 hLp ht12 HGC HGF hfn
    by_cases hk : kd = 5
    · subst hk
      have hz : z = 2 := by rw [HGC.out, if_pos (Or.inr rfl)]
      clear hLp hfn
      go_wp2_with fail
      go_ret
      exact ⟨rfl, HJ1.out.1, HJ1.out.2⟩
    · have hkb : (kd == 5) = false := by simpa using hk
      by_cases hI : I < 0 ∨ (fs.length : Int) ≤ I
      · have hz : z = 1 := by rw [HGC.out, if_neg (by omega), if_pos hI]
        by_cases hI0 : I < 0
        · clear hLp hfn
          go_wp2_with fail
          go_ret
          exact ⟨rfl, HJ1.out.1, HJ1.out.2⟩
        · have hI1 : (fs.length : Int) ≤ I := by omega
          clear hLp hfn
          go_wp2_with fail
          go_ret
          exact ⟨rfl, HJ1.out.1, HJ1.out.2⟩
      · have hz : z = 0 := by rw [HGC.out, if_neg (by omega), if_neg hI]
        obtain ⟨l, rfl⟩ : ∃ l : Nat, I = l := ⟨I.toNat, by omega⟩
        rw [Int.toNat_natCast] at HGF
        obtain ⟨fb, fo, e0, hfb, hc⟩ := hLp (by omega)
        obtain ⟨v0, v1⟩ := hc l (by omega)
        subst e0
        have HZ : Hid (z = 0) := hz
        have HFV : Hid (fv = ((fs.getD l (0, 0)).1, (fs.getD l (0, 0)).2)) := HGF.out
        generalize (fs.getD l (0, 0)).1 = g1 at v0 HFV
        generalize (fs.getD l (0, 0)).2 = g2 at v1 HFV
        have l0 : (0 : Int) ≤ (l : Int) := by omega
        have l1 : (l : Int) < (fs.length : Int) := by omega
        have nl0 : ¬ (l : Int) < 0 := by omega
        have nl1 : ¬ (fs.length : Int) ≤ (l : Int) := by omega
        obtain ⟨b9, e9, tn1, tn2⟩ := tne (by omega)
        cases e9
        obtain ⟨fn1, fn2, _⟩ := hfn fb fo (by omega) rfl
        have fn1 := Ne.symm fn1
        have tn2 := Ne.symm tn2
        clear hc tne hz HGC HGF hI hfn
        go_wp2_with fail
        go_region_held3 (fun w' => w'.cell? ⟨rp, 1, none⟩ = some (.slice (some ⟨rb, 0, none⟩) 12 12) ∧ w'.cell? ⟨w.heap.size, 1, none⟩ = some (.int .i64 R) ∧ w'.cell? ⟨rp, 0, none⟩ = some (.slice (some ⟨b, 0, none⟩) s.T.length cT) ∧ w'.cell? ⟨b, j * 4 + 1, none⟩ = some (.slice (some ⟨fb, fo, none⟩) fs.length cp) ∧ w'.cell? ⟨w.heap.size, 4, none⟩ = some (.int .i64 l) ∧ w'.cell? ⟨fb, fo + l * 2, none⟩ = some (.int .i64 g1) ∧ w'.cell? ⟨fb, fo + l * 2 + 1, none⟩ = some (.int .i64 g2)) (go_keep) (fail)
        obtain ⟨hJ2, hT2⟩ := wr_root HJ1.out.1 R (g1, g2)
        have HJ2 : Hid (_ ∧ _) := ⟨(wrO rp rb most grow).below hJ2 (Below.refl _ _).drew, (HJ1.out.2.trans hT2).below (Below.refl _ _).drew⟩
        clear hJ2 hT2
        go_wp2_with fail
        go_ret
        try rw [HZ.out]
        rw [HFV.out]
        exact ⟨rfl, HJ2.out.1, HJ2.out.2⟩

set_option maxRecDepth 100000 in
set_option maxHeartbeats 2000000 in
theorem doQ_set (h : (wrO rp rb most grow).J F s w) (A B : Nat) (hA : A < 12) (hB : B < 12) (I : Int) (hth : 0 ≤ s.th A → s.th A < s.T.length) (hT : ∀ t ∈ s.T, t.2.1.length ≤ 12) (hl : s.T.length ≤ 10000) (R n : Int) (hP : SFk 12 R A B I n) :
    Calls Tryz.prog 9 #[.pointer (some ⟨rp, 0, none⟩), stpV 12 R A B I n] w fun e w' => ∃ F', e = .returned (.int .i64 (s.gc A I)) ∧ (wrO rp rb most grow).J F' (if s.gc A I = 0 then { s with T := s.sTq A B I } else s) w' ∧ Tn F w F' w' := by
  have hb0 := (Below.refl w.heap.size w).alloc (Nat.le_refl _) (stpC 12 R A B I n)
  have P := hP (w.alloc (stpC 12 R A B I n))
  have HJ : Hid ((wrO rp rb most grow).J F s w ∧ Below w.heap.size w (w.alloc (stpC 12 R A B I n))) := ⟨h, hb0⟩
  have HGC : Hid (s.gc A I = if s.th A < 0 ∨ (s.T.getD (s.th A).toNat (0, [], false, false)).1 = 5 then 2 else if I < 0 ∨ ((s.T.getD (s.th A).toNat (0, [], false, false)).2.1.length : Int) ≤ I then 1 else 0) := rfl
  have HGF : Hid (s.sTq A B I = s.T.set (s.th A).toNat ((s.T.getD (s.th A).toNat (0, [], false, false)).1, (s.T.getD (s.th A).toNat (0, [], false, false)).2.1.set I.toNat (s.rs.getD B (0, 0)), (s.T.getD (s.th A).toNat (0, [], false, false)).2.2)) := rfl
  clear h hb0 hP
  generalize s.gc A I = z at HGC ⊢
  generalize s.sTq A B I = fv at HGF ⊢
  have PT := fun w' (hh : (wrO rp rb most grow).J F s w') => thingW_any hh A hA
  generalize s.th A = a at *
  go_enter Tryz.func9, Tryz.ntmps9
  go_wp2_with fail
  refine P.mono ?_
  clear P
  rintro e w1 ⟨rfl, hb1⟩
  have hb := HJ.out.2.trans (hb1.mono (by simp))
  have hJ1 := (wrO rp rb most grow).below HJ.out.1 hb
  have hx : w1.heap[w.heap.size]? = some (stpC 12 R A B I n) := (hb1.block _ (by simp)).trans (heap_alloc_new _ _)
  have q0 : w1.cell? ⟨w.heap.size, 0, none⟩ = some (.int .i64 12) := by simp [World.cell?, hx]
  have q3 : w1.cell? ⟨w.heap.size, 3, none⟩ = some (.int .i64 B) := by simp [World.cell?, hx]
  have q2 : w1.cell? ⟨w.heap.size, 2, none⟩ = some (.int .i64 A) := by simp [World.cell?, hx]
  have q4 : w1.cell? ⟨w.heap.size, 4, none⟩ = some (.int .i64 I) := by simp [World.cell?, hx]
  obtain ⟨c1, _, _, lrp, lrb, cz, hrl, cr⟩ := wr_cells hJ1
  obtain ⟨x0, x1, y0, y1⟩ := cr B hB
  obtain ⟨nrb, hFb, hFp⟩ := wr_ne hJ1
  have lb := (wrO rp rb most grow).lt HJ.out.1 rb hFb
  have lp := (wrO rp rb most grow).lt HJ.out.1 rp hFp
  have nx1 : rb ≠ w.heap.size := by omega
  have nx2 : rp ≠ w.heap.size := by omega
  obtain ⟨aT, cT, t0, tne, tx⟩ := wr_things hJ1
  have HJ1 : Hid ((wrO rp rb most grow).J F s w1 ∧ Tn F w F w1) := ⟨hJ1, Tn.of hb⟩
  have Q := PT w1 hJ1
  have r0 : (0 : Int) ≤ (B : Int) := by omega
  have r1 : (B : Int) < 12 := by omega
  clear hJ1 hb hb1 hx cr cz HJ PT
  go_wp2_with fail
  refine Q.mono ?_
  clear Q
  rintro e w2 ⟨rfl, hw2⟩
  have hw2 := hw2.symm
  subst hw2
  by_cases ha : a < 0
  · have hz : z = 2 := by rw [HGC.out, if_pos (Or.inl ha)]
    clear tx
    go_wp2_with fail
    go_ret
    exact ⟨rfl, F, HJ1.out.1, HJ1.out.2⟩
  · obtain ⟨j, rfl⟩ : ∃ j : Nat, a = j := ⟨a.toNat, by omega⟩
    have hlt : j < s.T.length := by have := hth (by omega); omega
    obtain ⟨t, ht⟩ : ∃ t, s.T[j]? = some t := ⟨_, List.getElem?_eq_getElem hlt⟩
    obtain ⟨b, ad, cp, rfl, u0, u1, _, _, hLp, hfn⟩ := tx j t ht
    have ht12 := hT t (List.mem_of_getElem? ht)
    have eT : s.T.getD (j : Int).toNat (0, [], false, false) = t := by rw [Int.toNat_natCast, List.getD_eq_getElem?_getD, ht]; rfl
    rw [eT] at HGC HGF
    have jn : decide ((j : Int) < 0) = false := by simp
    have j0 : (0 : Int) ≤ (j : Int) := by omega
    have j1 : (j : Int) < (s.T.length : Int) := by omega
    clear tx eT hth hT
    obtain ⟨kd, fs, od, dd⟩ := t
    dsimp only at u0 u1 hLp ht12 HGC HGF hfn
    by_cases hk : kd = 5
    · subst hk
      have hz : z = 2 := by rw [HGC.out, if_pos (Or.inr rfl)]
      clear hLp hfn ht
      go_wp2_with fail
      go_ret
      exact ⟨rfl, F, HJ1.out.1, HJ1.out.2⟩
    · have hkb : (kd == 5) = false := by simpa using hk
      by_cases hI : I < 0 ∨ (fs.length : Int) ≤ I
      · have hz : z = 1 := by rw [HGC.out, if_neg (by omega), if_pos hI]
        by_cases hI0 : I < 0
        · clear hLp hfn ht
          go_wp2_with fail
          go_ret
          exact ⟨rfl, F, HJ1.out.1, HJ1.out.2⟩
        · have hI1 : (fs.length : Int) ≤ I := by omega
          clear hLp hfn ht
          go_wp2_with fail
          go_ret
          exact ⟨rfl, F, HJ1.out.1, HJ1.out.2⟩
      · have hz : z = 0 := by rw [HGC.out, if_neg (by omega), if_neg hI]
        obtain ⟨l, rfl⟩ : ∃ l : Nat, I = l := ⟨I.toNat, by omega⟩
        rw [Int.toNat_natCast] at HGF
        have hfl : 0 < fs.length := by omega
        obtain ⟨fb, fo, e0, hfb, hc⟩ := hLp hfl
        subst e0
        have hcl : ∀ k u, (ev fs)[k]? = some u → w1.cell? ((⟨fb, fo, none⟩ : Addr).add k) = some u := fun k u hk => by
          have hkl : k < (ev fs).length := (List.getElem?_eq_some_iff.1 hk).1
          rw [ev_length] at hkl
          obtain ⟨e1, e2⟩ := ev_get fs (k / 2) (by omega)
          obtain ⟨d1, d2⟩ := hc (k / 2) (by omega)
          rw [Addr.add_lit]
          rcases Nat.mod_two_eq_zero_or_one k with hm | hm
          · have ek : k = k / 2 * 2 := by omega
            rw [ek, e1] at hk
            have ek2 : fo + k = fo + k / 2 * 2 := by omega
            rw [ek2, d1]
            exact hk
          · have ek : k = k / 2 * 2 + 1 := by omega
            rw [ek, e2] at hk
            have ek2 : fo + k = fo + k / 2 * 2 + 1 := by omega
            rw [ek2, d2]
            exact hk
        have hon : ∀ u ∈ ev fs, u.oneCell' = true := fun u hu => by
          simp [ev] at hu
          obtain ⟨a, b, _, h | h⟩ := hu <;> (rw [h]; rfl)
        obtain ⟨i0, hi0, hz0, hz1, hz2⟩ := info_parts infoVal
        have HZ : Hid (z = 0) := hz
        generalize hg1 : (s.rs.getD B (0, 0)).1 = g1 at x0
        generalize hg2 : (s.rs.getD B (0, 0)).2 = g2 at x1
        have HFV : Hid (fv = s.T.set j (kd, fs.set l (g1, g2), od, dd)) := by
          show _ = _
          rw [HGF.out, ← hg1, ← hg2, Int.toNat_natCast]
        have l0 : (0 : Int) ≤ (l : Int) := by omega
        have l1 : (l : Int) < (fs.length : Int) := by omega
        have nl0 : ¬ (l : Int) < 0 := by omega
        have nl1 : ¬ (fs.length : Int) ≤ (l : Int) := by omega
        obtain ⟨b9, e9, tn1, tn2⟩ := tne (by omega)
        cases e9
        have HTT : Hid (s.T[j]? = some (kd, fs, od, dd)) := ht
        have ltb := World.block_lt_of_cell? w1 _ u1
        clear hc tne hz HGC HGF hI hfn hg1 hg2 hLp ht
        have sx : w.heap.size < w1.heap.size := World.block_lt_of_cell? w1 _ q0
        go_upto_region 63 with (at_builtin; refine wpList_append_src _ rfl _ _ 38 rfl w1.heap.size 54 i0 (.agg #[.int .i64 0, .int .i64 0]) 2 16 Tryz.underlying38 hi0 hz0 hz1 hz2 rfl (by decide) (.slice none 0 0) 0 [] rfl (World.ownsRow_nil _ _ _ _) (some ⟨fb, fo, none⟩) fs.length cp (ev fs) rfl (ev_length fs) (fun e => by simp at e) (fun a e k u hk => by cases e; exact hcl k u hk) hon (by unfold maxLen; omega) (by omega) (Nat.le_refl _) ?_; intro aq cq w2 hoq hgq hlq; rw [Nat.zero_add, List.nil_append] at hoq; obtain ⟨nb, ncap, enb⟩ := row_shape hoq hfl; cases enb; have HNB : Hid (nb = w1.heap.size) := (by show nb = w1.heap.size; rcases hlq with e | e <;> simp [Value.ownBlock] at e; exact e); have hbq : Below w1.heap.size w1 w2 := (Below.refl _ _).grown hgq (Nat.le_refl _) (fun _ h => by cases h); have p0 := (hbq.cell (p := ⟨w.heap.size, 3, none⟩) sx).trans q3; have p1 := (hbq.cell (p := ⟨w.heap.size, 4, none⟩) sx).trans q4; have p2 := (hbq.cell (p := ⟨rp, 1, none⟩) lrp).trans c1; have p3 := (hbq.cell (p := ⟨rb, B * 2, none⟩) lrb).trans x0; have p4 := (hbq.cell (p := ⟨rb, B * 2 + 1, none⟩) lrb).trans x1; have p5 := (hbq.cell (p := ⟨rp, 0, none⟩) lrp).trans t0; have lnb := (row_lt hoq nb rfl).2)
        have fz := fun o => show w2.frozen? ⟨nb, o, none⟩ = false from (by
          obtain ⟨cur, hcur⟩ := row_type hoq nb rfl
          simp [World.frozen?, hcur])
        have f0 := fz (l * 2)
        have f1 := fz (l * 2 + 1)
        have nn1 : nb ≠ w.heap.size := by have := HNB.out; omega
        have nn2 : nb ≠ rp := by have := HNB.out; omega
        have nn3 : nb ≠ rb := by have := HNB.out; omega
        obtain ⟨b', o', e', _, hcc⟩ := row_pairs hoq hfl
        cases e'
        obtain ⟨m0, m1⟩ := hcc l (by omega)
        rw [Nat.zero_add] at m0 m1
        generalize (fs.getD l (0, 0)).1 = og1 at m0
        generalize (fs.getD l (0, 0)).2 = og2 at m1
        have HR : Hid (w2.ownsRow w1.heap.size 54 2 (.slice (some ⟨nb, 0, none⟩) fs.length cq) fs.length (ev fs) ∧ Below w1.heap.size w1 w2) := ⟨hoq, hbq⟩
        clear fz hoq hgq hlq hbq hcc
        go_region_held3 (fun w' => w'.cell? ⟨w.heap.size, 3, none⟩ = some (.int .i64 B) ∧ w'.cell? ⟨w.heap.size, 4, none⟩ = some (.int .i64 l) ∧ w'.cell? ⟨rp, 1, none⟩ = some (.slice (some ⟨rb, 0, none⟩) 12 12) ∧ w'.cell? ⟨rb, B * 2, none⟩ = some (.int .i64 g1) ∧ w'.cell? ⟨rb, B * 2 + 1, none⟩ = some (.int .i64 g2)) (go_keep) (fail)
        have hnb := HNB.out
        have hsz : ∀ u v, ((w2.setCell ⟨nb, l * 2, none⟩ u).setCell ⟨nb, l * 2 + 1, none⟩ v).heap.size = w2.heap.size := fun u v => by simp [World.setCell]
        have hkk : ∀ u v k, k ≠ nb → ((w2.setCell ⟨nb, l * 2, none⟩ u).setCell ⟨nb, l * 2 + 1, none⟩ v).heap[k]? = w2.heap[k]? := fun u v k hk => (Below.heap_setCell _ _ _ _ hk).trans (Below.heap_setCell _ _ _ _ hk)
        have hrow := row_put (row_put HR.out.1 (l * 2) (.int .i64 g1)) (l * 2 + 1) (.int .i64 g2)
        rw [← ev_root fs l (g1, g2)] at hrow
        have hB3 : Below w1.heap.size w1 ((w2.setCell ⟨nb, l * 2, none⟩ (.int .i64 g1)).setCell ⟨nb, l * 2 + 1, none⟩ (.int .i64 g2)) := (HR.out.2.setCell (by show w1.heap.size ≤ nb; omega) _).setCell (by show w1.heap.size ≤ nb; omega) _
        have hrow := row_keep (w' := ((w2.setCell ⟨nb, l * 2, none⟩ (.int .i64 g1)).setCell ⟨nb, l * 2 + 1, none⟩ (.int .i64 g2)).drew) hrow (fun _ _ => rfl)
        have hB3 := hB3.drew
        have p5 := (hB3.cell (p := ⟨rp, 0, none⟩) lrp).trans t0
        have p6 := (hB3.cell (p := ⟨b, j * 4 + 1, none⟩) ltb).trans u1
        have hJ3 := (wrO rp rb most grow).below HJ1.out.1 hB3
        have hT3 := HJ1.out.2.below hB3
        have hl3 := hB3.size
        have hl1 := HJ1.out.2.fr.size
        have ltF := (wrO rp rb most grow).lt HJ1.out.1
        generalize ((w2.setCell ⟨nb, l * 2, none⟩ (.int .i64 g1)).setCell ⟨nb, l * 2 + 1, none⟩ (.int .i64 g2)).drew = w3 at *
        obtain ⟨mm, vT, hmm, cT3, hrow3, _, _, _, hset⟩ := wr_row hJ3
        obtain rfl : vT = .slice (some ⟨b, 0, none⟩) s.T.length cT := by
          have := cT3.symm.trans p5
          simpa using this
        obtain ⟨x, hx, hxe⟩ : ∃ x, mm[j]? = some x ∧ x.1 = (kd, fs, od, dd) := by
          have h1 := HTT.out
          rw [← hmm] at h1
          simp at h1
          obtain ⟨a, b, c⟩ := h1
          exact ⟨_, c, rfl⟩
        obtain ⟨s1, s2⟩ := hset j x (some ⟨nb, 0, none⟩) cq (fs.set l (g1, g2)) b hx rfl (row_pairs (by simpa using hrow)) (fun b' o' _ e => by
          cases e
          intro d
          have := ltF _ d
          omega)
        rw [hxe, List.length_set] at s1
        rw [List.length_set] at s2
        have fzb : w3.frozen? ⟨b, j * 4 + 1, none⟩ = false := by
          obtain ⟨cur, hcur⟩ := row_type hrow3 b rfl
          simp [World.frozen?, hcur]
        have HF : Hid (∃ F', (wrO rp rb most grow).J F' { s with T := fv } (w3.setCell ⟨b, j * 4 + 1, none⟩ (.slice (some ⟨nb, 0, none⟩) fs.length cq)) ∧ Tn F w F' (w3.setCell ⟨b, j * 4 + 1, none⟩ (.slice (some ⟨nb, 0, none⟩) fs.length cq))) := by
          rw [HFV.out]
          refine ⟨_, s1, ⟨hT3.fr.trans s2 (fun _ d => Or.inl d), fun b' d => ?_⟩⟩
          rcases d with d | ⟨_, o', e⟩
          · exact Or.inl d
          · cases e
            exact Or.inr (by omega)
        clear hrow hJ3 hT3 hset hrow3 s1 s2 hmm hx hxe HR hkk hsz cT3 hnb
        go_wp2_with fail
        go_ret
        obtain ⟨F', k1, k2⟩ := HF.out
        try rw [HZ.out]
        exact ⟨rfl, F', k1, k2⟩
end

end Go.Proofs.YtogknhogphkddaaGreat
