/- Joined: Wr5, Sd7, Sd8, Sd9. -/
import Derived.Test.YtakofbkmhmcnfabGreatJ18
import Derived.Test.YtakofbkmhmcnfabGreatJ07
import Derived.Lib.AppendZeros
/- The document's world: Fresh: a contract. -/
namespace Go.Proofs.YtakofbkmhmcnfabGreat
open Go.RowKit W Kp Stl

/-- Is there room for a thing as it is? -/
def Wrs.fB (s : Wrs) (most k f : Int) : Bool := decide (hc k f = 0 ∧ 1 + f ≤ most - (usd s.T).1)
/-- What is left then. -/
def Wrs.fr (s : Wrs) (most : Int) (i : Nat) (k f : Int) : Wrs := if s.fB most k f = true then { s with T := s.T ++ [(k, List.replicate f.toNat (0, 0), false, false)], rs := s.rs.set i (3, (s.T.length : Int)) } else s

theorem infoThing : (Tryz.prog.info? 116).map (fun i => (i.zero, i.size, i.bytes)) = some (some (.agg #[.int .i64 0, .slice none 0 0, .bool false, .bool false]), 4, 40) := by kernel_rfl

section
variable {rp rb : Nat} {most grow : Int} {F : Nat → Prop} {s : Wrs} {w : World}

set_option maxRecDepth 100000 in
set_option maxHeartbeats 1000000 in
theorem fresh_no (h : (wrO rp rb most grow).J F s w) (hT : ∀ t ∈ s.T, t.2.1.length ≤ 12) (hl : s.T.length ≤ 10000) (hm0 : 0 ≤ most) (hm : most ≤ 100000) (i : Nat) (k f : Int) (hb : s.fB most k f = false) :
    Calls Tryz.prog 52 #[.pointer (some ⟨rp, 0, none⟩), .int .i64 i, .int .i64 k, .int .i64 f] w fun e w' => e = .returned (.bool false) ∧ Below w.heap.size w w' := by
  have P := usedW_any h hT hl
  have HJ : Hid ((wrO rp rb most grow).J F s w) := h
  have bd := usd_bd s.T hT
  have hh := of_decide_eq_false hb
  have hc5 := hc_bd k f
  generalize (usd s.T).1 = x at P bd hh
  generalize (usd s.T).2 = y at P bd
  obtain ⟨bd1, bd2, bd3, bd4⟩ := bd
  have Fi := fits_any k f
  clear h hb hT
  by_cases h0 : hc k f = 0
  · have hf := hc5 h0
    have hlt : most - x < 1 + f := by
      by_cases c : 1 + f ≤ most - x
      · exact absurd ⟨h0, c⟩ hh
      · omega
    rw [h0] at Fi
    clear h0 hh hc5
    go_enter Tryz.func52, Tryz.ntmps52
    go_wp2_with fail
    refine P.mono ?_
    clear P
    rintro e w1 ⟨rfl, hb1⟩
    obtain ⟨_, c4, _⟩ := wr_cells ((wrO rp rb most grow).below HJ.out hb1)
    go_wp2_with fail
    refine (Fi w1).mono ?_
    rintro e w2 ⟨rfl, hw2⟩
    have hw2 := hw2.symm
    subst hw2
    go_wp2_with fail
    go_ret
    exact ⟨rfl, hb1⟩
  · have hne : (hc k f != 0) = true := by simpa using h0
    generalize hc k f = z at *
    clear hh hc5
    go_enter Tryz.func52, Tryz.ntmps52
    go_wp2_with fail
    refine P.mono ?_
    clear P
    rintro e w1 ⟨rfl, hb1⟩
    go_wp2_with fail
    refine (Fi w1).mono ?_
    rintro e w2 ⟨rfl, hw2⟩
    have hw2 := hw2.symm
    subst hw2
    go_wp2_with fail
    go_ret
    exact ⟨rfl, hb1⟩

set_option maxRecDepth 100000 in
set_option maxHeartbeats 2000000 in
theorem fresh_yes (h : (wrO rp rb most grow).J F s w) (hT : ∀ t ∈ s.T, t.2.1.length ≤ 12) (hl : s.T.length ≤ 10000) (hm0 : 0 ≤ most) (hm : most ≤ 100000) (i : Nat) (hi : i < 12) (k f : Int) (hb : s.fB most k f = true) :
    Calls Tryz.prog 52 #[.pointer (some ⟨rp, 0, none⟩), .int .i64 i, .int .i64 k, .int .i64 f] w fun e w' => ∃ F', e = .returned (.bool true) ∧ (wrO rp rb most grow).J F' (s.fr most i k f) w' ∧ Tn F w F' w' := by
  have P := usedW_any h hT hl
  have HJ : Hid ((wrO rp rb most grow).J F s w) := h
  have bd := usd_bd s.T hT
  obtain ⟨h0, h1⟩ := of_decide_eq_true hb
  have hf := hc_bd k f h0
  have ES : Hid (s.fr most i k f = { s with T := s.T ++ [(k, List.replicate f.toNat (0, 0), false, false)], rs := s.rs.set i (3, (s.T.length : Int)) }) := by
    show _ = _
    unfold Wrs.fr
    rw [if_pos hb]
  generalize s.fr most i k f = s9 at ES ⊢
  generalize (usd s.T).1 = x at P bd h1
  generalize (usd s.T).2 = y at P bd
  obtain ⟨bd1, bd2, bd3, bd4⟩ := bd
  obtain ⟨_, _, hk1, hk2⟩ := hf
  have Fi := fits_any k f
  rw [h0] at Fi
  obtain ⟨m, rfl⟩ : ∃ m : Nat, f = m := ⟨f.toNat, by omega⟩
  rw [Int.toNat_natCast] at ES
  obtain ⟨i0, hi0, hz0, hz1, hz2⟩ := info_parts infoVal
  obtain ⟨j0, hj0, hw0, hw1, hw2⟩ := info_parts infoThing
  have hm12 : m ≤ 12 := by omega
  clear h hb hT h0
  go_enter Tryz.func52, Tryz.ntmps52
  go_wp2_with fail
  refine P.mono ?_
  clear P
  rintro e w1 ⟨rfl, hb1⟩
  obtain ⟨_, c4, _⟩ := wr_cells ((wrO rp rb most grow).below HJ.out hb1)
  go_wp2_with fail
  refine (Fi w1).mono ?_
  rintro e w2 ⟨rfl, hw2'⟩
  have hw2' := hw2'.symm
  subst hw2'
  have hJ1 := (wrO rp rb most grow).below HJ.out hb1
  have HJ1 : Hid ((wrO rp rb most grow).J F s w1 ∧ Tn F w F w1) := ⟨hJ1, Tn.of hb1⟩
  have hlw := hb1.size
  have ltF : Hid (∀ b, F b → b < w1.heap.size) := (wrO rp rb most grow).lt hJ1
  clear hJ1 hb1 HJ
  go_wp2_with fail
  go_loopw [12] (fun iv wr => ∃ (j : Nat) (ad : Option Addr) (cp : Nat), j ≤ m ∧ iv = .int .i64 j ∧ wr.heap[w1.heap.size]? = some (.cells #[.int .i64 k, .slice ad j cp, .bool false, .bool false] 116 (0, 0)) ∧ wr.ownsRow (w1.heap.size + 1) 91 2 (.slice ad j cp) j (ev (List.replicate j (0, 0))) ∧ Below w1.heap.size w1 wr) (fun iv _ => m - (intOf iv).toNat)
  case atStart => exact ⟨0, none, 0, Nat.zero_le _, rfl, heap_alloc_new _ _, World.ownsRow_nil _ _ _ _, (Below.refl _ w1).alloc (Nat.le_refl _) _⟩
  case round =>
    obtain ⟨j, ad, cp, hj, rfl, ht, hR, hb⟩ := hrel
    have lt1 := lt_of_some ht
    by_cases hlt : j < m
    · have d1 : wr.cell? ⟨w1.heap.size, 1, none⟩ = some (.slice ad j cp) := by simp [World.cell?, ht]
      have HT : Hid (wr.heap[w1.heap.size]? = some (.cells #[.int .i64 k, .slice ad j cp, .bool false, .bool false] 116 (0, 0)) ∧ Below w1.heap.size w1 wr) := ⟨ht, hb⟩
      have rne : some w1.heap.size ≠ (Value.slice ad j cp).ownBlock := fun e => by have := (row_lt hR _ e).1; omega
      clear ht hb
      go_wp2_with (at_builtin; refine wpList_append_own_at _ rfl _ _ 47 rfl (w1.heap.size + 1) 91 i0 (.agg #[.int .i64 0, .int .i64 0]) 2 16 Tryz.underlying47 hi0 hz0 hz1 hz2 rfl (by decide) (.slice ad j cp) j (ev (List.replicate j (0, 0))) rfl (row_alloc hR _) ⟨wr.heap.size, 0, none⟩ 1 1 [.int .i64 0, .int .i64 0] rfl rfl ?_ ?_ ?_ ?_ ?_ ?_; (intro j u hj; match j, hj with | 0, hj => (simp at hj; subst hj; simp [Addr.add]) | 1, hj => (simp at hj; subst hj; simp [Addr.add])); (intro u hu; simp at hu; subst hu; rfl); (unfold maxLen; omega); omega; (simp; omega); intro v' w4 hown4 hgrow4 _ hloc4; obtain ⟨b4, cap4, ev4⟩ := row_shape hown4 (Nat.succ_pos _); subst ev4; have kb := (hgrow4.block w1.heap.size (by simp; omega) rne).trans (Below.heap_alloc _ _ _ lt1); have g1 := (World.cell?_of_block (a := ⟨w1.heap.size, 1, none⟩) kb).trans d1; have f1 : w4.frozen? ⟨w1.heap.size, 1, none⟩ = false := (World.frozen?_of_block (a := ⟨w1.heap.size, 1, none⟩) kb).trans (by simp [World.frozen?, HT.out.1]))
      have hb4 : Below w1.heap.size w1 w4 := (HT.out.2.alloc HT.out.2.size _).grown hgrow4 (by simp; have := HT.out.2.size; omega) (fun b e => by have := (row_lt hR b e.symm).1; omega)
      go_roundw
      case rel =>
        refine ⟨j + 1, some ⟨b4, 0, none⟩, cap4, by omega, by go_num, ?_, ?_, hb4.setCell (Nat.le_refl _) _⟩
        · have hq := kb.trans HT.out.1
          simp only [World.setCell, Array.getElem?_modify, if_true, hq, Option.map_some]
          simp
        · refine row_keep (w := w4) ?_ (fun b e => Below.heap_setCell _ _ _ _ (fun e' => ?_))
          · rw [List.replicate_succ', ev_append]
            simpa [ev] using hown4
          · have e' : b = w1.heap.size := e'
            have := (row_lt hown4 b (by simpa [Value.ownBlock] using e)).1
            omega
      case measure => simp [intOf]; omega
    · obtain rfl : j = m := by omega
      have hJr := (wrO rp rb most grow).below HJ1.out.1 hb
      obtain ⟨c1, _, _, lrp, lrb, cz, hrl, cr⟩ := wr_cells hJr
      obtain ⟨x0, x1, y0, y1⟩ := cr i hi
      obtain ⟨mm, vT, hmm, cT, hrow, ⟨rn1, rn2⟩, hvF, _, _⟩ := wr_row hJr
      have eml : mm.length = s.T.length := by rw [← hmm]; simp
      obtain ⟨aT0, capT0, eT⟩ := row_slice hrow
      subst eT
      rw [eml] at cT
      have nrb : rb ≠ rp := fun e => by
        obtain ⟨own, m2, vT2, v22, v32, hM, _⟩ := hJr
        have h1 := hM.r1
        rw [e, hM.b1] at h1
        omega
      have HJr : Hid ((wrO rp rb most grow).J F s wr ∧ Tn F w F wr) := ⟨hJr, HJ1.out.2.below hb⟩
      have HT : Hid (wr.heap[w1.heap.size]? = some (.cells #[.int .i64 k, .slice ad j cp, .bool false, .bool false] 116 (0, 0)) ∧ wr.ownsRow (w1.heap.size + 1) 91 2 (.slice ad j cp) j (ev (List.replicate j (0, 0))) ∧ w1.heap.size ≤ wr.heap.size) := ⟨ht, hR, hb.size⟩
      have i0' : (0 : Int) ≤ (i : Int) := by omega
      have i1' : (i : Int) < 12 := by omega
      clear hJr cr cz hvF hrow ht hR hb HJ1 hmm
      go_wp2_with fail
      go_region_held3 (fun w' => w'.cell? ⟨rp, 1, none⟩ = some (.slice (some ⟨rb, 0, none⟩) 12 12) ∧ w'.cell? ⟨rp, 0, none⟩ = some (.slice aT0 s.T.length capT0)) (go_keep) (fail)
      obtain ⟨hJ2, hT2⟩ := wr_root HJr.out.1 i (3, (s.T.length : Int))
      have nlt : rb ≠ w1.heap.size := fun e => by
        have h1 := ltF.out rb (by
          obtain ⟨own, m2, vT2, v22, v32, hM, hF2⟩ := HJr.out.1
          exact (hF2 rb).2 (by rw [hM.r1]; decide))
        omega
      have hfr2 : Fr (fun b => b = rb) wr ((wr.setCell ⟨rb, i * 2, none⟩ (.int .i64 3)).setCell ⟨rb, i * 2 + 1, none⟩ (.int .i64 s.T.length)).drew := (((Fr.refl (fun b => b = rb) wr).set rb _ _ rfl).set rb _ _ rfl).drew
      have hJ5 := (wrO rp rb most grow).below hJ2 (Below.refl _ _).drew
      have hT5 := (HJr.out.2.trans hT2).below (Below.refl _ _).drew
      dsimp only at hJ5 hT5
      have ht5 := (hfr2.block w1.heap.size lt1 (fun e => nlt e.symm)).trans HT.out.1
      have hrbF : F rb := by
        obtain ⟨own, m2, vT2, v22, v32, hM, hF2⟩ := HJr.out.1
        exact (hF2 rb).2 (by rw [hM.r1]; decide)
      have hR5 := row_fr HT.out.2.1 hfr2 (fun b e e' => by
        have h1 := (row_lt HT.out.2.1 b e).1
        have h2 := ltF.out b (by rw [e']; exact hrbF)
        omega)
      have hsz5 := hfr2.size
      have e05 := (World.cell?_of_block (a := ⟨rp, 0, none⟩) (hfr2.block rp lrp (fun e => nrb e.symm))).trans cT
      generalize ((wr.setCell ⟨rb, i * 2, none⟩ (.int .i64 3)).setCell ⟨rb, i * 2 + 1, none⟩ (.int .i64 s.T.length)).drew = w5 at *
      clear hJ2 hT2 x0 x1 y0 y1 cT c1
      obtain ⟨mm, vT, hmm, cT, hrow, ⟨rn1, rn2⟩, hvF, hadd, _⟩ := wr_row hJ5
      have eml : mm.length = s.T.length := by rw [← List.length_map (f := fun x => x.1), hmm]
      obtain rfl : vT = .slice aT0 s.T.length capT0 := by
        have := cT.symm.trans e05
        simpa using this
      rw [eml] at hrow
      have HEM : Hid (mm.length = s.T.length) := eml
      clear eml
      obtain ⟨_, _, _, lrp5, _, cz5, _⟩ := wr_cells hJ5
      have z0 := cz5 0
      have t0 : w5.cell? ⟨w1.heap.size, 0, none⟩ = some (.int .i64 k) := by simp [World.cell?, ht5]
      have t1 : w5.cell? ⟨w1.heap.size, 1, none⟩ = some (.slice ad j cp) := by simp [World.cell?, ht5]
      have t2 : w5.cell? ⟨w1.heap.size, 2, none⟩ = some (.bool false) := by simp [World.cell?, ht5]
      have t3 : w5.cell? ⟨w1.heap.size, 3, none⟩ = some (.bool false) := by simp [World.cell?, ht5]
      have lt5 := lt_of_some ht5
      have hbd := ((Below.refl w5.heap.size w5).alloc (Nat.le_refl _) (.cells #[.int .i64 k, .slice ad j cp, .bool false, .bool false] 116)).drew
      have HSd : Hid ((w5.alloc (.cells #[.int .i64 k, .slice ad j cp, .bool false, .bool false] 116)).drew.ownsRow 0 116 4 (.slice aT0 s.T.length capT0) s.T.length (tv mm)) := row_keep (row_alloc hrow _) (fun _ _ => rfl)
      have HJ5 : Hid ((wrO rp rb most grow).J F { s with rs := s.rs.set i (3, (s.T.length : Int)) } w5 ∧ Tn F w F w5) := ⟨hJ5, hT5⟩
      have HA := hadd
      have HR5 : Hid (w5.ownsRow (w1.heap.size + 1) 91 2 (.slice ad j cp) j (ev (List.replicate j (0, 0))) ∧ w5.ownsRow 0 116 4 (.slice aT0 s.T.length capT0) s.T.length (tv mm) ∧ ∀ b, some b = (Value.slice aT0 s.T.length capT0).ownBlock → F b) := ⟨hR5, hrow, hvF⟩
      have HA : Hid (∀ (x : Tnd) (v1 : Value) (w1 : World), Fr (fun b => some b = (Value.slice aT0 s.T.length capT0).ownBlock) w5 w1 → w1.ownsRow 0 116 4 v1 (mm ++ [x]).length (tv (mm ++ [x])) → (∀ b, some b = v1.ownBlock → some b = (Value.slice aT0 s.T.length capT0).ownBlock ∨ w5.heap.size ≤ b) → Lp w1 x.2.1 x.1.2.1 → (∀ b o, 0 < x.1.2.1.length → x.2.1 = some ⟨b, o, none⟩ → ¬ F b ∧ some b ≠ v1.ownBlock) →
          (wrO rp rb most grow).J (fun b => F b ∨ some b = v1.ownBlock ∨ (0 < x.1.2.1.length ∧ ∃ o, x.2.1 = some ⟨b, o, none⟩)) { s with rs := s.rs.set i (3, (s.T.length : Int)), T := s.T ++ [x.1] } (w1.setCell ⟨rp, 0, none⟩ v1) ∧ Fr F w5 (w1.setCell ⟨rp, 0, none⟩ v1)) := hadd
      clear hadd hrow hvF hJ5 hT5 ht5 hR5 cz5 hmm HT hfr2 HJr
      go_wp2_with fail
      go_region_law (refine step_append_lies _ rfl (.tmp 62) (.tmp 64) 107 rfl 0 116 j0 (.agg #[.int .i64 0, .slice none 0 0, .bool false, .bool false]) 4 40 Tryz.underlying107 hj0 hw0 hw1 hw2 rfl (by decide) (.slice aT0 s.T.length capT0) s.T.length (tv mm) (by simp [Act.eval]) HSd.out ⟨w5.heap.size, 0, none⟩ 1 1 [.int .i64 k, .slice ad j cp, .bool false, .bool false] (by simp [Act.eval]) rfl ?_ ?_ (by decide) (by unfold maxLen; omega) (by omega) (by simp) _ rfl ?_; (intro j u hj; match j, hj with | 0, hj => (simp at hj; subst hj; simp [Addr.add]) | 1, hj => (simp at hj; subst hj; simp [Addr.add]) | 2, hj => (simp at hj; subst hj; simp [Addr.add]) | 3, hj => (simp at hj; subst hj; simp [Addr.add])); (intro u hu; simp at hu; rcases hu with hu | hu | hu <;> (subst hu; rfl)); intro b4 cap4 w4 hown4 hgrow4 hat4 hlt4; have d4 := hgrow4.cell (a := ⟨rp, 0, none⟩) (v := .slice aT0 s.T.length capT0) ((hbd.cell (p := ⟨rp, 0, none⟩) lrp5).trans cT) rn1; have f4 : w4.frozen? ⟨rp, 0, none⟩ = false := (World.frozen?_of_block (a := ⟨rp, 0, none⟩) (hgrow4.block _ (Nat.lt_of_lt_of_le lrp5 hbd.size) rn1)).trans ((hbd.frozen (p := ⟨rp, 0, none⟩) lrp5).trans z0))
      all_goals
        have HF : Hid (∃ F', (wrO rp rb most grow).J F' s9 (w4.setCell ⟨rp, 0, none⟩ (.slice (some ⟨b4, 0, none⟩) (s.T.length + 1) cap4)) ∧ Tn F w F' (w4.setCell ⟨rp, 0, none⟩ (.slice (some ⟨b4, 0, none⟩) (s.T.length + 1) cap4))) := by
          have hsz4 := hgrow4.size
          simp at hsz4
          have hat : some b4 = (Value.slice aT0 s.T.length capT0).ownBlock ∨ b4 = w5.heap.size + 1 := hat4.imp Eq.symm (fun e => by simpa using e)
          have hfr4 : Fr (fun b => some b = (Value.slice aT0 s.T.length capT0).ownBlock) w5 w4 := (((Fr.refl _ w5).alloc _).drew).grown hgrow4 (fun b e => Or.inl e.symm)
          have hR4 := row_fr HR5.out.1 hfr4 (fun b e e' => by
            have h1 := (row_lt HR5.out.1 b e).1
            have h2 := ltF.out b (HR5.out.2.2 b e')
            omega)
          obtain ⟨h1, h2⟩ := HA.out ((k, List.replicate j (0, 0), false, false), ad, cp) (.slice (some ⟨b4, 0, none⟩) (s.T.length + 1) cap4) w4 hfr4 (by
              rw [tv_append, List.length_append, HEM.out]
              simpa [tv] using hown4) (fun b e => by
              simp [Value.ownBlock] at e
              subst e
              exact hat.imp id (fun e => by omega)) (row_pairs (by simpa using hR4)) (fun b o hp e => by
              dsimp only at hp e
              rw [List.length_replicate] at hp
              have e2 : some b = (Value.slice ad j cp).ownBlock := by
                obtain ⟨b', c', e'⟩ := row_shape HR5.out.1 hp
                cases e'
                cases e
                rfl
              have h3 := row_lt HR5.out.1 b e2
              refine ⟨fun d => by have := ltF.out b d; omega, fun e3 => ?_⟩
              simp [Value.ownBlock] at e3
              subst e3
              rcases hat with e4 | e4
              · have := ltF.out _ (HR5.out.2.2 _ e4)
                omega
              · omega)
          rw [ES.out]
          refine ⟨_, h1, ⟨HJ5.out.2.fr.trans h2 HJ5.out.2.sub, fun b d => ?_⟩⟩
          rcases d with d | d | ⟨hp, o, e⟩
          · exact Or.inl d
          · simp [Value.ownBlock] at d
            subst d
            rcases hat with e4 | e4
            · exact Or.inl (HR5.out.2.2 _ e4)
            · exact Or.inr (by have := HJ5.out.2.fr.size; omega)
          · dsimp only at hp e
            rw [List.length_replicate] at hp
            obtain ⟨b', c', e'⟩ := row_shape HR5.out.1 hp
            cases e'
            cases e
            have h3 := (row_lt HR5.out.1 b rfl).1
            have h4 := hlw
            exact Or.inr (by omega)
        clear hown4 hgrow4 hat4 HA HR5
        go_wp2_with fail
        go_ret
        obtain ⟨F', j1, j2⟩ := HF.out
        exact ⟨F', rfl, j1, j2⟩
end

end Go.Proofs.YtakofbkmhmcnfabGreat

/- Library functions over lists of entries: Grow, Concat, IndexFunc: contracts. -/
namespace Go.Proofs.YtakofbkmhmcnfabGreat
open Go.RowKit W Kp Stl

theorem zeros_len (z : Value) (n : Nat) (hz : z.cells.size = 2) : (Builtin.zeroCells z.cells n).size = n * 2 := by rw [size_zeroCells, hz]

set_option maxRecDepth 100000 in
set_option maxHeartbeats 400000 in
theorem grow_any (w : World) (n : Nat) (hn : n ≤ 100000) :
    Calls Tryz.prog 199 #[.slice none 0 0, .int .i64 n] w fun e w' => ∃ a1 c1, e = .returned (.slice a1 0 c1) ∧ w'.ownsRow w.heap.size 95 2 (.slice a1 0 c1) 0 [] ∧ Below w.heap.size w w' := by
  obtain ⟨i0, hi, hz0, hz1, hz2⟩ := info_parts infoEn
  rcases Nat.eq_zero_or_pos n with h0 | h0
  · subst h0
    go_enter Tryz.func199, Tryz.ntmps199
    go_wp2_with fail
    go_ret
    exact ⟨none, 0, rfl, World.ownsRow_nil _ _ _ _, Below.refl _ _⟩
  · have hr := Lib.run_append_nil_zeros (P := Tryz.prog) w 160 3 160 95 i0 (.agg #[.int .i64 0, .int .i64 0]) .i64 .i64 Tryz.underlying160 Tryz.underlying3 hi hz0 n h0 (by rw [hz1]; decide) (by omega) (by rw [hz2]; omega)
    have hge := grownCap_ge w n 0 95
    have hcm : grownCap w n 0 95 ≤ maxLen := grownCap_le_maxLen w n 0 95 (by unfold maxLen; omega)
    generalize grownCap w n 0 95 = g at hr hge hcm
    have hown : (w.drew.alloc (.cells (Builtin.zeroCells (Value.agg #[.int .i64 0, .int .i64 0]).cells n ++ Builtin.zeroCells (Value.agg #[.int .i64 0, .int .i64 0]).cells (g - n)) 95)).ownsRow w.heap.size 95 2 (.slice (some ⟨w.heap.size, 0, none⟩) 0 g) 0 [] :=
      World.ownsRow_made w.drew _ g (Nat.le_refl _) hcm (by rw [Array.size_append, zeros_len _ _ rfl, zeros_len _ _ rfl]; omega)
    have hb : Below w.heap.size w (w.drew.alloc (.cells (Builtin.zeroCells (Value.agg #[.int .i64 0, .int .i64 0]).cells n ++ Builtin.zeroCells (Value.agg #[.int .i64 0, .int .i64 0]).cells (g - n)) 95)) := (Below.refl _ w).drew.alloc (Nat.le_refl _) _
    generalize w.drew.alloc (.cells (Builtin.zeroCells (Value.agg #[.int .i64 0, .int .i64 0]).cells n ++ Builtin.zeroCells (Value.agg #[.int .i64 0, .int .i64 0]).cells (g - n)) 95) = w1 at hr hown hb
    go_enter Tryz.func199, Tryz.ntmps199
    go_wp2_with (at_builtin; refine Lib.wpList_append_run _ rfl _ _ _ _ rfl _ _ rfl rfl _ _ hr ?_)
    go_wp2_with fail
    go_ret
    exact ⟨_, _, rfl, hown, hb⟩

set_option maxRecDepth 100000 in
set_option maxHeartbeats 400000 in
theorem index_any (D : En → Prop) (f : Nat) (b c : Array Value) (p : En → Bool) (hf : Ent f) (w : World)
    (hl : ∀ (w' : World) (e : En), D e → w.heap.size ≤ w'.heap.size → (∀ k, k < w.heap.size → w'.heap[k]? = w.heap[k]?) → Calls Tryz.prog f (b.push (en e) ++ c) w' fun r w'' => r = .returned (.bool (p e)) ∧ Below w'.heap.size w' w'')
    (l : List En) (ad : Option Addr) (cap : Nat) (hD : ∀ e ∈ l, D e) (hm : l.length ≤ 100000) (hp : Lp w ad l) :
    Calls Tryz.prog 195 #[.slice ad l.length cap, .func (.func f) b c] w fun r w' => Below w.heap.size w w' ∧ ((r = .returned (.int .i64 (-1)) ∧ ∀ e ∈ l, p e = false) ∨ ∃ i : Nat, r = .returned (.int .i64 i) ∧ i < l.length ∧ p (l.getD i (0, 0)) = true ∧ ∀ e ∈ l.take i, p e = false) := by
  have HL : Hid (∀ (w' : World) (e : En), D e → w.heap.size ≤ w'.heap.size → (∀ k, k < w.heap.size → w'.heap[k]? = w.heap[k]?) → Calls Tryz.prog f (b.push (en e) ++ c) w' fun r w'' => r = .returned (.bool (p e)) ∧ Below w'.heap.size w' w'') := hl
  have HP : Hid (Lp w ad l) := hp
  have HD : Hid (∀ e ∈ l, D e) := hD
  have hcf : ∀ (args : Array Value) (w : World), (callFunc f args).run Tryz.prog w = .ok (.enter f args) w := hf
  clear hl hp hf hD
  go_enter Tryz.func195, Tryz.ntmps195
  go_wp2_with fail
  go_loopw [8] (fun iv wr => ∃ j : Nat, j ≤ l.length ∧ iv = .int .i64 j ∧ Hid (∀ e ∈ l.take j, p e = false) ∧ Below w.heap.size w wr) (fun iv _ => l.length - (intOf iv).toNat)
  case atStart => exact ⟨0, Nat.zero_le _, rfl, by simp [Hid], Below.refl _ _⟩
  case round =>
    obtain ⟨j, hj, rfl, HE, hb⟩ := hrel
    by_cases hlt : j < l.length
    · obtain ⟨b0, o0, e0, hb0, hc⟩ := HP.out.below hb (by omega)
      obtain ⟨x1, x2⟩ := hc j hlt
      have HG : Hid (l.getD j (0, 0) = ((l.getD j (0, 0)).1, (l.getD j (0, 0)).2)) := rfl
      have hd : D (l.getD j (0, 0)) := HD.out _ (by rw [List.getD_eq_getElem?_getD, List.getElem?_eq_getElem hlt]; exact List.getElem_mem hlt)
      have hd : D ((l.getD j (0, 0)).1, (l.getD j (0, 0)).2) := hd
      obtain ⟨g, hg⟩ : ∃ g, g = (l.getD j (0, 0)).1 := ⟨_, rfl⟩
      obtain ⟨z, hz⟩ : ∃ z, z = (l.getD j (0, 0)).2 := ⟨_, rfl⟩
      rw [← hg] at x1 hd HG
      rw [← hz] at x2 hd HG
      clear hc hg hz
      subst e0
      go_wp2_with fail
      refine (HL.out wr (g, z) hd hb.size hb.block).mono ?_
      rintro r w1 ⟨rfl, hb1⟩
      have hb2 := hb.trans (hb1.mono hb.size)
      clear hb hb1
      cases hp : p (g, z)
      · have HE' : Hid (∀ e ∈ l.take (j + 1), p e = false) := fun e he => by
          rw [take_snoc l j hlt (0, 0), List.mem_append, List.mem_singleton] at he
          rcases he with he | he
          · exact HE.out e he
          · rw [he, HG.out]; exact hp
        clear hp
        go_wp2_with fail
        go_roundw
        case rel => exact ⟨j + 1, by omega, by go_num, HE', hb2⟩
        case measure => simp [intOf]; omega
      · have HPt : Hid (p (l.getD j (0, 0)) = true) := by show _ = _; rw [HG.out]; exact hp
        clear hp
        go_wp2_with fail
        go_ret
        exact ⟨hb2, Or.inr ⟨j, rfl, hlt, HPt.out, HE.out⟩⟩
    · obtain rfl : j = l.length := by omega
      rw [List.take_length] at HE
      go_wp2_with fail
      go_ret
      exact ⟨hb, Or.inl ⟨rfl, HE.out⟩⟩

end Go.Proofs.YtakofbkmhmcnfabGreat

/- Concat of two lists of entries: a contract. -/
namespace Go.Proofs.YtakofbkmhmcnfabGreat
open Go.RowKit W Kp Stl

set_option maxRecDepth 100000 in
set_option maxHeartbeats 1000000 in
theorem concat_any (w : World) (B : Nat) (l1 l2 : List En) (z1 z2 : Addr) (c1 c2 : Nat) (x0 : w.cell? ⟨B, 0, none⟩ = some (.slice (some z1) l1.length c1)) (x1 : w.cell? ⟨B, 1, none⟩ = some (.slice (some z2) l2.length c2)) (h1 : Lp w (some z1) l1) (h2 : Lp w (some z2) l2) (hm : l1.length + l2.length ≤ 100000) :
    Calls Tryz.prog 197 #[.slice (some ⟨B, 0, none⟩) 2 2] w fun e w' => ∃ a c, e = .returned (.slice a (l1.length + l2.length) c) ∧ w'.ownsRow w.heap.size 95 2 (.slice a (l1.length + l2.length) c) (l1.length + l2.length) (ev (l1 ++ l2)) ∧ Below w.heap.size w w' := by
  obtain ⟨i0, hi, hz0, hz1, hz2⟩ := info_parts infoEn
  have H1 : Hid (Lp w (some z1) l1) := h1
  have H2 : Hid (Lp w (some z2) l2) := h2
  have hB := World.block_lt_of_cell? w _ x0
  clear h1 h2
  go_enter Tryz.func197, Tryz.ntmps197
  go_wp2_with fail
  go_loopw [3, 11] (fun sv iv wr => wr = w ∧ ((iv = .int .i64 0 ∧ sv = .int .i64 0) ∨ (iv = .int .i64 1 ∧ sv = .int .i64 l1.length) ∨ (iv = .int .i64 2 ∧ sv = .int .i64 (l1.length + l2.length : Nat)))) (fun _ iv _ => 2 - (intOf iv).toNat)
  case atStart => exact ⟨rfl, Or.inl ⟨rfl, rfl⟩⟩
  case round =>
    obtain ⟨hw, ⟨rfl, rfl⟩ | ⟨rfl, rfl⟩ | ⟨rfl, rfl⟩⟩ := hrel
    all_goals
      have hw := hw.symm
      subst hw
    · go_wp2_with fail
      go_roundw
      case rel => exact ⟨trivial, Or.inr (Or.inl ⟨by go_num, by go_num⟩)⟩
      case measure => simp [intOf]
    · go_wp2_with fail
      go_roundw
      case rel => exact ⟨trivial, Or.inr (Or.inr ⟨by go_num, by go_num⟩)⟩
      case measure => simp [intOf]
    · go_wp2_with fail
      refine (grow_any w (l1.length + l2.length) hm).mono ?_
      rintro e w1 ⟨a1, d1, rfl, hown, hb⟩
      go_wp2_with fail
      go_loopw [6, 27] (fun vv iv wk => Below w.heap.size w wk ∧ ((∃ a c, iv = .int .i64 0 ∧ vv = .slice a 0 c ∧ wk.ownsRow w.heap.size 95 2 (.slice a 0 c) 0 []) ∨ (∃ a c, iv = .int .i64 1 ∧ vv = .slice a l1.length c ∧ wk.ownsRow w.heap.size 95 2 (.slice a l1.length c) l1.length (ev l1)) ∨ (∃ a c, iv = .int .i64 2 ∧ vv = .slice a (l1.length + l2.length) c ∧ wk.ownsRow w.heap.size 95 2 (.slice a (l1.length + l2.length) c) (l1.length + l2.length) (ev (l1 ++ l2))))) (fun _ iv _ => 2 - (intOf iv).toNat)
      case atStart => exact ⟨hb, Or.inl ⟨a1, d1, rfl, rfl, hown⟩⟩
      case round =>
        clear hown hb
        obtain ⟨hb, ⟨a, c, rfl, rfl, hown⟩ | ⟨a, c, rfl, rfl, hown⟩ | ⟨a, c, rfl, rfl, hown⟩⟩ := hrel
        · have y0 := (hb.cell (p := ⟨B, 0, none⟩) hB).trans x0
          have hs := hb.size
          go_wp2_with (at_builtin; refine wpList_append_own _ rfl _ _ 160 rfl w.heap.size 95 i0 (.agg #[.int .i64 0, .int .i64 0]) 2 16 Tryz.underlying160 hi hz0 hz1 hz2 rfl (by decide) (.slice a 0 c) 0 [] rfl hown z1 l1.length c1 (ev l1) rfl (ev_length l1) ((H1.out.below hb).cells z1 rfl) (ev_one l1) ?_ ?_ hs ?_; (unfold maxLen; omega); omega; intro v w2 hown2 hgrow2 _; rw [Nat.zero_add, List.nil_append] at hown2; obtain ⟨a2, d2, e2⟩ := row_slice hown2; subst e2)
          have hb2 := hb.grown hgrow2 hs (fun k e => (row_lt hown k e.symm).1)
          clear hb hgrow2
          go_wp2_with fail
          go_roundw
          case rel => exact ⟨hb2, Or.inr (Or.inl ⟨a2, d2, by go_num, rfl, hown2⟩)⟩
          case measure => simp [intOf]
        · have y0 := (hb.cell (p := ⟨B, 1, none⟩) hB).trans x1
          have hs := hb.size
          go_wp2_with (at_builtin; refine wpList_append_own _ rfl _ _ 160 rfl w.heap.size 95 i0 (.agg #[.int .i64 0, .int .i64 0]) 2 16 Tryz.underlying160 hi hz0 hz1 hz2 rfl (by decide) (.slice a l1.length c) l1.length (ev l1) rfl hown z2 l2.length c2 (ev l2) rfl (ev_length l2) ((H2.out.below hb).cells z2 rfl) (ev_one l2) ?_ ?_ hs ?_; (unfold maxLen; omega); omega; intro v w2 hown2 hgrow2 _; rw [← ev_append] at hown2; obtain ⟨a2, d2, e2⟩ := row_slice hown2; subst e2)
          have hb2 := hb.grown hgrow2 hs (fun k e => (row_lt hown k e.symm).1)
          clear hb hgrow2
          go_wp2_with fail
          go_roundw
          case rel => exact ⟨hb2, Or.inr (Or.inr ⟨a2, d2, by go_num, rfl, hown2⟩)⟩
          case measure => simp [intOf]
        · go_wp2_with fail
          go_ret
          exact ⟨a, c, rfl, hown, hb⟩

end Go.Proofs.YtakofbkmhmcnfabGreat

/- Full, Reg, Copy of a Side: contracts. -/
namespace Go.Proofs.YtakofbkmhmcnfabGreat
open Go.RowKit W Kp Stl

/-- A Side in memory: what is registered, what waits, each in a row of its own. -/
structure Sds (w : World) (p : Nat) (a0 : Option Addr) (k0 : Nat) (a1 : Option Addr) (k1 : Nat) (r q : List En) : Prop where
  blk : w.heap[p]? = some (.cells #[.slice a0 r.length k0, .slice a1 q.length k1] 162 (0, 0))
  r0 : w.ownsRow 0 95 2 (.slice a0 r.length k0) r.length (ev r)
  q0 : w.ownsRow 0 95 2 (.slice a1 q.length k1) q.length (ev q)

theorem row_li {w : World} {base : Nat} {e : TypeId} {ad : Option Addr} {cap : Nat} {l : List En} (h : w.ownsRow base e 2 (.slice ad l.length cap) l.length (ev l)) : Li w ad l cap := by
  refine ⟨row_pairs h, ?_, ?_⟩
  · rcases h.2 with ⟨hv, h0⟩ | ⟨g, cap', cur, hv, _, _, hc, _⟩
    · omega
    · simp at hv; omega
  · intro e0
    rcases h.2 with ⟨hv, h0⟩ | ⟨g, cap', cur, hv, _⟩
    · simp at hv; exact ⟨h0, hv.2.2⟩
    · rw [e0] at hv; simp at hv

theorem Sds.keep {w w' : World} {p : Nat} {a0 a1 : Option Addr} {k0 k1 : Nat} {r q : List En} (h : Sds w p a0 k0 a1 k1 r q) (h1 : w'.heap[p]? = w.heap[p]?) (h2 : ∀ k, some k = (Value.slice a0 r.length k0).ownBlock → w'.heap[k]? = w.heap[k]?) (h3 : ∀ k, some k = (Value.slice a1 q.length k1).ownBlock → w'.heap[k]? = w.heap[k]?) : Sds w' p a0 k0 a1 k1 r q :=
  ⟨h1.trans h.blk, row_keep h.r0 h2, row_keep h.q0 h3⟩
theorem Sds.below {w w' : World} {p : Nat} {a0 a1 : Option Addr} {k0 k1 : Nat} {r q : List En} (h : Sds w p a0 k0 a1 k1 r q) (hb : Below w.heap.size w w') : Sds w' p a0 k0 a1 k1 r q :=
  h.keep (hb.block p (lt_of_some h.blk)) (fun k e => hb.block k (row_lt h.r0 k e).2) (fun k e => hb.block k (row_lt h.q0 k e).2)
/-- A row's block is not the Side's own. -/
theorem Sds.np {w : World} {p : Nat} {a0 a1 : Option Addr} {k0 k1 : Nat} {r q : List En} (h : Sds w p a0 k0 a1 k1 r q) {b n : Nat} {v : Value} {l : List Value} (hr : w.ownsRow b 95 2 v n l) : ∀ k, some k = v.ownBlock → k ≠ p := by
  intro k e e'
  obtain ⟨cur, hc⟩ := row_type hr k e
  rw [e', h.blk] at hc
  simp at hc

/-- Full, by how many there are. -/
def fulB (n : Nat) : Bool := decide (24 ≤ n)
theorem fulB_yes {n : Nat} (h : 24 ≤ n) : fulB n = true := by simp [fulB, h]
theorem fulB_no {n : Nat} (h : ¬ 24 ≤ n) : fulB n = false := by simp [fulB, h]

theorem ful_eq {n0 n1 : Nat} (h0 : n0 ≤ 100000) (h1 : n1 ≤ 100000) : Hid (decide ((24 : Int) ≤ IntKind.i64.wrap ((n0 : Int) + (n1 : Int))) = fulB (n0 + n1)) := by
  show _ = _
  rw [show IntKind.i64.wrap ((n0 : Int) + (n1 : Int)) = (n0 : Int) + n1 by rw [IntKind.wrap_i64]; omega]
  unfold fulB
  by_cases h : 24 ≤ n0 + n1
  · rw [decide_eq_true h, decide_eq_true (by omega)]
  · rw [decide_eq_false h, decide_eq_false (by omega)]

set_option maxRecDepth 100000 in
set_option maxHeartbeats 400000 in
theorem full_any' (w : World) (p : Nat) (a0 a1 : Option Addr) (n0 k0 n1 k1 : Nat) (h : w.heap[p]? = some (.cells #[.slice a0 n0 k0, .slice a1 n1 k1] 162 (0, 0))) (h0 : n0 ≤ 100000) (h1 : n1 ≤ 100000) :
    Calls Tryz.prog 115 #[.pointer (some ⟨p, 0, none⟩)] w fun e w' => e = .returned (.bool (fulB (n0 + n1))) ∧ Below w.heap.size w w' := by
  have c0 : w.cell? ⟨p, 0, none⟩ = some (.slice a0 n0 k0) := by simp [World.cell?, h]
  have c1 : w.cell? ⟨p, 1, none⟩ = some (.slice a1 n1 k1) := by simp [World.cell?, h]
  clear h
  have HE := ful_eq h0 h1
  go_enter Tryz.func115, Tryz.ntmps115
  go_wp2_with fail
  go_region_held3 (fun w' => w'.cell? ⟨p, 0, none⟩ = some (.slice a0 n0 k0) ∧ w'.cell? ⟨p, 1, none⟩ = some (.slice a1 n1 k1)) (go_keep) (fail)
  go_wp2_with fail
  go_ret
  exact ⟨by rw [← HE.out]; rfl, (Below.refl _ _).drew⟩

theorem Sds.cells {w : World} {p : Nat} {a0 a1 : Option Addr} {k0 k1 : Nat} {r q : List En} (h : Sds w p a0 k0 a1 k1 r q) : w.cell? ⟨p, 0, none⟩ = some (.slice a0 r.length k0) ∧ w.cell? ⟨p, 1, none⟩ = some (.slice a1 q.length k1) ∧ w.frozen? ⟨p, 0, none⟩ = false ∧ w.frozen? ⟨p, 1, none⟩ = false ∧ p < w.heap.size :=
  ⟨by simp [World.cell?, h.blk], by simp [World.cell?, h.blk], by simp [World.frozen?, h.blk], by simp [World.frozen?, h.blk], lt_of_some h.blk⟩

theorem set_fst {w : World} {p : Nat} {x y v : Value} {T : TypeId} (h : w.heap[p]? = some (.cells #[x, y] T (0, 0))) : (w.setCell ⟨p, 0, none⟩ v).heap[p]? = some (.cells #[v, y] T (0, 0)) := by
  simp only [World.setCell, Array.getElem?_modify, if_true, h, Option.map_some]
  simp
theorem set_snd {w : World} {p : Nat} {x y v : Value} {T : TypeId} (h : w.heap[p]? = some (.cells #[x, y] T (0, 0))) : (w.setCell ⟨p, 1, none⟩ v).heap[p]? = some (.cells #[x, v] T (0, 0)) := by
  simp only [World.setCell, Array.getElem?_modify, if_true, h, Option.map_some]
  simp

set_option maxRecDepth 100000 in
set_option maxHeartbeats 1000000 in
theorem reg_any (w : World) (p : Nat) (a0 a1 : Option Addr) (k0 k1 : Nat) (r q : List En) (g z : Int) (h : Sds w p a0 k0 a1 k1 r q) (h0 : r.length ≤ 90000) (h1 : q.length ≤ 90000) :
    Calls Tryz.prog 57 #[.pointer (some ⟨p, 0, none⟩), .agg #[.int .i64 g, .int .i64 z]] w fun e w' => e = .returned (.bool (!fulB (r.length + q.length))) ∧
      ((24 ≤ r.length + q.length ∧ Below w.heap.size w w') ∨ (¬ 24 ≤ r.length + q.length ∧ ∃ b1 c1, Sds w' p (some ⟨b1, 0, none⟩) c1 a1 k1 (r ++ [(g, z)]) q ∧ w.heap.size ≤ b1 ∧ Fr (fun k => k = p) w w')) := by
  obtain ⟨c0, c1, f0, f1, lp⟩ := h.cells
  have H : Hid (Sds w p a0 k0 a1 k1 r q) := h
  have hb1 := (Below.refl w.heap.size w).alloc (Nat.le_refl _) (.cells #[.int .i64 g, .int .i64 z] 95)
  have HLi : Hid (Li w a0 r k0) := row_li h.r0
  by_cases hf : 24 ≤ r.length + q.length
  · rw [fulB_yes hf]
    clear h
    go_enter Tryz.func57, Tryz.ntmps57
    go_wp2_with fail
    refine (full_any' _ p a0 a1 r.length k0 q.length k1 ((hb1.block p lp).trans H.out.blk) (by omega) (by omega)).mono ?_
    rintro e w1 ⟨rfl, hb⟩
    rw [fulB_yes hf]
    have hb2 := hb1.trans (hb.mono (by simp))
    go_wp2_with fail
    go_ret
    exact ⟨rfl, Or.inl ⟨hf, hb2⟩⟩
  · rw [fulB_no hf]
    clear h
    go_enter Tryz.func57, Tryz.ntmps57
    go_wp2_with fail
    refine (full_any' _ p a0 a1 r.length k0 q.length k1 ((hb1.block p lp).trans H.out.blk) (by omega) (by omega)).mono ?_
    rintro e w1 ⟨rfl, hb⟩
    rw [fulB_no hf]
    have hb2 := hb1.trans (hb.mono (by simp))
    have hl0 : w.heap.size < w1.heap.size := by have := hb.size; simp at this; omega
    have y0 : w1.cell? ⟨w.heap.size, 0, none⟩ = some (.int .i64 g) := (hb.cell (by simp)).trans (by simp)
    have y1 : w1.cell? ⟨w.heap.size, 1, none⟩ = some (.int .i64 z) := (hb.cell (by simp)).trans (by simp)
    have y2 := (hb2.cell (p := ⟨p, 0, none⟩) lp).trans c0
    have y3 := (hb2.frozen (p := ⟨p, 0, none⟩) lp).trans f0
    have lp1 : p < w1.heap.size := by omega
    have hLi1 := HLi.out.below hb2
    clear hb hb1
    go_wp2_with fail
    go_region_with (go_at_call 116; refine (with_any _ a0 r k0 g z (hLi1.below ((Below.refl _ _).drew)) (by omega)).mono ?_; rintro e w5 ⟨b1, cap1, rfl, hown, hb5⟩; have e4 := (hb5.cell (p := ⟨p, 0, none⟩) lp1).trans y2; have e5 := (hb5.frozen (p := ⟨p, 0, none⟩) lp1).trans y3)
    all_goals
      go_wp2_with fail
      go_ret
      refine ⟨rfl, Or.inr ⟨hf, b1, cap1, ?_⟩⟩
      have hbw : Below w.heap.size w w5 := hb2.drew.trans (hb5.mono (by simp; omega))
      have lb : w1.heap.size ≤ b1 := (row_lt hown b1 rfl).1
      have hS := H.out.below hbw
      have hfr : Fr (fun k => k = p) w (w5.setCell ⟨p, 0, none⟩ (.slice (some ⟨b1, 0, none⟩) (r.length + 1) cap1)) := (Fr.of hbw).set p 0 _ rfl
      have kk : ∀ k, k ≠ p → (w5.setCell ⟨p, 0, none⟩ (.slice (some ⟨b1, 0, none⟩) (r.length + 1) cap1)).heap[k]? = w5.heap[k]? := fun k hk => Below.heap_setCell _ _ _ _ hk
      refine ⟨⟨by simpa using set_fst hS.blk, ?_, row_keep hS.q0 (fun k e => kk k (hS.np hS.q0 k e))⟩, by omega, hfr⟩
      have := row_base (base' := 0) (row_keep (w' := w5.setCell ⟨p, 0, none⟩ (.slice (some ⟨b1, 0, none⟩) (r.length + 1) cap1)) hown (fun k e => kk k (hS.np hown k e))) (fun _ _ => Nat.zero_le _)
      simpa using this

end Go.Proofs.YtakofbkmhmcnfabGreat
