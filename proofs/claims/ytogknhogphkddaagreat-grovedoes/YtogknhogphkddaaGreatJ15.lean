/- Joined: Wq2, Wq7. -/
import Derived.Test.YtogknhogphkddaaGreatJ14
import Derived.Deep.DeepCutAuto
/- The document's world: a new thing: a contract. -/
namespace Go.Proofs.YtogknhogphkddaaGreat
open Go.RowKit W Kp Stl

def Fri (F : Nat → Prop) (w : World) (fa : Option Addr) (L : List Nat) : Prop := 0 < L.length → ∃ b o, fa = some ⟨b, o, none⟩ ∧ b < w.heap.size ∧ ¬ F b ∧ ∀ i, i < L.length → w.cell? ⟨b, o + i, none⟩ = some (.int .i64 (L.getD i 0 : Nat))
structure Tbx (wc w : World) (kd : Int) (ad : Option Addr) (cp : Nat) (P : List (Int × Int)) : Prop where
  be : Below wc.heap.size wc w
  nc : w.heap[wc.heap.size]? = some (.cells #[.int .i64 kd, .slice ad P.length cp, .bool false, .bool false] 73 (0, 0))
  row : w.ownsRow (wc.heap.size + 1) 54 2 (.slice ad P.length cp) P.length (ev P)
theorem Tbx.push {wc w wq w10 : World} {kd : Int} {ad : Option Addr} {cp : Nat} {P : List (Int × Int)} (h : Tbx wc w kd ad cp P) (hq : Below w.heap.size w wq) {v : Int × Int} {b4 c4 : Nat} (hg : wq.grownBy w10 (Value.slice ad P.length cp).ownBlock) (ho : w10.ownsRow (wc.heap.size + 1) 54 2 (.slice (some ⟨b4, 0, none⟩) (P.length + 1) c4) (P.length + 1) (ev P ++ ev [v])) :
    Tbx wc (w10.setCell ⟨wc.heap.size, 1, none⟩ (.slice (some ⟨b4, 0, none⟩) (P.length + 1) c4)) kd (some ⟨b4, 0, none⟩) c4 (P ++ [v]) ∧ w10.heap[wc.heap.size]? = some (.cells #[.int .i64 kd, .slice ad P.length cp, .bool false, .bool false] 73 (0, 0)) := by
  have fr : Fr (fun k => some k = (Value.slice ad P.length cp).ownBlock) w w10 := (Fr.of hq).grown hg (fun k e => Or.inl (by simpa using e.symm))
  have hk : w10.heap[wc.heap.size]? = some (.cells #[.int .i64 kd, .slice ad P.length cp, .bool false, .bool false] 73 (0, 0)) := (fr.block wc.heap.size (lt_of_some h.nc) (fun e => by
    obtain ⟨cs, hc⟩ := row_type h.row wc.heap.size e
    rw [h.nc] at hc
    simp at hc)).trans h.nc
  have h1 : (P ++ [v]).length = P.length + 1 := by simp
  have h2 : ev (P ++ [v]) = ev P ++ ev [v] := by simp [ev]
  have f2 : Fr (fun k => some k = (Value.slice ad P.length cp).ownBlock ∨ k = wc.heap.size) w (w10.setCell ⟨wc.heap.size, 1, none⟩ (.slice (some ⟨b4, 0, none⟩) (P.length + 1) c4)) := (fr.mono (fun _ d => Or.inl d)).set wc.heap.size _ _ (Or.inr rfl)
  refine ⟨⟨h.be.trans (f2.below h.be.size (fun k e => by
    rcases e with e | e
    · have := (row_lt h.row k e).1
      omega
    · omega)), ?_, ?_⟩, hk⟩
  · rw [h1]
    simp only [World.setCell, Array.getElem?_modify, if_true, hk, Option.map_some]
    simp
  · rw [h1, h2]
    refine row_keep ho (fun k e => Below.heap_setCell _ _ _ _ (fun e' => ?_))
    have e' : k = wc.heap.size := e'
    obtain ⟨cs, hc⟩ := row_type ho k e
    rw [e', hk] at hc
    simp at hc
def Wrs.nw (s : Wrs) (g : Gfn) (most grow : Int) (r : Nat) (kd : Int) (l : List (Int × Int)) : Int × Wrs :=
  if (s.grow g most grow kd l).2.1 = 0 then (0, { (s.grow g most grow kd l).2.2 with rs := (s.grow g most grow kd l).2.2.rs.set r (s.grow g most grow kd l).1 }) else ((s.grow g most grow kd l).2.1, (s.grow g most grow kd l).2.2)
theorem nw_no {s s1 : Wrs} {g : Gfn} {most grow c : Int} {l : List (Int × Int)} (h : s.room g most grow (1 + l.length) = (c, s1)) (hc : c ≠ 0) (r : Nat) (kd : Int) : s.nw g most grow r kd l = (c, s1) := by
  have e : s.grow g most grow kd l = ((0, 0), c, s1) := by
    unfold Wrs.grow
    rw [h, if_neg hc]
  unfold Wrs.nw
  rw [e, if_neg hc]
theorem nw_yes {s s1 : Wrs} {g : Gfn} {most grow : Int} {l : List (Int × Int)} (h : s.room g most grow (1 + l.length) = (0, s1)) (r : Nat) (kd : Int) : s.nw g most grow r kd l = (0, { s1 with T := s1.T ++ [(kd, l, false, false)], rs := s1.rs.set r (3, (s1.T.length : Int)) }) := by
  have e : s.grow g most grow kd l = ((3, (s1.T.length : Int)), 0, s1.put kd l) := by
    unfold Wrs.grow
    rw [h, if_pos rfl]
  unfold Wrs.nw
  rw [e, if_pos rfl]
  rfl
section
variable {rp rb : Nat} {most grow : Int} {F : Nat → Prop} {s : Wrs} {w : World}

set_option maxRecDepth 100000 in
set_option maxHeartbeats 16000000 in
theorem newQ_any (h : (wrO rp rb most grow).J F s w) (hv : Wcv s) (h0 : 0 ≤ grow) (h1 : grow ≤ 100000) (m0 : 0 ≤ most) (m1 : most ≤ 100000) (g : Gfn) (hg : Gok s.T s.wt (g s.T s.wt)) (r : Nat) (hri : r < 12) (kd : Int) (L : List Nat) (hL : ∀ q ∈ L, q < 12) (hl12 : L.length ≤ 12) (fa : Option Addr) (fc : Nat) (hfa : Fri F w fa L) :
    Calls Tryz.prog 26 #[.pointer (some ⟨rp, 0, none⟩), .int .i64 r, .int .i64 kd, .slice fa L.length fc] w fun e w' => ∃ F', e = .returned (.int .i64 (s.nw g most grow r kd (L.map (fun q => s.rs.getD q (0, 0)))).1) ∧ (wrO rp rb most grow).J F' (s.nw g most grow r kd (L.map (fun q => s.rs.getD q (0, 0)))).2 w' ∧ Tn F w F' w' := by
  have hll : (L.map (fun q => s.rs.getD q (0, 0))).length = L.length := List.length_map ..
  have HNO : Hid (∀ c s1, s.room g most grow (1 + L.length) = (c, s1) → c ≠ 0 → s.nw g most grow r kd (L.map (fun q => s.rs.getD q (0, 0))) = (c, s1)) := fun c s1 e hc => nw_no (by rw [hll]; exact e) hc r kd
  have HYE : Hid (∀ s1, s.room g most grow (1 + L.length) = (0, s1) → s.nw g most grow r kd (L.map (fun q => s.rs.getD q (0, 0))) = (0, { s1 with T := s1.T ++ [(kd, L.map (fun q => s.rs.getD q (0, 0)), false, false)], rs := s1.rs.set r (3, (s1.T.length : Int)) })) := fun s1 e => nw_yes (by rw [hll]; exact e) r kd
  generalize s.nw g most grow r kd (L.map (fun q => s.rs.getD q (0, 0))) = N at *
  obtain ⟨cN, sN⟩ := N
  have PU := usedW_any h hv.t12 hv.tl
  have bd := usd_bd s.T hv.t12
  have htl := hv.tl
  have HRM : Hid (s.room g most grow (1 + L.length) = if (1 + L.length : Int) ≤ most - (usd s.T).1 then (0, s) else (s.ccd (g s.T s.wt) grow (decide (grow - (usd s.T).2 < (usd s.T).1)), s.cut (g s.T s.wt) grow (decide (grow - (usd s.T).2 < (usd s.T).1)))) := rfl
  have HC : Hid (∀ w', (wrO rp rb most grow).J F s w' → Calls Tryz.prog 29 #[.pointer (some ⟨rp, 0, none⟩), .bool (decide (grow - (usd s.T).2 < (usd s.T).1))] w' fun e w'' => ∃ F', e = .returned (.int .i64 (s.ccd (g s.T s.wt) grow (decide (grow - (usd s.T).2 < (usd s.T).1)))) ∧ (wrO rp rb most grow).J F' (s.cut (g s.T s.wt) grow (decide (grow - (usd s.T).2 < (usd s.T).1))) w'' ∧ Tn F w' F' w'') := fun w' hh => cutQ_any hh hv h0 h1 _ _ hg
  have HCR : Hid ((s.cut (g s.T s.wt) grow (decide (grow - (usd s.T).2 < (usd s.T).1))).rs = s.rs ∧ (s.cut (g s.T s.wt) grow (decide (grow - (usd s.T).2 < (usd s.T).1))).T.length = s.T.length) := by
    unfold Wrs.cut
    split
    · exact ⟨rfl, rfl⟩
    · exact ⟨rfl, cuL_len _ _ _⟩
  generalize s.room g most grow (1 + L.length) = RM at *
  generalize hx_ : (usd s.T).1 = x at *
  generalize hy_ : (usd s.T).2 = y at *
  obtain ⟨bd1, bd2, bd3, bd4⟩ := bd
  generalize s.ccd (g s.T s.wt) grow (decide (grow - y < x)) = cc at *
  generalize s.cut (g s.T s.wt) grow (decide (grow - y < x)) = sc at *
  have HJ : Hid ((wrO rp rb most grow).J F s w) := h
  have HFR : Hid (Fri F w fa L) := hfa
  have HL : Hid (∀ q ∈ L, q < 12) := hL
  have hlI : (L.length : Int) ≤ 12 := by omega
  obtain ⟨i0, hi0, hz0, hz1, hz2⟩ := info_parts infoVal
  obtain ⟨j0, hj0, hw0, hw1, hw2⟩ := info_parts infoThing
  clear h hv hg hfa hL hx_ hy_ hll
  go_enter Tryz.func26, Tryz.ntmps26
  go_wp2_with fail
  refine PU.mono ?_
  clear PU
  rintro e w1 ⟨rfl, hb1⟩
  have hJ1 := (wrO rp rb most grow).below HJ.out hb1
  obtain ⟨_, c4, c5, _⟩ := wr_cells hJ1
  have HJ1 : Hid ((wrO rp rb most grow).J F s w1 ∧ Tn F w F w1) := ⟨hJ1, Tn.of hb1⟩
  clear hJ1 hb1 HJ
  go_upto_if 30 with fail
  go_cut [] (fun wc => ∃ (F1 : Nat → Prop) (s1 : Wrs), Hid ((wrO rp rb most grow).J F1 s1 wc ∧ Tn F w F1 wc) ∧ Hid (RM = (0, s1) ∧ s1.rs = s.rs ∧ s1.T.length = s.T.length))
  case first =>
    by_cases hm : (1 + L.length : Int) ≤ most - x
    · have HR : Hid (RM = (0, s)) := by
        show _ = _
        rw [HRM.out, if_pos hm]
      have hm2 : ¬ most - x < 1 + (L.length : Int) := by omega
      clear hm HRM HC HCR
      go_wp2_with fail
      go_meet
      case rel => exact ⟨F, s, HJ1, ⟨HR.out, rfl, rfl⟩⟩
    · have HR : Hid (RM = (cc, sc)) := by
        show _ = _
        rw [HRM.out, if_neg hm]
      have hm2 : most - x < 1 + (L.length : Int) := by omega
      have PC := HC.out w1 HJ1.out.1
      clear hm HRM HC
      go_wp2_with fail
      refine PC.mono ?_
      clear PC
      rintro e w2 ⟨F2, rfl, j2, t2⟩
      have HJ2 : Hid ((wrO rp rb most grow).J F2 sc w2 ∧ Tn F w F2 w2) := ⟨j2, HJ1.out.2.trans t2⟩
      clear j2 t2 HJ1 c4 c5
      by_cases hc : cc = 0
      · subst hc
        go_wp2_with fail
        go_meet
        case rel => exact ⟨F2, sc, HJ2, ⟨HR.out, HCR.out⟩⟩
      · have hne : (cc != 0) = true := by simpa using hc
        have HE : Hid ((cN, sN) = (cc, sc)) := HNO.out cc sc HR.out hc
        obtain ⟨rfl, rfl⟩ : cN = cc ∧ sN = sc := by simpa using HE.out
        clear hc HE
        go_wp2_with fail
        go_ret
        exact ⟨F2, rfl, HJ2.out.1, HJ2.out.2⟩
  case rest =>
    obtain ⟨F1, s1, HJ1, HR⟩ := hcut
    have htl1 : s1.T.length ≤ 10000 := by
      rw [HR.out.2.2]
      exact htl
    have hE := HYE.out s1 HR.out.1
    have ltF : Hid (∀ b, F1 b → b < wc.heap.size) := (wrO rp rb most grow).lt HJ1.out.1
    have hlw : w.heap.size ≤ wc.heap.size := HJ1.out.2.fr.size
    obtain rfl : cN = 0 := congrArg Prod.fst hE
    have hE2 : sN = _ := congrArg Prod.snd hE
    dsimp only at hE2
    have HRS : Hid (s1.rs = s.rs) := HR.out.2.1
    rw [← HRS.out] at hE2
    obtain ⟨vl, HVL⟩ : ∃ vl, Hid (L.map (fun q => s1.rs.getD q (0, 0)) = vl) := ⟨_, rfl⟩
    rw [HVL.out] at hE2
    have ES : Hid (sN = _) := hE2
    have HFC : Hid (∀ w', Below wc.heap.size wc w' → 0 < L.length → ∃ b o, fa = some ⟨b, o, none⟩ ∧ b < w'.heap.size ∧ ∀ i, i < L.length → w'.cell? ⟨b, o + i, none⟩ = some (.int .i64 (L.getD i 0 : Nat))) := fun w' hb hp => by
      obtain ⟨b, o, e, lb, nF, hc⟩ := HFR.out hp
      have lc := Nat.lt_of_lt_of_le lb HJ1.out.2.fr.size
      exact ⟨b, o, e, Nat.lt_of_lt_of_le lc hb.size, fun i hi => (hb.cell (p := ⟨b, o + i, none⟩) lc).trans ((World.cell?_of_block (a := ⟨b, o + i, none⟩) (HJ1.out.2.fr.block b lb nF)).trans (hc i hi))⟩
    have HT0 : Hid (Tbx wc (wc.alloc (.cells #[.int .i64 kd, .slice none 0 0, .bool false, .bool false] 73)) kd none 0 []) := ⟨(Below.refl _ wc).alloc (Nat.le_refl _) _, heap_alloc_new _ _, World.ownsRow_nil _ _ _ _⟩
    clear hE hE2 HR HYE HNO c4 c5 HRM HC HCR HFR
    go_wp2_with fail
    generalize wc.alloc (.cells #[.int .i64 kd, .slice none 0 0, .bool false, .bool false] 73) = wd at *
    go_loopw [14] (fun iv wr => ∃ (j : Nat) (P : List (Int × Int)) (ad : Option Addr) (cp : Nat), j ≤ L.length ∧ iv = .int .i64 j ∧ Hid (P = (L.take j).map (fun q => s1.rs.getD q (0, 0))) ∧ Hid (Tbx wc wr kd ad cp P)) (fun iv _ => L.length - (intOf iv).toNat)
    case atStart => exact ⟨0, [], none, 0, Nat.zero_le _, rfl, rfl, HT0⟩
    case round =>
      clear HT0
      obtain ⟨j, P, ad, cp, hj, rfl, HP, HT⟩ := hrel
      have lt1 : wc.heap.size < wr.heap.size := lt_of_some HT.out.nc
      by_cases hlt : j < L.length
      · obtain ⟨b0, o0, e0, lb0, hc0⟩ := HFC.out wr HT.out.be (by omega)
        subst e0
        have f0 := hc0 j hlt
        have hq12 : L.getD j 0 < 12 := HL.out _ (getD_in hlt)
        have hJr := (wrO rp rb most grow).below HJ1.out.1 HT.out.be
        obtain ⟨c1, _, _, lrp, lrb, _, _, cr⟩ := wr_cells hJr
        obtain ⟨x0, x1, _⟩ := cr (L.getD j 0) hq12
        have HPN : Hid (P ++ [s1.rs.getD (L.getD j 0) (0, 0)] = (L.take (j + 1)).map (fun q => s1.rs.getD q (0, 0))) := by
          show _ = _
          rw [take_snoc L j hlt 0, List.map_append, HP.out]
          rfl
        obtain ⟨v1, v2, hvv⟩ : ∃ v1 v2, s1.rs.getD (L.getD j 0) (0, 0) = (v1, v2) := ⟨_, _, rfl⟩
        rw [hvv] at x0 x1 HPN
        dsimp only at x0 x1
        generalize L.getD j 0 = q at *
        have d1 : wr.cell? ⟨wc.heap.size, 1, none⟩ = some (.slice ad P.length cp) := by simp [World.cell?, HT.out.nc]
        have hPl : P.length ≤ 12 := by
          rw [HP.out, List.length_map, List.length_take]
          omega
        have k0 : (0 : Int) ≤ (j : Int) := by omega
        have k1 : (j : Int) < (L.length : Int) := by omega
        have q0 : (0 : Int) ≤ (q : Int) := by omega
        have q1 : (q : Int) < 12 := by omega
        have HBS : Hid (Below wr.heap.size wr (wr.alloc (.cells #[.int .i64 v1, .int .i64 v2] 54)).drew) := ((Below.refl wr.heap.size wr).alloc (Nat.le_refl _) _).drew
        have HSd : Hid ((wr.alloc (.cells #[.int .i64 v1, .int .i64 v2] 54)).drew.ownsRow (wc.heap.size + 1) 54 2 (.slice ad P.length cp) P.length (ev P)) := row_keep (row_alloc HT.out.row _) (fun _ _ => rfl)
        clear hc0 hJr cr hvv HP
        go_wp2_with fail
        go_region_law (refine step_append_lies _ rfl (.tmp 53) (.tmp 64) 38 rfl (wc.heap.size + 1) 54 i0 (.agg #[.int .i64 0, .int .i64 0]) 2 16 Tryz.underlying38 hi0 hz0 hz1 hz2 rfl (by decide) (.slice ad P.length cp) P.length (ev P) (by simp [Act.eval]) HSd.out ⟨wr.heap.size, 0, none⟩ 1 1 [.int .i64 v1, .int .i64 v2] (by simp [Act.eval]) rfl ?_ ?_ (by decide) (by unfold maxLen; omega) (by omega) (by simp; omega) _ rfl ?_; (intro j u hj; match j, hj with | 0, hj => (simp at hj; subst hj; simp [Addr.add]) | 1, hj => (simp at hj; subst hj; simp [Addr.add])); (intro u hu; simp at hu; rcases hu with hu | hu <;> (subst hu; rfl)); intro b4 cap4 w4 hown4 hgrow4 _ _; have HP4 : Hid (Tbx wc (w4.setCell ⟨wc.heap.size, 1, none⟩ (.slice (some ⟨b4, 0, none⟩) (P.length + 1) cap4)) kd (some ⟨b4, 0, none⟩) cap4 (P ++ [(v1, v2)]) ∧ w4.heap[wc.heap.size]? = some (.cells #[.int .i64 kd, .slice ad P.length cp, .bool false, .bool false] 73 (0, 0))) := (HT.out.push HBS.out hgrow4 (by simpa [ev] using hown4)); have s0 : w4.cell? ⟨wc.heap.size, 1, none⟩ = some (.slice ad P.length cp) := (by simp [World.cell?, HP4.out.2]); have s1_ : w4.frozen? ⟨wc.heap.size, 1, none⟩ = false := (by simp [World.frozen?, HP4.out.2]))
        all_goals
          clear hown4 hgrow4
          go_wp2_with fail
          go_roundw
          case rel => exact ⟨j + 1, P ++ [(v1, v2)], some ⟨b4, 0, none⟩, cap4, by omega, by go_num, HPN, HP4.out.1⟩
          case measure => simp [intOf]; omega
      · obtain rfl : j = L.length := by omega
        rw [List.take_length, HVL.out] at HP
        have hP := HP.out
        subst hP
        obtain ⟨hb, ht, hR⟩ := HT.out
        have hJr := (wrO rp rb most grow).below HJ1.out.1 hb
        generalize P = vl at *
        clear HVL HFC HT HRS
        obtain ⟨c1, _, _, lrp, lrb, cz, hrl, cr⟩ := wr_cells hJr
        obtain ⟨x0, x1, y0, y1⟩ := cr r hri
        obtain ⟨mm, vT, hmm, cT, hrow, ⟨rn1, rn2⟩, hvF, _, _⟩ := wr_row hJr
        have eml : mm.length = s1.T.length := by rw [← hmm]; simp
        obtain ⟨aT0, capT0, eT⟩ := row_slice hrow
        subst eT
        rw [eml] at cT
        have nrb : rb ≠ rp := fun e => by
          obtain ⟨own, m2, vT2, v22, v32, hM, _⟩ := hJr
          have h1 := hM.r1
          rw [e, hM.b1] at h1
          omega
        have HJr : Hid ((wrO rp rb most grow).J F1 s1 wr ∧ Tn F w F1 wr) := ⟨hJr, HJ1.out.2.below hb⟩
        have HT : Hid (wr.heap[wc.heap.size]? = some (.cells #[.int .i64 kd, .slice ad vl.length cp, .bool false, .bool false] 73 (0, 0)) ∧ wr.ownsRow (wc.heap.size + 1) 54 2 (.slice ad vl.length cp) vl.length (ev vl) ∧ wc.heap.size ≤ wr.heap.size) := ⟨ht, hR, hb.size⟩
        have i0' : (0 : Int) ≤ (r : Int) := by omega
        have i1' : (r : Int) < 12 := by omega
        clear hJr cr cz hvF hrow ht hR hb HJ1 hmm
        go_wp2_with fail
        go_region_held3 (fun w' => w'.cell? ⟨rp, 1, none⟩ = some (.slice (some ⟨rb, 0, none⟩) 12 12) ∧ w'.cell? ⟨rp, 0, none⟩ = some (.slice aT0 s1.T.length capT0)) (go_keep) (fail)
        obtain ⟨hJ2, hT2⟩ := wr_root HJr.out.1 r (3, (s1.T.length : Int))
        have nlt : rb ≠ wc.heap.size := fun e => by
          have h1 := ltF.out rb (by
            obtain ⟨own, m2, vT2, v22, v32, hM, hF2⟩ := HJr.out.1
            exact (hF2 rb).2 (by rw [hM.r1]; decide))
          omega
        have hfr2 : Fr (fun b => b = rb) wr ((wr.setCell ⟨rb, r * 2, none⟩ (.int .i64 3)).setCell ⟨rb, r * 2 + 1, none⟩ (.int .i64 s1.T.length)).drew := (((Fr.refl (fun b => b = rb) wr).set rb _ _ rfl).set rb _ _ rfl).drew
        have hJ5 := (wrO rp rb most grow).below hJ2 (Below.refl _ _).drew
        have hT5 := (HJr.out.2.trans hT2).below (Below.refl _ _).drew
        dsimp only at hJ5 hT5
        have ht5 := (hfr2.block wc.heap.size lt1 (fun e => nlt e.symm)).trans HT.out.1
        have hrbF : F1 rb := by
          obtain ⟨own, m2, vT2, v22, v32, hM, hF2⟩ := HJr.out.1
          exact (hF2 rb).2 (by rw [hM.r1]; decide)
        have hR5 := row_fr HT.out.2.1 hfr2 (fun b e e' => by
          have h1 := (row_lt HT.out.2.1 b e).1
          have h2 := ltF.out b (by rw [e']; exact hrbF)
          omega)
        have hsz5 := hfr2.size
        have e05 := (World.cell?_of_block (a := ⟨rp, 0, none⟩) (hfr2.block rp lrp (fun e => nrb e.symm))).trans cT
        generalize ((wr.setCell ⟨rb, r * 2, none⟩ (.int .i64 3)).setCell ⟨rb, r * 2 + 1, none⟩ (.int .i64 s1.T.length)).drew = w5 at *
        clear hJ2 hT2 x0 x1 y0 y1 cT c1
        obtain ⟨mm, vT, hmm, cT, hrow, ⟨rn1, rn2⟩, hvF, hadd, _⟩ := wr_row hJ5
        have eml : mm.length = s1.T.length := by rw [← List.length_map (f := fun x => x.1), hmm]
        obtain rfl : vT = .slice aT0 s1.T.length capT0 := by
          have := cT.symm.trans e05
          simpa using this
        rw [eml] at hrow
        have HEM : Hid (mm.length = s1.T.length) := eml
        clear eml
        obtain ⟨_, _, _, lrp5, _, cz5, _⟩ := wr_cells hJ5
        have z0 := cz5 0
        have t0 : w5.cell? ⟨wc.heap.size, 0, none⟩ = some (.int .i64 kd) := by simp [World.cell?, ht5]
        have t1 : w5.cell? ⟨wc.heap.size, 1, none⟩ = some (.slice ad vl.length cp) := by simp [World.cell?, ht5]
        have t2 : w5.cell? ⟨wc.heap.size, 2, none⟩ = some (.bool false) := by simp [World.cell?, ht5]
        have t3 : w5.cell? ⟨wc.heap.size, 3, none⟩ = some (.bool false) := by simp [World.cell?, ht5]
        have lt5 := lt_of_some ht5
        have hbd := ((Below.refl w5.heap.size w5).alloc (Nat.le_refl _) (.cells #[.int .i64 kd, .slice ad vl.length cp, .bool false, .bool false] 73)).drew
        have HSd : Hid ((w5.alloc (.cells #[.int .i64 kd, .slice ad vl.length cp, .bool false, .bool false] 73)).drew.ownsRow 0 73 4 (.slice aT0 s1.T.length capT0) s1.T.length (tv mm)) := row_keep (row_alloc hrow _) (fun _ _ => rfl)
        have HJ5 : Hid ((wrO rp rb most grow).J F1 { s1 with rs := s1.rs.set r (3, (s1.T.length : Int)) } w5 ∧ Tn F w F1 w5) := ⟨hJ5, hT5⟩
        have HA := hadd
        have HR5 : Hid (w5.ownsRow (wc.heap.size + 1) 54 2 (.slice ad vl.length cp) vl.length (ev vl) ∧ w5.ownsRow 0 73 4 (.slice aT0 s1.T.length capT0) s1.T.length (tv mm) ∧ ∀ b, some b = (Value.slice aT0 s1.T.length capT0).ownBlock → F1 b) := ⟨hR5, hrow, hvF⟩
        have HA : Hid (∀ (x : Tnd) (v1 : Value) (w9 : World), Fr (fun b => some b = (Value.slice aT0 s1.T.length capT0).ownBlock) w5 w9 → w9.ownsRow 0 73 4 v1 (mm ++ [x]).length (tv (mm ++ [x])) → (∀ b, some b = v1.ownBlock → some b = (Value.slice aT0 s1.T.length capT0).ownBlock ∨ w5.heap.size ≤ b) → Lp w9 x.2.1 x.1.2.1 → (∀ b o, 0 < x.1.2.1.length → x.2.1 = some ⟨b, o, none⟩ → ¬ F1 b ∧ some b ≠ v1.ownBlock) →
            (wrO rp rb most grow).J (fun b => F1 b ∨ some b = v1.ownBlock ∨ (0 < x.1.2.1.length ∧ ∃ o, x.2.1 = some ⟨b, o, none⟩)) { s1 with rs := s1.rs.set r (3, (s1.T.length : Int)), T := s1.T ++ [x.1] } (w9.setCell ⟨rp, 0, none⟩ v1) ∧ Fr F1 w5 (w9.setCell ⟨rp, 0, none⟩ v1)) := hadd
        clear hadd hrow hvF hJ5 hT5 ht5 hR5 cz5 hmm HT hfr2 HJr
        go_wp2_with fail
        go_region_law (refine step_append_lies _ rfl (.tmp 83) (.tmp 85) 57 rfl 0 73 j0 (.agg #[.int .i64 0, .slice none 0 0, .bool false, .bool false]) 4 40 Tryz.underlying57 hj0 hw0 hw1 hw2 rfl (by decide) (.slice aT0 s1.T.length capT0) s1.T.length (tv mm) (by simp [Act.eval]) HSd.out ⟨w5.heap.size, 0, none⟩ 1 1 [.int .i64 kd, .slice ad vl.length cp, .bool false, .bool false] (by simp [Act.eval]) rfl ?_ ?_ (by decide) (by unfold maxLen; omega) (by omega) (by simp) _ rfl ?_; (intro j u hj; match j, hj with | 0, hj => (simp at hj; subst hj; simp [Addr.add]) | 1, hj => (simp at hj; subst hj; simp [Addr.add]) | 2, hj => (simp at hj; subst hj; simp [Addr.add]) | 3, hj => (simp at hj; subst hj; simp [Addr.add])); (intro u hu; simp at hu; rcases hu with hu | hu | hu <;> (subst hu; rfl)); intro b4 cap4 w4 hown4 hgrow4 hat4 hlt4; have d4 := hgrow4.cell (a := ⟨rp, 0, none⟩) (v := .slice aT0 s1.T.length capT0) ((hbd.cell (p := ⟨rp, 0, none⟩) lrp5).trans cT) rn1; have f4 : w4.frozen? ⟨rp, 0, none⟩ = false := (World.frozen?_of_block (a := ⟨rp, 0, none⟩) (hgrow4.block _ (Nat.lt_of_lt_of_le lrp5 hbd.size) rn1)).trans ((hbd.frozen (p := ⟨rp, 0, none⟩) lrp5).trans z0))
        all_goals
          have HF : Hid (∃ F1', (wrO rp rb most grow).J F1' sN (w4.setCell ⟨rp, 0, none⟩ (.slice (some ⟨b4, 0, none⟩) (s1.T.length + 1) cap4)) ∧ Tn F w F1' (w4.setCell ⟨rp, 0, none⟩ (.slice (some ⟨b4, 0, none⟩) (s1.T.length + 1) cap4))) := by
            have hsz4 := hgrow4.size
            simp at hsz4
            have hat : some b4 = (Value.slice aT0 s1.T.length capT0).ownBlock ∨ b4 = w5.heap.size + 1 := hat4.imp Eq.symm (fun e => by simpa using e)
            have hfr4 : Fr (fun b => some b = (Value.slice aT0 s1.T.length capT0).ownBlock) w5 w4 := (((Fr.refl _ w5).alloc _).drew).grown hgrow4 (fun b e => Or.inl e.symm)
            have hR4 := row_fr HR5.out.1 hfr4 (fun b e e' => by
              have h1 := (row_lt HR5.out.1 b e).1
              have h2 := ltF.out b (HR5.out.2.2 b e')
              omega)
            obtain ⟨h1, h2⟩ := HA.out ((kd, vl, false, false), ad, cp) (.slice (some ⟨b4, 0, none⟩) (s1.T.length + 1) cap4) w4 hfr4 (by
                rw [tv_append, List.length_append, HEM.out]
                simpa [tv] using hown4) (fun b e => by
                simp [Value.ownBlock] at e
                subst e
                exact hat.imp id (fun e => by omega)) (row_pairs (by simpa using hR4)) (fun b o hp e => by
                dsimp only at hp e
                have e2 : some b = (Value.slice ad vl.length cp).ownBlock := by
                  obtain ⟨b', c', e'⟩ := row_shape HR5.out.1 hp
                  cases e'
                  cases e
                  rfl
                have h3 := row_lt HR5.out.1 b e2
                refine ⟨fun d => by have := ltF.out b d; omega, fun e3 => ?_⟩
                simp [Value.ownBlock] at e3
                subst e3
                rcases hat with e4 | e4
                · have := ltF.out _ (HR5.out.2.2 _ e4)
                  omega
                · omega)
            rw [ES.out]
            refine ⟨_, h1, ⟨HJ5.out.2.fr.trans h2 HJ5.out.2.sub, fun b d => ?_⟩⟩
            rcases d with d | d | ⟨hp, o, e⟩
            · exact HJ5.out.2.sub b d
            · simp [Value.ownBlock] at d
              subst d
              rcases hat with e4 | e4
              · exact HJ5.out.2.sub _ (HR5.out.2.2 _ e4)
              · exact Or.inr (by have := HJ5.out.2.fr.size; omega)
            · dsimp only at hp e
              obtain ⟨b', c', e'⟩ := row_shape HR5.out.1 hp
              cases e'
              cases e
              have h3 := (row_lt HR5.out.1 b rfl).1
              have h4 := hlw
              exact Or.inr (by omega)
          clear hown4 hgrow4 hat4 HA HR5
          go_wp2_with fail
          go_ret
          obtain ⟨F1', j1, j2⟩ := HF.out
          exact ⟨F1', rfl, j1, j2⟩
end

end Go.Proofs.YtogknhogphkddaaGreat

/- The document's world: Do, whatever the step: new things: contracts. -/
namespace Go.Proofs.YtogknhogphkddaaGreat
open Go.RowKit W Kp Stl

section
variable {rp rb : Nat} {most grow : Int} {F : Nat → Prop} {s : Wrs} {w : World}

set_option maxRecDepth 100000 in
set_option maxHeartbeats 2000000 in
theorem doQ_pair (h : (wrO rp rb most grow).J F s w) (hv : Wcv s) (h0 : 0 ≤ grow) (h1 : grow ≤ 100000) (m0 : 0 ≤ most) (m1 : most ≤ 100000) (g : Gfn) (hg : Gok s.T s.wt (g s.T s.wt)) (R A B : Nat) (hR : R < 12) (hA : A < 12) (hB : B < 12) (I n : Int) (hP : SFk 4 R A B I n) :
    Calls Tryz.prog 9 #[.pointer (some ⟨rp, 0, none⟩), stpV 4 R A B I n] w fun e w' => ∃ F', e = .returned (.int .i64 (s.nw g most grow R 1 [s.rs.getD A (0, 0), s.rs.getD B (0, 0)]).1) ∧ (wrO rp rb most grow).J F' (s.nw g most grow R 1 [s.rs.getD A (0, 0), s.rs.getD B (0, 0)]).2 w' ∧ Tn F w F' w' := by
  have HN : Hid (∀ (W : World) (b : Nat), (wrO rp rb most grow).J F s W → Fri F W (some ⟨b, 0, none⟩) [A, B] → Calls Tryz.prog 26 #[.pointer (some ⟨rp, 0, none⟩), .int .i64 R, .int .i64 1, .slice (some ⟨b, 0, none⟩) 2 2] W fun e w' => ∃ F', e = .returned (.int .i64 (s.nw g most grow R 1 [s.rs.getD A (0, 0), s.rs.getD B (0, 0)]).1) ∧ (wrO rp rb most grow).J F' (s.nw g most grow R 1 [s.rs.getD A (0, 0), s.rs.getD B (0, 0)]).2 w' ∧ Tn F W F' w') := fun W b hW hf => newQ_any hW hv h0 h1 m0 m1 g hg R hR 1 [A, B] (fun q hq => by
    simp at hq
    omega) (by simp) (some ⟨b, 0, none⟩) 2 hf
  clear hv h0 h1 m0 m1 hg
  generalize (s.nw g most grow R 1 [s.rs.getD A (0, 0), s.rs.getD B (0, 0)]) = N at *
  obtain ⟨cN, sN⟩ := N
  dsimp only at HN ⊢
  have hb0 := (Below.refl w.heap.size w).alloc (Nat.le_refl _) (stpC 4 R A B I n)
  have P := hP (w.alloc (stpC 4 R A B I n))
  have HJ : Hid ((wrO rp rb most grow).J F s w ∧ Below w.heap.size w (w.alloc (stpC 4 R A B I n))) := ⟨h, hb0⟩
  clear h hb0 hP
  go_enter Tryz.func9, Tryz.ntmps9
  go_wp2_with fail
  refine P.mono ?_
  clear P
  rintro e w1 ⟨rfl, hb1⟩
  have hb := HJ.out.2.trans (hb1.mono (by simp))
  have hJ1 := (wrO rp rb most grow).below HJ.out.1 hb
  have hx : w1.heap[w.heap.size]? = some (stpC 4 R A B I n) := (hb1.block _ (by simp)).trans (heap_alloc_new _ _)
  obtain ⟨q0, q1, q2, q3, q4, q5⟩ := hs_cells hx
  have hb2 := (Below.refl w1.heap.size w1).alloc (Nat.le_refl _) (.cells #[.int .i64 (A : Int), .int .i64 (B : Int)] 3)
  have hc2 := heap_alloc_new w1 (.cells #[.int .i64 (A : Int), .int .i64 (B : Int)] 3)
  have ls1 : w1.heap.size < (w1.alloc (.cells #[.int .i64 (A : Int), .int .i64 (B : Int)] 3)).heap.size := by simp
  have PC := HN.out _ w1.heap.size ((wrO rp rb most grow).below hJ1 hb2) (fun _ => ⟨w1.heap.size, 0, rfl, ls1, fun hF => by have := (wrO rp rb most grow).lt hJ1 _ hF; omega, fun i hi => by
    have hi : i < 2 := hi
    unfold World.cell?
    rw [hc2]
    match i, hi with
    | 0, _ => rfl
    | 1, _ => rfl⟩)
  have HT : Hid (Tn F w F (w1.alloc (.cells #[.int .i64 (A : Int), .int .i64 (B : Int)] 3))) := (Tn.of hb).below hb2
  clear hJ1 hb hb1 hx HJ HN hb2 hc2 ls1
  go_wp2_with fail
  refine PC.mono ?_
  clear PC
  rintro e w2 ⟨F2, rfl, j2, t2⟩
  have HR : Hid ((wrO rp rb most grow).J F2 sN w2 ∧ Tn F w F2 w2) := ⟨j2, HT.out.trans t2⟩
  clear j2 t2 HT q0 q1 q2 q3 q4 q5
  go_wp2_with fail
  go_ret
  exact ⟨F2, rfl, HR.out.1, HR.out.2⟩

set_option maxRecDepth 100000 in
set_option maxHeartbeats 2000000 in
theorem doQ_weak (h : (wrO rp rb most grow).J F s w) (hv : Wcv s) (h0 : 0 ≤ grow) (h1 : grow ≤ 100000) (m0 : 0 ≤ most) (m1 : most ≤ 100000) (g : Gfn) (hg : Gok s.T s.wt (g s.T s.wt)) (R A B : Nat) (hR : R < 12) (hA : A < 12) (hB : B < 12) (I n : Int) (hP : SFk 6 R A B I n) :
    Calls Tryz.prog 9 #[.pointer (some ⟨rp, 0, none⟩), stpV 6 R A B I n] w fun e w' => ∃ F', e = .returned (.int .i64 (s.nw g most grow R 3 [s.rs.getD A (0, 0), s.rs.getD B (0, 0)]).1) ∧ (wrO rp rb most grow).J F' (s.nw g most grow R 3 [s.rs.getD A (0, 0), s.rs.getD B (0, 0)]).2 w' ∧ Tn F w F' w' := by
  have HN : Hid (∀ (W : World) (b : Nat), (wrO rp rb most grow).J F s W → Fri F W (some ⟨b, 0, none⟩) [A, B] → Calls Tryz.prog 26 #[.pointer (some ⟨rp, 0, none⟩), .int .i64 R, .int .i64 3, .slice (some ⟨b, 0, none⟩) 2 2] W fun e w' => ∃ F', e = .returned (.int .i64 (s.nw g most grow R 3 [s.rs.getD A (0, 0), s.rs.getD B (0, 0)]).1) ∧ (wrO rp rb most grow).J F' (s.nw g most grow R 3 [s.rs.getD A (0, 0), s.rs.getD B (0, 0)]).2 w' ∧ Tn F W F' w') := fun W b hW hf => newQ_any hW hv h0 h1 m0 m1 g hg R hR 3 [A, B] (fun q hq => by
    simp at hq
    omega) (by simp) (some ⟨b, 0, none⟩) 2 hf
  clear hv h0 h1 m0 m1 hg
  generalize (s.nw g most grow R 3 [s.rs.getD A (0, 0), s.rs.getD B (0, 0)]) = N at *
  obtain ⟨cN, sN⟩ := N
  dsimp only at HN ⊢
  have hb0 := (Below.refl w.heap.size w).alloc (Nat.le_refl _) (stpC 6 R A B I n)
  have P := hP (w.alloc (stpC 6 R A B I n))
  have HJ : Hid ((wrO rp rb most grow).J F s w ∧ Below w.heap.size w (w.alloc (stpC 6 R A B I n))) := ⟨h, hb0⟩
  clear h hb0 hP
  go_enter Tryz.func9, Tryz.ntmps9
  go_wp2_with fail
  refine P.mono ?_
  clear P
  rintro e w1 ⟨rfl, hb1⟩
  have hb := HJ.out.2.trans (hb1.mono (by simp))
  have hJ1 := (wrO rp rb most grow).below HJ.out.1 hb
  have hx : w1.heap[w.heap.size]? = some (stpC 6 R A B I n) := (hb1.block _ (by simp)).trans (heap_alloc_new _ _)
  obtain ⟨q0, q1, q2, q3, q4, q5⟩ := hs_cells hx
  have hb2 := (Below.refl w1.heap.size w1).alloc (Nat.le_refl _) (.cells #[.int .i64 (A : Int), .int .i64 (B : Int)] 3)
  have hc2 := heap_alloc_new w1 (.cells #[.int .i64 (A : Int), .int .i64 (B : Int)] 3)
  have ls1 : w1.heap.size < (w1.alloc (.cells #[.int .i64 (A : Int), .int .i64 (B : Int)] 3)).heap.size := by simp
  have PC := HN.out _ w1.heap.size ((wrO rp rb most grow).below hJ1 hb2) (fun _ => ⟨w1.heap.size, 0, rfl, ls1, fun hF => by have := (wrO rp rb most grow).lt hJ1 _ hF; omega, fun i hi => by
    have hi : i < 2 := hi
    unfold World.cell?
    rw [hc2]
    match i, hi with
    | 0, _ => rfl
    | 1, _ => rfl⟩)
  have HT : Hid (Tn F w F (w1.alloc (.cells #[.int .i64 (A : Int), .int .i64 (B : Int)] 3))) := (Tn.of hb).below hb2
  clear hJ1 hb hb1 hx HJ HN hb2 hc2 ls1
  go_wp2_with fail
  refine PC.mono ?_
  clear PC
  rintro e w2 ⟨F2, rfl, j2, t2⟩
  have HR : Hid ((wrO rp rb most grow).J F2 sN w2 ∧ Tn F w F2 w2) := ⟨j2, HT.out.trans t2⟩
  clear j2 t2 HT q0 q1 q2 q3 q4 q5
  go_wp2_with fail
  go_ret
  exact ⟨F2, rfl, HR.out.1, HR.out.2⟩

set_option maxRecDepth 100000 in
set_option maxHeartbeats 2000000 in
theorem doQ_eph (h : (wrO rp rb most grow).J F s w) (hv : Wcv s) (h0 : 0 ≤ grow) (h1 : grow ≤ 100000) (m0 : 0 ≤ most) (m1 : most ≤ 100000) (g : Gfn) (hg : Gok s.T s.wt (g s.T s.wt)) (R A B : Nat) (hR : R < 12) (hA : A < 12) (hB : B < 12) (I n : Int) (hP : SFk 7 R A B I n) :
    Calls Tryz.prog 9 #[.pointer (some ⟨rp, 0, none⟩), stpV 7 R A B I n] w fun e w' => ∃ F', e = .returned (.int .i64 (s.nw g most grow R 4 [s.rs.getD A (0, 0), s.rs.getD B (0, 0)]).1) ∧ (wrO rp rb most grow).J F' (s.nw g most grow R 4 [s.rs.getD A (0, 0), s.rs.getD B (0, 0)]).2 w' ∧ Tn F w F' w' := by
  have HN : Hid (∀ (W : World) (b : Nat), (wrO rp rb most grow).J F s W → Fri F W (some ⟨b, 0, none⟩) [A, B] → Calls Tryz.prog 26 #[.pointer (some ⟨rp, 0, none⟩), .int .i64 R, .int .i64 4, .slice (some ⟨b, 0, none⟩) 2 2] W fun e w' => ∃ F', e = .returned (.int .i64 (s.nw g most grow R 4 [s.rs.getD A (0, 0), s.rs.getD B (0, 0)]).1) ∧ (wrO rp rb most grow).J F' (s.nw g most grow R 4 [s.rs.getD A (0, 0), s.rs.getD B (0, 0)]).2 w' ∧ Tn F W F' w') := fun W b hW hf => newQ_any hW hv h0 h1 m0 m1 g hg R hR 4 [A, B] (fun q hq => by
    simp at hq
    omega) (by simp) (some ⟨b, 0, none⟩) 2 hf
  clear hv h0 h1 m0 m1 hg
  generalize (s.nw g most grow R 4 [s.rs.getD A (0, 0), s.rs.getD B (0, 0)]) = N at *
  obtain ⟨cN, sN⟩ := N
  dsimp only at HN ⊢
  have hb0 := (Below.refl w.heap.size w).alloc (Nat.le_refl _) (stpC 7 R A B I n)
  have P := hP (w.alloc (stpC 7 R A B I n))
  have HJ : Hid ((wrO rp rb most grow).J F s w ∧ Below w.heap.size w (w.alloc (stpC 7 R A B I n))) := ⟨h, hb0⟩
  clear h hb0 hP
  go_enter Tryz.func9, Tryz.ntmps9
  go_wp2_with fail
  refine P.mono ?_
  clear P
  rintro e w1 ⟨rfl, hb1⟩
  have hb := HJ.out.2.trans (hb1.mono (by simp))
  have hJ1 := (wrO rp rb most grow).below HJ.out.1 hb
  have hx : w1.heap[w.heap.size]? = some (stpC 7 R A B I n) := (hb1.block _ (by simp)).trans (heap_alloc_new _ _)
  obtain ⟨q0, q1, q2, q3, q4, q5⟩ := hs_cells hx
  have hb2 := (Below.refl w1.heap.size w1).alloc (Nat.le_refl _) (.cells #[.int .i64 (A : Int), .int .i64 (B : Int)] 3)
  have hc2 := heap_alloc_new w1 (.cells #[.int .i64 (A : Int), .int .i64 (B : Int)] 3)
  have ls1 : w1.heap.size < (w1.alloc (.cells #[.int .i64 (A : Int), .int .i64 (B : Int)] 3)).heap.size := by simp
  have PC := HN.out _ w1.heap.size ((wrO rp rb most grow).below hJ1 hb2) (fun _ => ⟨w1.heap.size, 0, rfl, ls1, fun hF => by have := (wrO rp rb most grow).lt hJ1 _ hF; omega, fun i hi => by
    have hi : i < 2 := hi
    unfold World.cell?
    rw [hc2]
    match i, hi with
    | 0, _ => rfl
    | 1, _ => rfl⟩)
  have HT : Hid (Tn F w F (w1.alloc (.cells #[.int .i64 (A : Int), .int .i64 (B : Int)] 3))) := (Tn.of hb).below hb2
  clear hJ1 hb hb1 hx HJ HN hb2 hc2 ls1
  go_wp2_with fail
  refine PC.mono ?_
  clear PC
  rintro e w2 ⟨F2, rfl, j2, t2⟩
  have HR : Hid ((wrO rp rb most grow).J F2 sN w2 ∧ Tn F w F2 w2) := ⟨j2, HT.out.trans t2⟩
  clear j2 t2 HT q0 q1 q2 q3 q4 q5
  go_wp2_with fail
  go_ret
  exact ⟨F2, rfl, HR.out.1, HR.out.2⟩

set_option maxRecDepth 100000 in
set_option maxHeartbeats 2000000 in
theorem doQ_guard (h : (wrO rp rb most grow).J F s w) (hv : Wcv s) (h0 : 0 ≤ grow) (h1 : grow ≤ 100000) (m0 : 0 ≤ most) (m1 : most ≤ 100000) (g : Gfn) (hg : Gok s.T s.wt (g s.T s.wt)) (R : Nat) (hR : R < 12) (A B I n : Int) (hP : SFk 8 R A B I n) :
    Calls Tryz.prog 9 #[.pointer (some ⟨rp, 0, none⟩), stpV 8 R A B I n] w fun e w' => ∃ F', e = .returned (.int .i64 (s.nw g most grow R 5 []).1) ∧ (wrO rp rb most grow).J F' (s.nw g most grow R 5 []).2 w' ∧ Tn F w F' w' := by
  have HN : Hid (∀ (W : World), (wrO rp rb most grow).J F s W → Calls Tryz.prog 26 #[.pointer (some ⟨rp, 0, none⟩), .int .i64 R, .int .i64 5, .slice none 0 0] W fun e w' => ∃ F', e = .returned (.int .i64 (s.nw g most grow R 5 []).1) ∧ (wrO rp rb most grow).J F' (s.nw g most grow R 5 []).2 w' ∧ Tn F W F' w') := fun W hW => newQ_any hW hv h0 h1 m0 m1 g hg R hR 5 [] (fun q hq => by cases hq) (by simp) none 0 (fun h => absurd h (by simp))
  clear hv h0 h1 m0 m1 hg
  generalize (s.nw g most grow R 5 []) = N at *
  obtain ⟨cN, sN⟩ := N
  dsimp only at HN ⊢
  have hb0 := (Below.refl w.heap.size w).alloc (Nat.le_refl _) (stpC 8 R A B I n)
  have P := hP (w.alloc (stpC 8 R A B I n))
  have HJ : Hid ((wrO rp rb most grow).J F s w ∧ Below w.heap.size w (w.alloc (stpC 8 R A B I n))) := ⟨h, hb0⟩
  clear h hb0 hP
  go_enter Tryz.func9, Tryz.ntmps9
  go_wp2_with fail
  refine P.mono ?_
  clear P
  rintro e w1 ⟨rfl, hb1⟩
  have hb := HJ.out.2.trans (hb1.mono (by simp))
  have hJ1 := (wrO rp rb most grow).below HJ.out.1 hb
  have hx : w1.heap[w.heap.size]? = some (stpC 8 R A B I n) := (hb1.block _ (by simp)).trans (heap_alloc_new _ _)
  obtain ⟨q0, q1, q2, q3, q4, q5⟩ := hs_cells hx
  have PC := HN.out w1 hJ1
  have HT : Hid (Tn F w F w1) := Tn.of hb
  clear hJ1 hb hb1 hx HJ HN
  go_wp2_with fail
  refine PC.mono ?_
  clear PC
  rintro e w2 ⟨F2, rfl, j2, t2⟩
  have HR : Hid ((wrO rp rb most grow).J F2 sN w2 ∧ Tn F w F2 w2) := ⟨j2, HT.out.trans t2⟩
  clear j2 t2 HT q0 q1 q2 q3 q4 q5
  go_wp2_with fail
  go_ret
  exact ⟨F2, rfl, HR.out.1, HR.out.2⟩
end

end Go.Proofs.YtogknhogphkddaaGreat
