/- Joined: Wr8, Wr5, Ws1, Ws2, Ws3. -/
import Derived.Test.YtnalfnlmaallmaaGreatJ16
import Derived.Test.YtnalfnlmaallmaaGreatJ15
import Derived.Test.YtnalfnlmaallmaaGreatJ32
import Derived.Test.YtnalfnlmaallmaaGreatJ36
import Derived.Test.YtnalfnlmaallmaaGreatJ06
import Derived.Test.YtnalfnlmaallmaaGreatJ34
namespace Go.Proofs.YtnalfnlmaallmaaGreat
set_option maxRecDepth 100000
set_option maxHeartbeats 2000000
open Go.RowKit W Kp Stl
section
variable {rp rb : Nat} {most grow : Int} {F : Nat -> Prop} {s : Wrs} {w : World}
theorem doGet_any (h : (wrO rp rb most grow).J F s w) (R A : Nat) (hR : R < 12) (hA : A < 12) (I : Int) (hth : 0 <= s.th A -> s.th A < s.T.length) (hT : ∀ t ∈ s.T, t.2.1.length <= 12) (hl : s.T.length <= 10000) :
  Calls Tryz.prog 26 #[.pointer (some ⟨rp, 0, none⟩), stpV 11 R A 0 I 0] w fun e w' => e = .returned (.int .i64 (s.gc A I)) /\ (wrO rp rb most grow).J F (if s.gc A I = 0 then { s with rs := s.rs.set R (s.gf A I) } else s) w' /\ Tn F w F w' := by
 have hb0 := (Below.refl w.heap.size w).alloc (Nat.le_refl _) (stpC 11 R A 0 I 0)
 have P := stepFault_any 11 R A 0 I 0 (Or.inr (Or.inr (Or.inr (Or.inl rfl)))) ⟨by omega, by omega⟩ ⟨by omega, by omega⟩ ⟨by omega, by omega⟩ (w.alloc (stpC 11 R A 0 I 0))
 have e1 : sfC 11 0 = 0 := rfl
 rw [e1] at P
 have HJ : Hid ((wrO rp rb most grow).J F s w /\ Below w.heap.size w (w.alloc (stpC 11 R A 0 I 0))) := ⟨h, hb0⟩
 have HGC : Hid (s.gc A I = if s.th A < 0 \/ (s.T.getD (s.th A).toNat (0, [], false, false)).1 = 5 then 2 else if I < 0 \/ ((s.T.getD (s.th A).toNat (0, [], false, false)).2.1.length : Int) <= I then 1 else 0) := rfl
 have HGF : Hid (s.gf A I = (s.T.getD (s.th A).toNat (0, [], false, false)).2.1.getD I.toNat (0, 0)) := rfl
 clear h hb0 e1
 generalize s.gc A I = z at HGC ⊢
 generalize s.gf A I = fv at HGF ⊢
 have PT := fun w' (hh : (wrO rp rb most grow).J F s w') => thingW_any hh A hA
 generalize s.th A = a at *
 go_enter Tryz.func26, Tryz.ntmps26
 go_wp2_with fail
 refine P.mono ?_
 clear P
 rintro e w1 ⟨rfl, hb1⟩
 have hb := HJ.out.2.trans (hb1.mono (by simp))
 have hJ1 := (wrO rp rb most grow).below HJ.out.1 hb
 have hx : w1.heap[w.heap.size]? = some (stpC 11 R A 0 I 0) := (hb1.block _ (by simp)).trans (heap_alloc_new _ _)
 have q0 : w1.cell? ⟨w.heap.size, 0, none⟩ = some (.int .i64 11) := by simp [World.cell?, hx]
 have q1 : w1.cell? ⟨w.heap.size, 1, none⟩ = some (.int .i64 R) := by simp [World.cell?, hx]
 have q2 : w1.cell? ⟨w.heap.size, 2, none⟩ = some (.int .i64 A) := by simp [World.cell?, hx]
 have q4 : w1.cell? ⟨w.heap.size, 4, none⟩ = some (.int .i64 I) := by simp [World.cell?, hx]
 obtain ⟨c1, _, _, lrp, lrb, cz, hrl, cr⟩ := wr_cells hJ1
 obtain ⟨x0, x1, y0, y1⟩ := cr R hR
 obtain ⟨nrb, hFb, hFp⟩ := wr_ne hJ1
 have lb := (wrO rp rb most grow).lt HJ.out.1 rb hFb
 have lp := (wrO rp rb most grow).lt HJ.out.1 rp hFp
 have nx1 : rb ≠ w.heap.size := by omega
 have nx2 : rp ≠ w.heap.size := by omega
 obtain ⟨aT, cT, t0, tne, tx⟩ := wr_things hJ1
 have HJ1 : Hid ((wrO rp rb most grow).J F s w1 /\ Tn F w F w1) := ⟨hJ1, Tn.of hb⟩
 have Q := PT w1 hJ1
 have r0 : (0 : Int) <= (R : Int) := by omega
 have r1 : (R : Int) < 12 := by omega
 clear hJ1 hb hb1 hx cr cz HJ PT
 go_wp2_with fail
 refine Q.mono ?_
 clear Q
 rintro e w2 ⟨rfl, hw2⟩
 have hw2 := hw2.symm
 subst hw2
 by_cases ha : a < 0
 ·have hz : z = 2 := by rw [HGC.out, if_pos (Or.inl ha)]
  clear tx
  go_wp2_with fail
  go_ret
  exact ⟨rfl, HJ1.out.1, HJ1.out.2⟩
 ·obtain ⟨j, rfl⟩ : ∃ j : Nat, a = j := ⟨a.toNat, by omega⟩
  have hlt : j < s.T.length := by have := hth (by omega); omega
  obtain ⟨t, ht⟩ : ∃ t, s.T[j]? = some t := ⟨_, List.getElem?_eq_getElem hlt⟩
  obtain ⟨b, ad, cp, rfl, u0, u1, _, _, hLp, hfn⟩ := tx j t ht
  have ht12 := hT t (List.mem_of_getElem? ht)
  have eT : s.T.getD (j : Int).toNat (0, [], false, false) = t := by rw [Int.toNat_natCast, List.getD_eq_getElem?_getD, ht]; rfl
  rw [eT] at HGC HGF
  have jn : decide ((j : Int) < 0) = false := by simp
  have j0 : (0 : Int) <= (j : Int) := by omega
  have j1 : (j : Int) < (s.T.length : Int) := by omega
  clear tx ht eT hth hT
  obtain ⟨kd, fs, od, dd⟩ := t
  dsimp only at u0 u1 hLp ht12 HGC HGF hfn
  by_cases hk : kd = 5
  ·subst hk
   have hz : z = 2 := by rw [HGC.out, if_pos (Or.inr rfl)]
   clear hLp hfn
   go_wp2_with fail
   go_ret
   exact ⟨rfl, HJ1.out.1, HJ1.out.2⟩
  ·have hkb : (kd == 5) = false := by simpa using hk
   by_cases hI : I < 0 \/ (fs.length : Int) <= I
   ·have hz : z = 1 := by rw [HGC.out, if_neg (by omega), if_pos hI]
    by_cases hI0 : I < 0
    ·clear hLp hfn
     go_wp2_with fail
     go_ret
     exact ⟨rfl, HJ1.out.1, HJ1.out.2⟩
    ·have hI1 : (fs.length : Int) <= I := by omega
     clear hLp hfn
     go_wp2_with fail
     go_ret
     exact ⟨rfl, HJ1.out.1, HJ1.out.2⟩
   ·have hz : z = 0 := by rw [HGC.out, if_neg (by omega), if_neg hI]
    obtain ⟨l, rfl⟩ : ∃ l : Nat, I = l := ⟨I.toNat, by omega⟩
    rw [Int.toNat_natCast] at HGF
    obtain ⟨fb, fo, e0, hfb, hc⟩ := hLp (by omega)
    obtain ⟨v0, v1⟩ := hc l (by omega)
    subst e0
    have HZ : Hid (z = 0) := hz
    have HFV : Hid (fv = ((fs.getD l (0, 0)).1, (fs.getD l (0, 0)).2)) := HGF.out
    generalize (fs.getD l (0, 0)).1 = g1 at v0 HFV
    generalize (fs.getD l (0, 0)).2 = g2 at v1 HFV
    have l0 : (0 : Int) <= (l : Int) := by omega
    have l1 : (l : Int) < (fs.length : Int) := by omega
    have nl0 : ¬ (l : Int) < 0 := by omega
    have nl1 : ¬ (fs.length : Int) <= (l : Int) := by omega
    obtain ⟨b9, e9, tn1, tn2⟩ := tne (by omega)
    cases e9
    obtain ⟨fn1, fn2, _⟩ := hfn fb fo (by omega) rfl
    have fn1 := Ne.symm fn1
    have tn2 := Ne.symm tn2
    clear hc tne hz HGC HGF hI hfn
    go_wp2_with fail
    go_region_held3 (fun w' => w'.cell? ⟨rp, 1, none⟩ = some (.slice (some ⟨rb, 0, none⟩) 12 12) /\ w'.cell? ⟨w.heap.size, 1, none⟩ = some (.int .i64 R) /\ w'.cell? ⟨rp, 0, none⟩ = some (.slice (some ⟨b, 0, none⟩) s.T.length cT) /\ w'.cell? ⟨b, j * 4 + 1, none⟩ = some (.slice (some ⟨fb, fo, none⟩) fs.length cp) /\ w'.cell? ⟨w.heap.size, 4, none⟩ = some (.int .i64 l) /\ w'.cell? ⟨fb, fo + l * 2, none⟩ = some (.int .i64 g1) /\ w'.cell? ⟨fb, fo + l * 2 + 1, none⟩ = some (.int .i64 g2)) (go_keep) (fail)
    obtain ⟨hJ2, hT2⟩ := wr_root HJ1.out.1 R (g1, g2)
    have HJ2 : Hid (_ /\ _) := ⟨(wrO rp rb most grow).below hJ2 (Below.refl _ _).drew, (HJ1.out.2.trans hT2).below (Below.refl _ _).drew⟩
    clear hJ2 hT2
    go_wp2_with fail
    go_ret
    try rw [HZ.out]
    rw [HFV.out]
    exact ⟨rfl, HJ2.out.1, HJ2.out.2⟩
end
end Go.Proofs.YtnalfnlmaallmaaGreat

namespace Go.Proofs.YtnalfnlmaallmaaGreat
set_option maxRecDepth 100000
set_option maxHeartbeats 2000000
open Go.RowKit W Kp Stl
def Wrs.fB (s : Wrs) (most k f : Int) : Bool := decide (hc k f = 0 /\ 1 + f <= most - (usd s.T).1)
def Wrs.fr (s : Wrs) (most : Int) (i : Nat) (k f : Int) : Wrs := if s.fB most k f = true then { s with T := s.T ++ [(k, List.replicate f.toNat (0, 0), false, false)], rs := s.rs.set i (3, (s.T.length : Int)) } else s
theorem infoThing : (Tryz.prog.info? 126).map (fun i => (i.zero, i.size, i.bytes)) = some (some (.agg #[.int .i64 0, .slice none 0 0, .bool false, .bool false]), 4, 40) := by kernel_rfl
section
variable {rp rb : Nat} {most grow : Int} {F : Nat -> Prop} {s : Wrs} {w : World}
theorem fresh_no (h : (wrO rp rb most grow).J F s w) (hT : ∀ t ∈ s.T, t.2.1.length <= 12) (hl : s.T.length <= 10000) (hm0 : 0 <= most) (hm : most <= 100000) (i : Nat) (k f : Int) (hb : s.fB most k f = false) :
  Calls Tryz.prog 52 #[.pointer (some ⟨rp, 0, none⟩), .int .i64 i, .int .i64 k, .int .i64 f] w fun e w' => e = .returned (.bool false) /\ Below w.heap.size w w' := by
 have P := usedW_any h hT hl
 have HJ : Hid ((wrO rp rb most grow).J F s w) := h
 have bd := usd_bd s.T hT
 have hh := of_decide_eq_false hb
 have hc5 := hc_bd k f
 generalize (usd s.T).1 = x at P bd hh
 generalize (usd s.T).2 = y at P bd
 obtain ⟨bd1, bd2, bd3, bd4⟩ := bd
 have Fi := fits_any k f
 clear h hb hT
 by_cases h0 : hc k f = 0
 ·have hf := hc5 h0
  have hlt : most - x < 1 + f := by
   by_cases c : 1 + f <= most - x
   ·exact absurd ⟨h0, c⟩ hh
   ·omega
  rw [h0] at Fi
  clear h0 hh hc5
  go_enter Tryz.func52, Tryz.ntmps52
  go_wp2_with fail
  refine P.mono ?_
  clear P
  rintro e w1 ⟨rfl, hb1⟩
  obtain ⟨_, c4, _⟩ := wr_cells ((wrO rp rb most grow).below HJ.out hb1)
  go_wp2_with fail
  refine (Fi w1).mono ?_
  rintro e w2 ⟨rfl, hw2⟩
  have hw2 := hw2.symm
  subst hw2
  go_wp2_with fail
  go_ret
  exact ⟨rfl, hb1⟩
 ·have hne : (hc k f != 0) = true := by simpa using h0
  generalize hc k f = z at *
  clear hh hc5
  go_enter Tryz.func52, Tryz.ntmps52
  go_wp2_with fail
  refine P.mono ?_
  clear P
  rintro e w1 ⟨rfl, hb1⟩
  go_wp2_with fail
  refine (Fi w1).mono ?_
  rintro e w2 ⟨rfl, hw2⟩
  have hw2 := hw2.symm
  subst hw2
  go_wp2_with fail
  go_ret
  exact ⟨rfl, hb1⟩
theorem fresh_yes (h : (wrO rp rb most grow).J F s w) (hT : ∀ t ∈ s.T, t.2.1.length <= 12) (hl : s.T.length <= 10000) (hm0 : 0 <= most) (hm : most <= 100000) (i : Nat) (hi : i < 12) (k f : Int) (hb : s.fB most k f = true) :
    Calls Tryz.prog 52 #[.pointer (some ⟨rp, 0, none⟩), .int .i64 i, .int .i64 k, .int .i64 f] w fun e w' => ∃ F', e = .returned (.bool true) /\ (wrO rp rb most grow).J F' (s.fr most i k f) w' /\ Tn F w F' w' := by
  have P := usedW_any h hT hl
  have HJ : Hid ((wrO rp rb most grow).J F s w) := h
  have bd := usd_bd s.T hT
  obtain ⟨h0, h1⟩ := of_decide_eq_true hb
  have hf := hc_bd k f h0
  have ES : Hid (s.fr most i k f = { s with T := s.T ++ [(k, List.replicate f.toNat (0, 0), false, false)], rs := s.rs.set i (3, (s.T.length : Int)) }) := by
    show _ = _
    unfold Wrs.fr
    rw [if_pos hb]
  generalize s.fr most i k f = s9 at ES ⊢
  generalize (usd s.T).1 = x at P bd h1
  generalize (usd s.T).2 = y at P bd
  obtain ⟨bd1, bd2, bd3, bd4⟩ := bd
  obtain ⟨_, _, hk1, hk2⟩ := hf
  have Fi := fits_any k f
  rw [h0] at Fi
  obtain ⟨m, rfl⟩ : ∃ m : Nat, f = m := ⟨f.toNat, by omega⟩
  rw [Int.toNat_natCast] at ES
  obtain ⟨i0, hi0, hz0, hz1, hz2⟩ := info_parts infoVal
  obtain ⟨j0, hj0, hw0, hw1, hw2⟩ := info_parts infoThing
  have hm12 : m <= 12 := by omega
  clear h hb hT h0
  go_enter Tryz.func52, Tryz.ntmps52
  go_wp2_with fail
  refine P.mono ?_
  clear P
  rintro e w1 ⟨rfl, hb1⟩
  obtain ⟨_, c4, _⟩ := wr_cells ((wrO rp rb most grow).below HJ.out hb1)
  go_wp2_with fail
  refine (Fi w1).mono ?_
  rintro e w2 ⟨rfl, hw2'⟩
  have hw2' := hw2'.symm
  subst hw2'
  have hJ1 := (wrO rp rb most grow).below HJ.out hb1
  have HJ1 : Hid ((wrO rp rb most grow).J F s w1 /\ Tn F w F w1) := ⟨hJ1, Tn.of hb1⟩
  have hlw := hb1.size
  have ltF : Hid (∀ b, F b -> b < w1.heap.size) := (wrO rp rb most grow).lt hJ1
  clear hJ1 hb1 HJ
  go_wp2_with fail
  go_loopw [12] (fun iv wr => ∃ (j : Nat) (ad : Option Addr) (cp : Nat), j <= m /\ iv = .int .i64 j /\ wr.heap[w1.heap.size]? = some (.cells #[.int .i64 k, .slice ad j cp, .bool false, .bool false] 126 (0, 0)) /\ wr.ownsRow (w1.heap.size + 1) 100 2 (.slice ad j cp) j (ev (List.replicate j (0, 0))) /\ Below w1.heap.size w1 wr) (fun iv _ => m - (intOf iv).toNat)
  case atStart => exact ⟨0, none, 0, Nat.zero_le _, rfl, heap_alloc_new _ _, World.ownsRow_nil _ _ _ _, (Below.refl _ w1).alloc (Nat.le_refl _) _⟩
  case round =>
    obtain ⟨j, ad, cp, hj, rfl, ht, hR, hb⟩ := hrel
    have lt1 := lt_of_some ht
    by_cases hlt : j < m
    · have d1 : wr.cell? ⟨w1.heap.size, 1, none⟩ = some (.slice ad j cp) := by simp [World.cell?, ht]
      have HT : Hid (wr.heap[w1.heap.size]? = some (.cells #[.int .i64 k, .slice ad j cp, .bool false, .bool false] 126 (0, 0)) /\ Below w1.heap.size w1 wr) := ⟨ht, hb⟩
      have rne : some w1.heap.size ≠ (Value.slice ad j cp).ownBlock := fun e => by have := (row_lt hR _ e).1; omega
      clear ht hb
      go_wp2_with (at_builtin; refine wpList_append_own_at _ rfl _ _ 62 rfl (w1.heap.size + 1) 100 i0 (.agg #[.int .i64 0, .int .i64 0]) 2 16 Tryz.underlying62 hi0 hz0 hz1 hz2 rfl (by decide) (.slice ad j cp) j (ev (List.replicate j (0, 0))) rfl (row_alloc hR _) ⟨wr.heap.size, 0, none⟩ 1 1 [.int .i64 0, .int .i64 0] rfl rfl ?_ ?_ ?_ ?_ ?_ ?_; (intro j u hj; match j, hj with | 0, hj => (simp at hj; subst hj; simp [Addr.add]) | 1, hj => (simp at hj; subst hj; simp [Addr.add])); (intro u hu; simp at hu; subst hu; rfl); (unfold maxLen; omega); omega; (simp; omega); intro v' w4 hown4 hgrow4 _ hloc4; obtain ⟨b4, cap4, ev4⟩ := row_shape hown4 (Nat.succ_pos _); subst ev4; have kb := (hgrow4.block w1.heap.size (by simp; omega) rne).trans (Below.heap_alloc _ _ _ lt1); have g1 := (World.cell?_of_block (a := ⟨w1.heap.size, 1, none⟩) kb).trans d1; have f1 : w4.frozen? ⟨w1.heap.size, 1, none⟩ = false := (World.frozen?_of_block (a := ⟨w1.heap.size, 1, none⟩) kb).trans (by simp [World.frozen?, HT.out.1]))
      have hb4 : Below w1.heap.size w1 w4 := (HT.out.2.alloc HT.out.2.size _).grown hgrow4 (by simp; have := HT.out.2.size; omega) (fun b e => by have := (row_lt hR b e.symm).1; omega)
      go_roundw
      case rel =>
        refine ⟨j + 1, some ⟨b4, 0, none⟩, cap4, by omega, by go_num, ?_, ?_, hb4.setCell (Nat.le_refl _) _⟩
        · have hq := kb.trans HT.out.1
          simp only [World.setCell, Array.getElem?_modify, if_true, hq, Option.map_some]
          simp
        · refine row_keep (w := w4) ?_ (fun b e => Below.heap_setCell _ _ _ _ (fun e' => ?_))
          · rw [List.replicate_succ', ev_append]
            simpa [ev] using hown4
          · have e' : b = w1.heap.size := e'
            have := (row_lt hown4 b (by simpa [Value.ownBlock] using e)).1
            omega
      case measure => simp [intOf]; omega
    · obtain rfl : j = m := by omega
      have hJr := (wrO rp rb most grow).below HJ1.out.1 hb
      obtain ⟨c1, _, _, lrp, lrb, cz, hrl, cr⟩ := wr_cells hJr
      obtain ⟨x0, x1, y0, y1⟩ := cr i hi
      obtain ⟨mm, vT, hmm, cT, hrow, ⟨rn1, rn2⟩, hvF, _, _⟩ := wr_row hJr
      have eml : mm.length = s.T.length := by rw [<- hmm]; simp
      obtain ⟨aT0, capT0, eT⟩ := row_slice hrow
      subst eT
      rw [eml] at cT
      have nrb : rb ≠ rp := fun e => by
        obtain ⟨own, m2, vT2, v22, v32, hM, _⟩ := hJr
        have h1 := hM.r1
        rw [e, hM.b1] at h1
        omega
      have HJr : Hid ((wrO rp rb most grow).J F s wr /\ Tn F w F wr) := ⟨hJr, HJ1.out.2.below hb⟩
      have HT : Hid (wr.heap[w1.heap.size]? = some (.cells #[.int .i64 k, .slice ad j cp, .bool false, .bool false] 126 (0, 0)) /\ wr.ownsRow (w1.heap.size + 1) 100 2 (.slice ad j cp) j (ev (List.replicate j (0, 0))) /\ w1.heap.size <= wr.heap.size) := ⟨ht, hR, hb.size⟩
      have i0' : (0 : Int) <= (i : Int) := by omega
      have i1' : (i : Int) < 12 := by omega
      clear hJr cr cz hvF hrow ht hR hb HJ1 hmm
      go_wp2_with fail
      go_region_held3 (fun w' => w'.cell? ⟨rp, 1, none⟩ = some (.slice (some ⟨rb, 0, none⟩) 12 12) /\ w'.cell? ⟨rp, 0, none⟩ = some (.slice aT0 s.T.length capT0)) (go_keep) (fail)
      obtain ⟨hJ2, hT2⟩ := wr_root HJr.out.1 i (3, (s.T.length : Int))
      have nlt : rb ≠ w1.heap.size := fun e => by
        have h1 := ltF.out rb (by
          obtain ⟨own, m2, vT2, v22, v32, hM, hF2⟩ := HJr.out.1
          exact (hF2 rb).2 (by rw [hM.r1]; decide))
        omega
      have hfr2 : Fr (fun b => b = rb) wr ((wr.setCell ⟨rb, i * 2, none⟩ (.int .i64 3)).setCell ⟨rb, i * 2 + 1, none⟩ (.int .i64 s.T.length)).drew := (((Fr.refl (fun b => b = rb) wr).set rb _ _ rfl).set rb _ _ rfl).drew
      have hJ5 := (wrO rp rb most grow).below hJ2 (Below.refl _ _).drew
      have hT5 := (HJr.out.2.trans hT2).below (Below.refl _ _).drew
      dsimp only at hJ5 hT5
      have ht5 := (hfr2.block w1.heap.size lt1 (fun e => nlt e.symm)).trans HT.out.1
      have hrbF : F rb := by
        obtain ⟨own, m2, vT2, v22, v32, hM, hF2⟩ := HJr.out.1
        exact (hF2 rb).2 (by rw [hM.r1]; decide)
      have hR5 := row_fr HT.out.2.1 hfr2 (fun b e e' => by
        have h1 := (row_lt HT.out.2.1 b e).1
        have h2 := ltF.out b (by rw [e']; exact hrbF)
        omega)
      have hsz5 := hfr2.size
      have e05 := (World.cell?_of_block (a := ⟨rp, 0, none⟩) (hfr2.block rp lrp (fun e => nrb e.symm))).trans cT
      generalize ((wr.setCell ⟨rb, i * 2, none⟩ (.int .i64 3)).setCell ⟨rb, i * 2 + 1, none⟩ (.int .i64 s.T.length)).drew = w5 at *
      clear hJ2 hT2 x0 x1 y0 y1 cT c1
      obtain ⟨mm, vT, hmm, cT, hrow, ⟨rn1, rn2⟩, hvF, hadd, _⟩ := wr_row hJ5
      have eml : mm.length = s.T.length := by rw [<- List.length_map (f := fun x => x.1), hmm]
      obtain rfl : vT = .slice aT0 s.T.length capT0 := by
        have := cT.symm.trans e05
        simpa using this
      rw [eml] at hrow
      have HEM : Hid (mm.length = s.T.length) := eml
      clear eml
      obtain ⟨_, _, _, lrp5, _, cz5, _⟩ := wr_cells hJ5
      have z0 := cz5 0
      have t0 : w5.cell? ⟨w1.heap.size, 0, none⟩ = some (.int .i64 k) := by simp [World.cell?, ht5]
      have t1 : w5.cell? ⟨w1.heap.size, 1, none⟩ = some (.slice ad j cp) := by simp [World.cell?, ht5]
      have t2 : w5.cell? ⟨w1.heap.size, 2, none⟩ = some (.bool false) := by simp [World.cell?, ht5]
      have t3 : w5.cell? ⟨w1.heap.size, 3, none⟩ = some (.bool false) := by simp [World.cell?, ht5]
      have lt5 := lt_of_some ht5
      have hbd := ((Below.refl w5.heap.size w5).alloc (Nat.le_refl _) (.cells #[.int .i64 k, .slice ad j cp, .bool false, .bool false] 126)).drew
      have HSd : Hid ((w5.alloc (.cells #[.int .i64 k, .slice ad j cp, .bool false, .bool false] 126)).drew.ownsRow 0 126 4 (.slice aT0 s.T.length capT0) s.T.length (tv mm)) := row_keep (row_alloc hrow _) (fun _ _ => rfl)
      have HJ5 : Hid ((wrO rp rb most grow).J F { s with rs := s.rs.set i (3, (s.T.length : Int)) } w5 /\ Tn F w F w5) := ⟨hJ5, hT5⟩
      have HA := hadd
      have HR5 : Hid (w5.ownsRow (w1.heap.size + 1) 100 2 (.slice ad j cp) j (ev (List.replicate j (0, 0))) /\ w5.ownsRow 0 126 4 (.slice aT0 s.T.length capT0) s.T.length (tv mm) /\ ∀ b, some b = (Value.slice aT0 s.T.length capT0).ownBlock -> F b) := ⟨hR5, hrow, hvF⟩
      have HA : Hid (∀ (x : Tnd) (v1 : Value) (w1 : World), Fr (fun b => some b = (Value.slice aT0 s.T.length capT0).ownBlock) w5 w1 -> w1.ownsRow 0 126 4 v1 (mm ++ [x]).length (tv (mm ++ [x])) -> (∀ b, some b = v1.ownBlock -> some b = (Value.slice aT0 s.T.length capT0).ownBlock \/ w5.heap.size <= b) -> Lp w1 x.2.1 x.1.2.1 -> (∀ b o, 0 < x.1.2.1.length -> x.2.1 = some ⟨b, o, none⟩ -> ¬ F b /\ some b ≠ v1.ownBlock) ->
          (wrO rp rb most grow).J (fun b => F b \/ some b = v1.ownBlock \/ (0 < x.1.2.1.length /\ ∃ o, x.2.1 = some ⟨b, o, none⟩)) { s with rs := s.rs.set i (3, (s.T.length : Int)), T := s.T ++ [x.1] } (w1.setCell ⟨rp, 0, none⟩ v1) /\ Fr F w5 (w1.setCell ⟨rp, 0, none⟩ v1)) := hadd
      clear hadd hrow hvF hJ5 hT5 ht5 hR5 cz5 hmm HT hfr2 HJr
      go_wp2_with fail
      go_region_law (refine step_append_lies _ rfl (.tmp 62) (.tmp 64) 118 rfl 0 126 j0 (.agg #[.int .i64 0, .slice none 0 0, .bool false, .bool false]) 4 40 Tryz.underlying118 hj0 hw0 hw1 hw2 rfl (by decide) (.slice aT0 s.T.length capT0) s.T.length (tv mm) (by simp [Act.eval]) HSd.out ⟨w5.heap.size, 0, none⟩ 1 1 [.int .i64 k, .slice ad j cp, .bool false, .bool false] (by simp [Act.eval]) rfl ?_ ?_ (by decide) (by unfold maxLen; omega) (by omega) (by simp) _ rfl ?_; (intro j u hj; match j, hj with | 0, hj => (simp at hj; subst hj; simp [Addr.add]) | 1, hj => (simp at hj; subst hj; simp [Addr.add]) | 2, hj => (simp at hj; subst hj; simp [Addr.add]) | 3, hj => (simp at hj; subst hj; simp [Addr.add])); (intro u hu; simp at hu; rcases hu with hu | hu | hu <;> (subst hu; rfl)); intro b4 cap4 w4 hown4 hgrow4 hat4 hlt4; have d4 := hgrow4.cell (a := ⟨rp, 0, none⟩) (v := .slice aT0 s.T.length capT0) ((hbd.cell (p := ⟨rp, 0, none⟩) lrp5).trans cT) rn1; have f4 : w4.frozen? ⟨rp, 0, none⟩ = false := (World.frozen?_of_block (a := ⟨rp, 0, none⟩) (hgrow4.block _ (Nat.lt_of_lt_of_le lrp5 hbd.size) rn1)).trans ((hbd.frozen (p := ⟨rp, 0, none⟩) lrp5).trans z0))
      all_goals
        have HF : Hid (∃ F', (wrO rp rb most grow).J F' s9 (w4.setCell ⟨rp, 0, none⟩ (.slice (some ⟨b4, 0, none⟩) (s.T.length + 1) cap4)) /\ Tn F w F' (w4.setCell ⟨rp, 0, none⟩ (.slice (some ⟨b4, 0, none⟩) (s.T.length + 1) cap4))) := by
          have hsz4 := hgrow4.size
          simp at hsz4
          have hat : some b4 = (Value.slice aT0 s.T.length capT0).ownBlock \/ b4 = w5.heap.size + 1 := hat4.imp Eq.symm (fun e => by simpa using e)
          have hfr4 : Fr (fun b => some b = (Value.slice aT0 s.T.length capT0).ownBlock) w5 w4 := (((Fr.refl _ w5).alloc _).drew).grown hgrow4 (fun b e => Or.inl e.symm)
          have hR4 := row_fr HR5.out.1 hfr4 (fun b e e' => by
            have h1 := (row_lt HR5.out.1 b e).1
            have h2 := ltF.out b (HR5.out.2.2 b e')
            omega)
          obtain ⟨h1, h2⟩ := HA.out ((k, List.replicate j (0, 0), false, false), ad, cp) (.slice (some ⟨b4, 0, none⟩) (s.T.length + 1) cap4) w4 hfr4 (by
              rw [tv_append, List.length_append, HEM.out]
              simpa [tv] using hown4) (fun b e => by
              simp [Value.ownBlock] at e
              subst e
              exact hat.imp id (fun e => by omega)) (row_pairs (by simpa using hR4)) (fun b o hp e => by
              dsimp only at hp e
              rw [List.length_replicate] at hp
              have e2 : some b = (Value.slice ad j cp).ownBlock := by
                obtain ⟨b', c', e'⟩ := row_shape HR5.out.1 hp
                cases e'
                cases e
                rfl
              have h3 := row_lt HR5.out.1 b e2
              refine ⟨fun d => by have := ltF.out b d; omega, fun e3 => ?_⟩
              simp [Value.ownBlock] at e3
              subst e3
              rcases hat with e4 | e4
              · have := ltF.out _ (HR5.out.2.2 _ e4)
                omega
              · omega)
          rw [ES.out]
          refine ⟨_, h1, ⟨HJ5.out.2.fr.trans h2 HJ5.out.2.sub, fun b d => ?_⟩⟩
          rcases d with d | d | ⟨hp, o, e⟩
          · exact Or.inl d
          · simp [Value.ownBlock] at d
            subst d
            rcases hat with e4 | e4
            · exact Or.inl (HR5.out.2.2 _ e4)
            · exact Or.inr (by have := HJ5.out.2.fr.size; omega)
          · dsimp only at hp e
            rw [List.length_replicate] at hp
            obtain ⟨b', c', e'⟩ := row_shape HR5.out.1 hp
            cases e'
            cases e
            have h3 := (row_lt HR5.out.1 b rfl).1
            have h4 := hlw
            exact Or.inr (by omega)
        clear hown4 hgrow4 hat4 HA HR5
        go_wp2_with fail
        go_ret
        obtain ⟨F', j1, j2⟩ := HF.out
        exact ⟨F', rfl, j1, j2⟩
end
end Go.Proofs.YtnalfnlmaallmaaGreat

namespace Go.Proofs.YtnalfnlmaallmaaGreat
open Go.RowKit W Kp Stl
section
variable {a : Wc} {F : Nat -> Prop} {S : Ww} {w : World}
theorem ws_wod (h : (wsO a).J F S w) : ∃ F0, (wodO a).J F0 S.s w /\ ∀ F1 s1 w', (wodO a).J F1 s1 w' -> Tn F0 w F1 w' -> ∃ F', (wsO a).J F' ⟨s1, S.r, S.q⟩ w' /\ Tn F w F' w' := by
 obtain ⟨F0, ar, cr, h1, h2, h3, hF⟩ := h
 obtain ⟨F00, g1, g2⟩ := mkSd_to h1
 refine ⟨F00, g1, fun F1 s1 w' hJ hT => ?_⟩
 obtain ⟨F', k1, k2⟩ := g2 (wodO a) F1 s1 w' hJ hT
 refine ⟨fun b => F' b \/ some b = (Value.slice ar S.r.length cr).ownBlock, ⟨F', ar, cr, k1, row_keep h2 (fun b e => k2.fr.block b (row_lt h2 b e).2 (h3 b e)), fun b e d => ?_, fun b => Iff.rfl⟩, ⟨k2.fr.mono (fun b d => (hF b).2 (Or.inl d)), fun b d => ?_⟩⟩
 ·rcases k2.sub b d with d | d
  ·exact h3 b e d
  ·have := (row_lt h2 b e).2
   omega
 ·rcases d with d | d
  ·exact (k2.sub b d).imp (fun d => (hF b).2 (Or.inl d)) id
  ·exact Or.inl ((hF b).2 (Or.inr d))
theorem setW_any {s : Wst} (h : (wodO a).J F s w) (x i z : Int) (hM : s.M.length <= 100000) :
    Calls Tryz.prog 53 #[.pointer (some ⟨a.pw, 0, none⟩), .int .i64 x, .int .i64 i, .int .i64 z] w fun e w' => e = .returned (.int .i64 (fcC a.N s.y s.g s.ws x i)) /\ (wodO a).J F { s with ws := stW a.N s.y s.g s.ws x i z, M := stM a.N s.y s.g s.ws x i z (nC a.O) s.M } w' /\ Tn F w F w' := by
  obtain ⟨own, pq, h, hF⟩ := h
  refine (set_any x i z ⟨h.wd, h.ar, h.cd⟩ hM).mono ?_
  rintro e w' ⟨rfl, hW, fr⟩
  refine ⟨rfl, ⟨own, pq, ?_, hF⟩, ⟨fr.mono (fun b d => ?_), fun _ d => Or.inl d⟩⟩
  · have hb : ∀ b, b < w.heap.size -> own b ≠ 1 -> own b ≠ 2 -> w'.heap[b]? = w.heap[b]? := fun b hb h1 h2 => fr.block b hb (fun d => by
      rcases d with d | d | d | d
      · exact h1 (by rw [d]; exact h.a1)
      · exact h1 (by rw [d]; exact h.a2)
      · exact h2 (by rw [d]; exact h.c1)
      · exact h2 (by rw [d]; exact h.c2))
    exact { ar := hW.ar, cd := hW.cd, wd := hW.blk, a1 := h.a1, a2 := h.a2, c1 := h.c1, c2 := h.c2, w1 := h.w1, rl := h.rl, r1 := h.r1, le := h.le, lt := fun b hb => Nat.lt_of_lt_of_le (h.lt b hb) fr.size
            rt := (hb _ (lt_of_some h.rt) (by rw [h.r1]; decide) (by rw [h.r1]; decide)).trans h.rt }
  · refine (hF b).2 ?_
    rcases d with d | d | d | d
    · rw [d, h.a1]; decide
    · rw [d, h.a2]; decide
    · rw [d, h.c1]; decide
    · rw [d, h.c2]; decide
theorem regS_any (h : (wsO a).J F S w) (g z : Int) (hr : S.r.length <= 90000) (hq : S.q.length <= 90000) :
  Calls Tryz.prog 58 #[.pointer (some ⟨a.sd, 0, none⟩), .agg #[.int .i64 g, .int .i64 z]] w fun e w' => ∃ F', e = .returned (.bool (!fulB (S.r.length + S.q.length))) /\ (wsO a).J F' (if 24 <= S.r.length + S.q.length then S else ⟨S.s, S.r ++ [(g, z)], S.q⟩) w' /\ Tn F w F' w' := by
 have hJ := h
 obtain ⟨F0, ar, cr, ⟨F00, ad, cap, h1, h2, h3, h4, h5, h6, h7, h8⟩, r0, r1, hF⟩ := h
 refine (reg_any w a.sd ar ad cr cap S.r S.q g z ⟨h2, r0, h3⟩ hr hq).mono ?_
 rintro e w' ⟨rfl, ⟨hf, hb⟩ | ⟨hf, b1, c1, hs, hb1, fr⟩⟩
 ·exact ⟨F, rfl, by rw [if_pos hf]; exact (wsO a).below hJ hb, Tn.of hb⟩
 ·have lp := lt_of_some h2
  refine ⟨fun b => F0 b \/ some b = (Value.slice (some ⟨b1, 0, none⟩) (S.r ++ [(g, z)]).length c1).ownBlock, rfl, ?_, ⟨fr.mono (fun b d => (hF b).2 (Or.inl (by rw [d]; exact h5))), fun b d => ?_⟩⟩
  ·rw [if_neg hf]
   refine ⟨F0, some ⟨b1, 0, none⟩, c1, ⟨F00, ad, cap, (wodO a).keep h1 fr.size (fun b d => fr.block b ((wodO a).lt h1 b d) (fun e => h6 (by rw [<- e]; exact d))), hs.blk, hs.q0, h4, h5, h6, h7, fun b d => Nat.lt_of_lt_of_le (h8 b d) fr.size⟩, hs.r0, fun b e d => ?_, fun b => Iff.rfl⟩
   simp [Value.ownBlock] at e
   subst e
   have := h8 b d
   omega
  ·rcases d with d | d
   ·exact Or.inl ((hF b).2 (Or.inl d))
   ·simp [Value.ownBlock] at d
    subst d
    exact Or.inr hb1
end
structure Bc where
  a : Wc
  rp : Nat
  rb : Nat
  most : Int
  grow : Int
  pb : Nat
def boO (c : Bc) : Ob (Ww × Wrs) where
  J F S w := ∃ FW FR, (wsO c.a).J FW S.1 w /\ (wrO c.rp c.rb c.most c.grow).J FR S.2 w /\ w.heap[c.pb]? = some (.cells #[.pointer (some ⟨c.a.pw, 0, none⟩), .pointer (some ⟨c.rp, 0, none⟩)] 37 (0, 0)) /\ (∀ b, FW b -> ¬ FR b) /\ ¬ FW c.pb /\ ¬ FR c.pb /\ ∀ b, F b ↔ (FW b \/ FR b \/ b = c.pb)
  lt := by
    rintro F S w ⟨FW, FR, h1, h2, h3, h4, h5, h6, hF⟩ b hb
    rcases (hF b).1 hb with d | d | d
    · exact (wsO c.a).lt h1 b d
    · exact (wrO c.rp c.rb c.most c.grow).lt h2 b d
    · rw [d]; exact lt_of_some h3
  keep := by
    rintro F S w w' ⟨FW, FR, h1, h2, h3, h4, h5, h6, hF⟩ hs hk
    exact ⟨FW, FR, (wsO c.a).keep h1 hs (fun b d => hk b ((hF b).2 (Or.inl d))), (wrO c.rp c.rb c.most c.grow).keep h2 hs (fun b d => hk b ((hF b).2 (Or.inr (Or.inl d)))), (hk _ ((hF _).2 (Or.inr (Or.inr rfl)))).trans h3, h4, h5, h6, hF⟩
section
variable {c : Bc} {F : Nat -> Prop} {S : Ww × Wrs} {w : World}
theorem bo_cells (h : (boO c).J F S w) : w.cell? ⟨c.pb, 0, none⟩ = some (.pointer (some ⟨c.a.pw, 0, none⟩)) /\ w.cell? ⟨c.pb, 1, none⟩ = some (.pointer (some ⟨c.rp, 0, none⟩)) /\ c.pb < w.heap.size := by
 obtain ⟨FW, FR, h1, h2, h3, h4, h5, h6, hF⟩ := h
 exact ⟨by simp [World.cell?, h3], by simp [World.cell?, h3], lt_of_some h3⟩
theorem bo_w (h : (boO c).J F S w) : ∃ FW, (wsO c.a).J FW S.1 w /\ (∀ b, FW b -> F b) /\ ∀ F1 s1 w', (wsO c.a).J F1 s1 w' -> Tn FW w F1 w' -> ∃ F', (boO c).J F' (s1, S.2) w' /\ Tn F w F' w' := by
 obtain ⟨FW, FR, h1, h2, h3, h4, h5, h6, hF⟩ := h
 refine ⟨FW, h1, fun b d => (hF b).2 (Or.inl d), fun F1 s1 w' hJ hT => ?_⟩
 have lr := (wrO c.rp c.rb c.most c.grow).lt h2
 have lp := lt_of_some h3
 refine ⟨fun b => F1 b \/ FR b \/ b = c.pb, ⟨F1, FR, hJ, (wrO c.rp c.rb c.most c.grow).keep h2 hT.fr.size (fun b d => hT.fr.block b (lr b d) (fun e => h4 b e d)), (hT.fr.block _ lp h5).trans h3, fun b d e => ?_, fun d => ?_, h6, fun b => Iff.rfl⟩, ⟨hT.fr.mono (fun b d => (hF b).2 (Or.inl d)), fun b d => ?_⟩⟩
 ·rcases hT.sub b d with d | d
  ·exact h4 b d e
  ·have := lr b e
   omega
 ·rcases hT.sub _ d with d | d
  ·exact h5 d
  ·omega
 ·rcases d with d | d
  ·exact (hT.sub b d).imp (fun d => (hF b).2 (Or.inl d)) id
  ·exact Or.inl ((hF b).2 (Or.inr d))
theorem bo_r (h : (boO c).J F S w) : ∃ FR, (wrO c.rp c.rb c.most c.grow).J FR S.2 w /\ (∀ b, FR b -> F b) /\ ∀ F1 s1 w', (wrO c.rp c.rb c.most c.grow).J F1 s1 w' -> Tn FR w F1 w' -> ∃ F', (boO c).J F' (S.1, s1) w' /\ Tn F w F' w' := by
 obtain ⟨FW, FR, h1, h2, h3, h4, h5, h6, hF⟩ := h
 refine ⟨FR, h2, fun b d => (hF b).2 (Or.inr (Or.inl d)), fun F1 s1 w' hJ hT => ?_⟩
 have lr := (wsO c.a).lt h1
 have lp := lt_of_some h3
 refine ⟨fun b => FW b \/ F1 b \/ b = c.pb, ⟨FW, F1, (wsO c.a).keep h1 hT.fr.size (fun b d => hT.fr.block b (lr b d) (fun e => h4 b d e)), hJ, (hT.fr.block _ lp h6).trans h3, fun b d e => ?_, h5, fun d => ?_, fun b => Iff.rfl⟩, ⟨hT.fr.mono (fun b d => (hF b).2 (Or.inr (Or.inl d))), fun b d => ?_⟩⟩
 ·rcases hT.sub b e with e | e
  ·exact h4 b d e
  ·have := lr b d
   omega
 ·rcases hT.sub _ d with d | d
  ·exact h6 d
  ·omega
 ·rcases d with d | d | d
  ·exact Or.inl ((hF b).2 (Or.inl d))
  ·exact (hT.sub b d).imp (fun d => (hF b).2 (Or.inr (Or.inl d))) id
  ·exact Or.inl ((hF b).2 (Or.inr (Or.inr d)))
end
end Go.Proofs.YtnalfnlmaallmaaGreat

namespace Go.Proofs.YtnalfnlmaallmaaGreat
set_option maxRecDepth 100000
open Go.RowKit W Kp Stl
def rtN (k : Int) : Nat := ((k % 18446744073709551616) % 12).toNat
theorem rtN_lt (k : Int) : rtN k < 12 := by unfold rtN; omega
theorem root_any (k : Int) (w : World) : Calls Tryz.prog 49 #[.int .i64 k] w fun e w' => e = .returned (.int .i64 (rtN k)) /\ w' = w := by
 have e1 : ((rtN k : Nat) : Int) = (k % 18446744073709551616) % 12 := by unfold rtN; omega
 rw [e1]
 go_enter Tryz.func49, Tryz.ntmps49
 go_wp2_with fail
 go_ret
 refine ⟨?_, rfl⟩
 have h1 : 0 <= k % 18446744073709551616 % 12 := by omega
 have h2 : k % 18446744073709551616 % 12 < 12 := by omega
 have e2 : IntKind.u64.wrap k = k % 18446744073709551616 := by
  first
   | rfl
   | simp [IntKind.wrap]
   | (simp [IntKind.wrap, IntKind.bits, IntKind.signed]; done)
 have e3 : (IntKind.u64.wrap k).tmod 12 = k % 18446744073709551616 % 12 := by
  rw [e2, Int.tmod_eq_emod_of_nonneg (by omega)]
 show Ending.returned (.int .i64 (wrap64 ((IntKind.u64.wrap k).tmod 12))) = _
 rw [e3]
 generalize k % 18446744073709551616 % 12 = z at h1 h2
 have e4 : wrap64 z = z := by
  unfold wrap64
  omega
 rw [e4]
end Go.Proofs.YtnalfnlmaallmaaGreat

namespace Go.Proofs.YtnalfnlmaallmaaGreat
set_option maxRecDepth 100000
set_option maxHeartbeats 2000000
open Go.RowKit W Kp Stl
abbrev csV (d A B C : Int) : Value := .agg #[.int .i64 d, .int .i64 A, .int .i64 B, .int .i64 C]
abbrev csC (d A B C : Int) : Obj := .cells #[.int .i64 d, .int .i64 A, .int .i64 B, .int .i64 C] 31
section
variable {c : Bc} {F : Nat -> Prop} {S : Ww × Wrs} {w : World}
theorem cs_cells {d A B C : Int} {b : Nat} {w1 : World} (h : w1.heap[b]? = some (csC d A B C)) : w1.cell? ⟨b, 0, none⟩ = some (.int .i64 d) /\ w1.cell? ⟨b, 1, none⟩ = some (.int .i64 A) /\ w1.cell? ⟨b, 2, none⟩ = some (.int .i64 B) /\ w1.cell? ⟨b, 3, none⟩ = some (.int .i64 C) :=
 ⟨by simp [World.cell?, h], by simp [World.cell?, h], by simp [World.cell?, h], by simp [World.cell?, h]⟩
theorem bo_all (h : (boO c).J F S w) : w.cell? ⟨c.pb, 0, none⟩ = some (.pointer (some ⟨c.a.pw, 0, none⟩)) /\ w.cell? ⟨c.pb, 1, none⟩ = some (.pointer (some ⟨c.rp, 0, none⟩)) /\ w.cell? ⟨c.a.pw, 0, none⟩ = some (.pointer (some ⟨c.a.p, 0, none⟩)) /\ w.cell? ⟨c.a.pw, 2, none⟩ = some (.pointer (some ⟨c.a.sd, 0, none⟩)) /\ w.cell? ⟨c.a.pw, 3, none⟩ = some (.slice (some ⟨c.a.nb, 0, none⟩) 12 12) /\ (∀ i, i < 12 -> w.cell? ⟨c.a.nb, i, none⟩ = some (.int .i64 (S.1.s.rs.getD i 0)) /\ w.frozen? ⟨c.a.nb, i, none⟩ = false) /\ c.pb < w.heap.size /\ c.a.pw < w.heap.size /\ c.a.nb < w.heap.size /\ c.a.nb ≠ c.pb /\ c.a.nb ≠ c.a.pw /\ c.a.nb ≠ c.rp := by
 obtain ⟨b0, b1, b2⟩ := bo_cells h
 obtain ⟨FW, FR, h1, h2, h3, h4, h5, h6, hF⟩ := h
 obtain ⟨F0, g1, _⟩ := ws_wod h1
 obtain ⟨c0, _, c2, c3, lw, _, ln, cr⟩ := wod_cells g1
 obtain ⟨F0', ar, cr', ⟨F00, ad, cap, ⟨own, pq, hM, hO⟩, d2, d3, d4, _⟩, r0, r1, hFW⟩ := h1
 have fnb : FW c.a.nb := (hFW _).2 (Or.inl (d4 _ ((hO _).2 (by rw [hM.r1]; decide))))
 obtain ⟨own', m2, vT2, v22, v32, hMr, hFr⟩ := h2
 have frp : FR c.rp := (hFr _).2 (by rw [hMr.b1]; decide)
 exact ⟨b0, b1, c0, c2, c3, cr, b2, lw, ln, fun e => h5 (by rw [<- e]; exact fnb), fun e => by
  have h1 := hM.r1
  rw [e, hM.w1] at h1
  omega, fun e => h4 _ fnb (by rw [e]; exact frp)⟩
theorem bo_root (h : (boO c).J F S w) (i : Nat) (x : Int) : ∃ F', (boO c).J F' (⟨{ S.1.s with rs := S.1.s.rs.set i x }, S.1.r, S.1.q⟩, S.2) (w.setCell ⟨c.a.nb, i, none⟩ (.int .i64 x)) /\ Tn F w F' (w.setCell ⟨c.a.nb, i, none⟩ (.int .i64 x)) := by
 obtain ⟨FW, h1, _, h2⟩ := bo_w h
 obtain ⟨F0, g1, g2⟩ := ws_wod h1
 obtain ⟨k1, k2⟩ := wod_root g1 i x
 obtain ⟨F1, l1, l2⟩ := g2 _ _ _ k1 k2
 exact h2 _ _ _ l1 l2
theorem do4_any (h : (boO c).J F S w) (A B C : Int) :
  Calls Tryz.prog 15 #[.pointer (some ⟨c.pb, 0, none⟩), csV 4 A B C] w fun e w' => ∃ F', e = .returned (.bool true) /\ (boO c).J F' (⟨{ S.1.s with rs := S.1.s.rs.set (rtN C) 2 }, S.1.r, S.1.q⟩, { S.2 with rs := S.2.rs.set (rtN C) (0, 0) }) w' /\ Tn F w F' w' := by
 have hb0 := (Below.refl w.heap.size w).alloc (Nat.le_refl _) (csC 4 A B C)
 have HJ : Hid ((boO c).J F S w /\ Below w.heap.size w (w.alloc (csC 4 A B C))) := ⟨h, hb0⟩
 have RA := root_any A
 have RC := root_any C
 have hlt := rtN_lt C
 have lA := rtN_lt A
 have HX : Hid ((w.alloc (csC 4 A B C)).heap[w.heap.size]? = some (csC 4 A B C)) := heap_alloc_new _ _
 obtain ⟨q0, q1, _, q3⟩ := cs_cells HX.out
 generalize rtN A = ra at *
 generalize rtN C = rc at *
 clear h hb0
 go_enter Tryz.func15, Tryz.ntmps15
 go_upto_region 1 with fail
 go_region_held3 (fun w' => w'.cell? ⟨w.heap.size, 1, none⟩ = some (.int .i64 A) /\ w'.cell? ⟨w.heap.size, 3, none⟩ = some (.int .i64 C)) (go_keep)
  (first
   | (go_at_call 49; refine (RA _).mono ?_; rintro e w9 ⟨rfl, hw9⟩; have hw9 := hw9.symm; subst hw9)
   | (go_at_call 49; refine (RC _).mono ?_; rintro e w9 ⟨rfl, hw9⟩; have hw9 := hw9.symm; subst hw9))
 have hb2 := HJ.out.2.drew
 have hJ2 := (boO c).below HJ.out.1 hb2
 have HJ2 : Hid ((boO c).J F S (w.alloc (csC 4 A B C)).drew /\ Tn F w F (w.alloc (csC 4 A B C)).drew) := ⟨hJ2, Tn.of hb2⟩
 have hx2 : (w.alloc (csC 4 A B C)).drew.heap[w.heap.size]? = some (csC 4 A B C) := HX.out
 clear HJ HX q0 q1 q3 RA RC hb2
 generalize (w.alloc (csC 4 A B C)).drew = w2 at *
 obtain ⟨q0, q1, _, q3⟩ := cs_cells hx2
 obtain ⟨b0, b1, _, _, b5, b6, l1, l2, l3, n1, n2, n3⟩ := bo_all hJ2
 obtain ⟨b7, b8⟩ := b6 rc hlt
 have i0 : (0 : Int) <= (rc : Int) := by omega
 have i1 : (rc : Int) < 12 := by omega
 clear b6 hJ2 hx2
 go_wp2_with fail
 go_region_held3 (fun w' => w'.cell? ⟨c.pb, 0, none⟩ = some (.pointer (some ⟨c.a.pw, 0, none⟩)) /\ w'.cell? ⟨c.a.pw, 3, none⟩ = some (.slice (some ⟨c.a.nb, 0, none⟩) 12 12)) (go_keep)
  (first
   | (go_at_call 56; refine (nil_any _).mono ?_; rintro e w9 ⟨rfl, hw9⟩; have hw9 := hw9.symm; subst hw9))
 obtain ⟨F3, j3, t3⟩ := bo_root HJ2.out.1 rc 2
 have hbd := (Below.refl (w2.setCell ⟨c.a.nb, rc, none⟩ (.int .i64 2)).heap.size (w2.setCell ⟨c.a.nb, rc, none⟩ (.int .i64 2))).drew
 have hJ3 := (boO c).below j3 hbd
 have hT3 := (HJ2.out.2.trans t3).below hbd
 clear j3 t3 hbd b0 b1 b5 b7 b8 HJ2
 generalize (w2.setCell ⟨c.a.nb, rc, none⟩ (.int .i64 2)).drew = w3 at *
 obtain ⟨b0, b1, _⟩ := bo_all hJ3
 obtain ⟨FR, r1, _, r2⟩ := bo_r hJ3
 have P := doNil_any r1 rc hlt
 have HP : Hid (∀ F1 s1 w', (wrO c.rp c.rb c.most c.grow).J F1 s1 w' -> Tn FR w3 F1 w' -> ∃ F', (boO c).J F' (⟨{ S.1.s with rs := S.1.s.rs.set rc 2 }, S.1.r, S.1.q⟩, s1) w' /\ Tn F3 w3 F' w') := r2
 have HT3 : Hid (Tn F w F3 w3) := hT3
 clear r1 r2 hJ3 hT3
 go_wp2_with fail
 refine P.mono ?_
 clear P
 rintro e w4 ⟨rfl, j4, t4⟩
 obtain ⟨F5, j5, t5⟩ := HP.out _ _ _ j4 t4
 have HF : Hid ((boO c).J F5 (⟨{ S.1.s with rs := S.1.s.rs.set rc 2 }, S.1.r, S.1.q⟩, { S.2 with rs := S.2.rs.set rc (0, 0) }) w4 /\ Tn F w F5 w4) := ⟨j5, HT3.out.trans t5⟩
 clear j4 t4 j5 t5 HP HT3
 go_wp2_with fail
 go_ret
 exact ⟨F5, rfl, HF.out.1, HF.out.2⟩
end
end Go.Proofs.YtnalfnlmaallmaaGreat
