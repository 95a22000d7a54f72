/- Joined: Wr9, Wr8, Wr5. -/
import Derived.Test.YtalgochmjddodaaGreatJ26
import Derived.Test.YtalgochmjddodaaGreatJ25
namespace Go.Proofs.YtalgochmjddodaaGreat
set_option maxRecDepth 100000
set_option maxHeartbeats 2000000
open Go.RowKit W Kp Stl
section
variable {rp rb : Nat} {most grow : Int} {F : Nat -> Prop} {s : Wrs} {w : World}
def Wrs.sT (s : Wrs) (A B : Nat) (I : Int) : List Tw1 := s.T.set (s.th A).toNat ((s.T.getD (s.th A).toNat (0, [], false, false)).1, (s.T.getD (s.th A).toNat (0, [], false, false)).2.1.set I.toNat (s.rs.getD B (0, 0)), (s.T.getD (s.th A).toNat (0, [], false, false)).2.2)
theorem doSet_any (h : (wrO rp rb most grow).J F s w) (A B : Nat) (hA : A < 12) (hB : B < 12) (I : Int) (hth : 0 <= s.th A -> s.th A < s.T.length) (hT : ∀ t ∈ s.T, t.2.1.length <= 12) (hl : s.T.length <= 10000) :
  Calls Tryz.prog 31 #[.pointer (some ⟨rp, 0, none⟩), stpV 12 0 A B I 0] w fun e w' => ∃ F', e = .returned (.int .i64 (s.gc A I)) /\ (wrO rp rb most grow).J F' (if s.gc A I = 0 then { s with T := s.sT A B I } else s) w' /\ Tn F w F' w' := by
 have hb0 := (Below.refl w.heap.size w).alloc (Nat.le_refl _) (stpC 12 0 A B I 0)
 have P := stepFault_any 12 0 A B I 0 (Or.inr (Or.inr (Or.inr (Or.inr rfl)))) ⟨by omega, by omega⟩ ⟨by omega, by omega⟩ ⟨by omega, by omega⟩ (w.alloc (stpC 12 0 A B I 0))
 have e1 : sfC 12 0 = 0 := rfl
 rw [e1] at P
 have HJ : Hid ((wrO rp rb most grow).J F s w /\ Below w.heap.size w (w.alloc (stpC 12 0 A B I 0))) := ⟨h, hb0⟩
 have HGC : Hid (s.gc A I = if s.th A < 0 \/ (s.T.getD (s.th A).toNat (0, [], false, false)).1 = 5 then 2 else if I < 0 \/ ((s.T.getD (s.th A).toNat (0, [], false, false)).2.1.length : Int) <= I then 1 else 0) := rfl
 have HGF : Hid (s.sT A B I = s.T.set (s.th A).toNat ((s.T.getD (s.th A).toNat (0, [], false, false)).1, (s.T.getD (s.th A).toNat (0, [], false, false)).2.1.set I.toNat (s.rs.getD B (0, 0)), (s.T.getD (s.th A).toNat (0, [], false, false)).2.2)) := rfl
 clear h hb0 e1
 generalize s.gc A I = z at HGC ⊢
 generalize s.sT A B I = fv at HGF ⊢
 have PT := fun w' (hh : (wrO rp rb most grow).J F s w') => thingW_any hh A hA
 generalize s.th A = a at *
 go_enter Tryz.func31, Tryz.ntmps31
 go_wp2_with fail
 refine P.mono ?_
 clear P
 rintro e w1 ⟨rfl, hb1⟩
 have hb := HJ.out.2.trans (hb1.mono (by simp))
 have hJ1 := (wrO rp rb most grow).below HJ.out.1 hb
 have hx : w1.heap[w.heap.size]? = some (stpC 12 0 A B I 0) := (hb1.block _ (by simp)).trans (heap_alloc_new _ _)
 have q0 : w1.cell? ⟨w.heap.size, 0, none⟩ = some (.int .i64 12) := by simp [World.cell?, hx]
 have q3 : w1.cell? ⟨w.heap.size, 3, none⟩ = some (.int .i64 B) := by simp [World.cell?, hx]
 have q2 : w1.cell? ⟨w.heap.size, 2, none⟩ = some (.int .i64 A) := by simp [World.cell?, hx]
 have q4 : w1.cell? ⟨w.heap.size, 4, none⟩ = some (.int .i64 I) := by simp [World.cell?, hx]
 obtain ⟨c1, _, _, lrp, lrb, cz, hrl, cr⟩ := wr_cells hJ1
 obtain ⟨x0, x1, y0, y1⟩ := cr B hB
 obtain ⟨nrb, hFb, hFp⟩ := wr_ne hJ1
 have lb := (wrO rp rb most grow).lt HJ.out.1 rb hFb
 have lp := (wrO rp rb most grow).lt HJ.out.1 rp hFp
 have nx1 : rb ≠ w.heap.size := by omega
 have nx2 : rp ≠ w.heap.size := by omega
 obtain ⟨aT, cT, t0, tne, tx⟩ := wr_things hJ1
 have HJ1 : Hid ((wrO rp rb most grow).J F s w1 /\ Tn F w F w1) := ⟨hJ1, Tn.of hb⟩
 have Q := PT w1 hJ1
 have r0 : (0 : Int) <= (B : Int) := by omega
 have r1 : (B : Int) < 12 := by omega
 clear hJ1 hb hb1 hx cr cz HJ PT
 go_wp2_with fail
 refine Q.mono ?_
 clear Q
 rintro e w2 ⟨rfl, hw2⟩
 have hw2 := hw2.symm
 subst hw2
 by_cases ha : a < 0
 ·have hz : z = 2 := by rw [HGC.out, if_pos (Or.inl ha)]
  clear tx
  go_wp2_with fail
  go_ret
  exact ⟨rfl, F, HJ1.out.1, HJ1.out.2⟩
 ·obtain ⟨j, rfl⟩ : ∃ j : Nat, a = j := ⟨a.toNat, by omega⟩
  have hlt : j < s.T.length := by have := hth (by omega); omega
  obtain ⟨t, ht⟩ : ∃ t, s.T[j]? = some t := ⟨_, List.getElem?_eq_getElem hlt⟩
  obtain ⟨b, ad, cp, rfl, u0, u1, _, _, hLp, hfn⟩ := tx j t ht
  have ht12 := hT t (List.mem_of_getElem? ht)
  have eT : s.T.getD (j : Int).toNat (0, [], false, false) = t := by rw [Int.toNat_natCast, List.getD_eq_getElem?_getD, ht]; rfl
  rw [eT] at HGC HGF
  have jn : decide ((j : Int) < 0) = false := by simp
  have j0 : (0 : Int) <= (j : Int) := by omega
  have j1 : (j : Int) < (s.T.length : Int) := by omega
  clear tx eT hth hT
  obtain ⟨kd, fs, od, dd⟩ := t
  dsimp only at u0 u1 hLp ht12 HGC HGF hfn
  by_cases hk : kd = 5
  ·subst hk
   have hz : z = 2 := by rw [HGC.out, if_pos (Or.inr rfl)]
   clear hLp hfn ht
   go_wp2_with fail
   go_ret
   exact ⟨rfl, F, HJ1.out.1, HJ1.out.2⟩
  ·have hkb : (kd == 5) = false := by simpa using hk
   by_cases hI : I < 0 \/ (fs.length : Int) <= I
   ·have hz : z = 1 := by rw [HGC.out, if_neg (by omega), if_pos hI]
    by_cases hI0 : I < 0
    ·clear hLp hfn ht
     go_wp2_with fail
     go_ret
     exact ⟨rfl, F, HJ1.out.1, HJ1.out.2⟩
    ·have hI1 : (fs.length : Int) <= I := by omega
     clear hLp hfn ht
     go_wp2_with fail
     go_ret
     exact ⟨rfl, F, HJ1.out.1, HJ1.out.2⟩
   ·have hz : z = 0 := by rw [HGC.out, if_neg (by omega), if_neg hI]
    obtain ⟨l, rfl⟩ : ∃ l : Nat, I = l := ⟨I.toNat, by omega⟩
    rw [Int.toNat_natCast] at HGF
    have hfl : 0 < fs.length := by omega
    obtain ⟨fb, fo, e0, hfb, hc⟩ := hLp hfl
    subst e0
    have hcl : ∀ k u, (ev fs)[k]? = some u -> w1.cell? ((⟨fb, fo, none⟩ : Addr).add k) = some u := fun k u hk => by
     have hkl : k < (ev fs).length := (List.getElem?_eq_some_iff.1 hk).1
     rw [ev_length] at hkl
     obtain ⟨e1, e2⟩ := ev_get fs (k / 2) (by omega)
     obtain ⟨d1, d2⟩ := hc (k / 2) (by omega)
     rw [Addr.add_lit]
     rcases Nat.mod_two_eq_zero_or_one k with hm | hm
     ·have ek : k = k / 2 * 2 := by omega
      rw [ek, e1] at hk
      have ek2 : fo + k = fo + k / 2 * 2 := by omega
      rw [ek2, d1]
      exact hk
     ·have ek : k = k / 2 * 2 + 1 := by omega
      rw [ek, e2] at hk
      have ek2 : fo + k = fo + k / 2 * 2 + 1 := by omega
      rw [ek2, d2]
      exact hk
    have hon : ∀ u ∈ ev fs, u.oneCell' = true := fun u hu => by
     simp [ev] at hu
     obtain ⟨a, b, _, h | h⟩ := hu <;> (rw [h]; rfl)
    obtain ⟨i0, hi0, hz0, hz1, hz2⟩ := info_parts infoVal
    have HZ : Hid (z = 0) := hz
    generalize hg1 : (s.rs.getD B (0, 0)).1 = g1 at x0
    generalize hg2 : (s.rs.getD B (0, 0)).2 = g2 at x1
    have HFV : Hid (fv = s.T.set j (kd, fs.set l (g1, g2), od, dd)) := by
     show _ = _
     rw [HGF.out, <- hg1, <- hg2, Int.toNat_natCast]
    have l0 : (0 : Int) <= (l : Int) := by omega
    have l1 : (l : Int) < (fs.length : Int) := by omega
    have nl0 : ¬ (l : Int) < 0 := by omega
    have nl1 : ¬ (fs.length : Int) <= (l : Int) := by omega
    obtain ⟨b9, e9, tn1, tn2⟩ := tne (by omega)
    cases e9
    have HTT : Hid (s.T[j]? = some (kd, fs, od, dd)) := ht
    have ltb := World.block_lt_of_cell? w1 _ u1
    clear hc tne hz HGC HGF hI hfn hg1 hg2 hLp ht
    have sx : w.heap.size < w1.heap.size := World.block_lt_of_cell? w1 _ q0
    go_upto_region 63 with (at_builtin; refine wpList_append_src _ rfl _ _ 49 rfl w1.heap.size 95 i0 (.agg #[.int .i64 0, .int .i64 0]) 2 16 Tryz.underlying49 hi0 hz0 hz1 hz2 rfl (by decide) (.slice none 0 0) 0 [] rfl (World.ownsRow_nil _ _ _ _) (some ⟨fb, fo, none⟩) fs.length cp (ev fs) rfl (ev_length fs) (fun e => by simp at e) (fun a e k u hk => by cases e; exact hcl k u hk) hon (by unfold maxLen; omega) (by omega) (Nat.le_refl _) ?_; intro aq cq w2 hoq hgq hlq; rw [Nat.zero_add, List.nil_append] at hoq; obtain ⟨nb, ncap, enb⟩ := row_shape hoq hfl; cases enb; have HNB : Hid (nb = w1.heap.size) := (by show nb = w1.heap.size; rcases hlq with e | e <;> simp [Value.ownBlock] at e; exact e); have hbq : Below w1.heap.size w1 w2 := (Below.refl _ _).grown hgq (Nat.le_refl _) (fun _ h => by cases h); have p0 := (hbq.cell (p := ⟨w.heap.size, 3, none⟩) sx).trans q3; have p1 := (hbq.cell (p := ⟨w.heap.size, 4, none⟩) sx).trans q4; have p2 := (hbq.cell (p := ⟨rp, 1, none⟩) lrp).trans c1; have p3 := (hbq.cell (p := ⟨rb, B * 2, none⟩) lrb).trans x0; have p4 := (hbq.cell (p := ⟨rb, B * 2 + 1, none⟩) lrb).trans x1; have p5 := (hbq.cell (p := ⟨rp, 0, none⟩) lrp).trans t0; have lnb := (row_lt hoq nb rfl).2)
    have fz := fun o => show w2.frozen? ⟨nb, o, none⟩ = false from (by
     obtain ⟨cur, hcur⟩ := row_type hoq nb rfl
     simp [World.frozen?, hcur])
    have f0 := fz (l * 2)
    have f1 := fz (l * 2 + 1)
    have nn1 : nb ≠ w.heap.size := by have := HNB.out; omega
    have nn2 : nb ≠ rp := by have := HNB.out; omega
    have nn3 : nb ≠ rb := by have := HNB.out; omega
    obtain ⟨b', o', e', _, hcc⟩ := row_pairs hoq hfl
    cases e'
    obtain ⟨m0, m1⟩ := hcc l (by omega)
    rw [Nat.zero_add] at m0 m1
    generalize (fs.getD l (0, 0)).1 = og1 at m0
    generalize (fs.getD l (0, 0)).2 = og2 at m1
    have HR : Hid (w2.ownsRow w1.heap.size 95 2 (.slice (some ⟨nb, 0, none⟩) fs.length cq) fs.length (ev fs) /\ Below w1.heap.size w1 w2) := ⟨hoq, hbq⟩
    clear fz hoq hgq hlq hbq hcc
    go_region_held3 (fun w' => w'.cell? ⟨w.heap.size, 3, none⟩ = some (.int .i64 B) /\ w'.cell? ⟨w.heap.size, 4, none⟩ = some (.int .i64 l) /\ w'.cell? ⟨rp, 1, none⟩ = some (.slice (some ⟨rb, 0, none⟩) 12 12) /\ w'.cell? ⟨rb, B * 2, none⟩ = some (.int .i64 g1) /\ w'.cell? ⟨rb, B * 2 + 1, none⟩ = some (.int .i64 g2)) (go_keep) (fail)
    have hnb := HNB.out
    have hsz : ∀ u v, ((w2.setCell ⟨nb, l * 2, none⟩ u).setCell ⟨nb, l * 2 + 1, none⟩ v).heap.size = w2.heap.size := fun u v => by simp [World.setCell]
    have hkk : ∀ u v k, k ≠ nb -> ((w2.setCell ⟨nb, l * 2, none⟩ u).setCell ⟨nb, l * 2 + 1, none⟩ v).heap[k]? = w2.heap[k]? := fun u v k hk => (Below.heap_setCell _ _ _ _ hk).trans (Below.heap_setCell _ _ _ _ hk)
    have hrow := row_put (row_put HR.out.1 (l * 2) (.int .i64 g1)) (l * 2 + 1) (.int .i64 g2)
    rw [<- ev_root fs l (g1, g2)] at hrow
    have hB3 : Below w1.heap.size w1 ((w2.setCell ⟨nb, l * 2, none⟩ (.int .i64 g1)).setCell ⟨nb, l * 2 + 1, none⟩ (.int .i64 g2)) := (HR.out.2.setCell (by show w1.heap.size <= nb; omega) _).setCell (by show w1.heap.size <= nb; omega) _
    have hrow := row_keep (w' := ((w2.setCell ⟨nb, l * 2, none⟩ (.int .i64 g1)).setCell ⟨nb, l * 2 + 1, none⟩ (.int .i64 g2)).drew) hrow (fun _ _ => rfl)
    have hB3 := hB3.drew
    have p5 := (hB3.cell (p := ⟨rp, 0, none⟩) lrp).trans t0
    have p6 := (hB3.cell (p := ⟨b, j * 4 + 1, none⟩) ltb).trans u1
    have hJ3 := (wrO rp rb most grow).below HJ1.out.1 hB3
    have hT3 := HJ1.out.2.below hB3
    have hl3 := hB3.size
    have hl1 := HJ1.out.2.fr.size
    have ltF := (wrO rp rb most grow).lt HJ1.out.1
    generalize ((w2.setCell ⟨nb, l * 2, none⟩ (.int .i64 g1)).setCell ⟨nb, l * 2 + 1, none⟩ (.int .i64 g2)).drew = w3 at *
    obtain ⟨mm, vT, hmm, cT3, hrow3, _, _, _, hset⟩ := wr_row hJ3
    obtain rfl : vT = .slice (some ⟨b, 0, none⟩) s.T.length cT := by
     have := cT3.symm.trans p5
     simpa using this
    obtain ⟨x, hx, hxe⟩ : ∃ x, mm[j]? = some x /\ x.1 = (kd, fs, od, dd) := by
     have h1 := HTT.out
     rw [<- hmm] at h1
     simp at h1
     obtain ⟨a, b, c⟩ := h1
     exact ⟨_, c, rfl⟩
    obtain ⟨s1, s2⟩ := hset j x (some ⟨nb, 0, none⟩) cq (fs.set l (g1, g2)) b hx rfl (row_pairs (by simpa using hrow)) (fun b' o' _ e => by
     cases e
     intro d
     have := ltF _ d
     omega)
    rw [hxe, List.length_set] at s1
    rw [List.length_set] at s2
    have fzb : w3.frozen? ⟨b, j * 4 + 1, none⟩ = false := by
     obtain ⟨cur, hcur⟩ := row_type hrow3 b rfl
     simp [World.frozen?, hcur]
    have HF : Hid (∃ F', (wrO rp rb most grow).J F' { s with T := fv } (w3.setCell ⟨b, j * 4 + 1, none⟩ (.slice (some ⟨nb, 0, none⟩) fs.length cq)) /\ Tn F w F' (w3.setCell ⟨b, j * 4 + 1, none⟩ (.slice (some ⟨nb, 0, none⟩) fs.length cq))) := by
     rw [HFV.out]
     refine ⟨_, s1, ⟨hT3.fr.trans s2 (fun _ d => Or.inl d), fun b' d => ?_⟩⟩
     rcases d with d | ⟨_, o', e⟩
     ·exact Or.inl d
     ·cases e
      exact Or.inr (by omega)
    clear hrow hJ3 hT3 hset hrow3 s1 s2 hmm hx hxe HR hkk hsz cT3 hnb
    go_wp2_with fail
    go_ret
    obtain ⟨F', k1, k2⟩ := HF.out
    try rw [HZ.out]
    exact ⟨rfl, F', k1, k2⟩
end
end Go.Proofs.YtalgochmjddodaaGreat

namespace Go.Proofs.YtalgochmjddodaaGreat
set_option maxRecDepth 100000
set_option maxHeartbeats 2000000
open Go.RowKit W Kp Stl
section
variable {rp rb : Nat} {most grow : Int} {F : Nat -> Prop} {s : Wrs} {w : World}
theorem doGet_any (h : (wrO rp rb most grow).J F s w) (R A : Nat) (hR : R < 12) (hA : A < 12) (I : Int) (hth : 0 <= s.th A -> s.th A < s.T.length) (hT : ∀ t ∈ s.T, t.2.1.length <= 12) (hl : s.T.length <= 10000) :
  Calls Tryz.prog 31 #[.pointer (some ⟨rp, 0, none⟩), stpV 11 R A 0 I 0] w fun e w' => e = .returned (.int .i64 (s.gc A I)) /\ (wrO rp rb most grow).J F (if s.gc A I = 0 then { s with rs := s.rs.set R (s.gf A I) } else s) w' /\ Tn F w F w' := by
 have hb0 := (Below.refl w.heap.size w).alloc (Nat.le_refl _) (stpC 11 R A 0 I 0)
 have P := stepFault_any 11 R A 0 I 0 (Or.inr (Or.inr (Or.inr (Or.inl rfl)))) ⟨by omega, by omega⟩ ⟨by omega, by omega⟩ ⟨by omega, by omega⟩ (w.alloc (stpC 11 R A 0 I 0))
 have e1 : sfC 11 0 = 0 := rfl
 rw [e1] at P
 have HJ : Hid ((wrO rp rb most grow).J F s w /\ Below w.heap.size w (w.alloc (stpC 11 R A 0 I 0))) := ⟨h, hb0⟩
 have HGC : Hid (s.gc A I = if s.th A < 0 \/ (s.T.getD (s.th A).toNat (0, [], false, false)).1 = 5 then 2 else if I < 0 \/ ((s.T.getD (s.th A).toNat (0, [], false, false)).2.1.length : Int) <= I then 1 else 0) := rfl
 have HGF : Hid (s.gf A I = (s.T.getD (s.th A).toNat (0, [], false, false)).2.1.getD I.toNat (0, 0)) := rfl
 clear h hb0 e1
 generalize s.gc A I = z at HGC ⊢
 generalize s.gf A I = fv at HGF ⊢
 have PT := fun w' (hh : (wrO rp rb most grow).J F s w') => thingW_any hh A hA
 generalize s.th A = a at *
 go_enter Tryz.func31, Tryz.ntmps31
 go_wp2_with fail
 refine P.mono ?_
 clear P
 rintro e w1 ⟨rfl, hb1⟩
 have hb := HJ.out.2.trans (hb1.mono (by simp))
 have hJ1 := (wrO rp rb most grow).below HJ.out.1 hb
 have hx : w1.heap[w.heap.size]? = some (stpC 11 R A 0 I 0) := (hb1.block _ (by simp)).trans (heap_alloc_new _ _)
 have q0 : w1.cell? ⟨w.heap.size, 0, none⟩ = some (.int .i64 11) := by simp [World.cell?, hx]
 have q1 : w1.cell? ⟨w.heap.size, 1, none⟩ = some (.int .i64 R) := by simp [World.cell?, hx]
 have q2 : w1.cell? ⟨w.heap.size, 2, none⟩ = some (.int .i64 A) := by simp [World.cell?, hx]
 have q4 : w1.cell? ⟨w.heap.size, 4, none⟩ = some (.int .i64 I) := by simp [World.cell?, hx]
 obtain ⟨c1, _, _, lrp, lrb, cz, hrl, cr⟩ := wr_cells hJ1
 obtain ⟨x0, x1, y0, y1⟩ := cr R hR
 obtain ⟨nrb, hFb, hFp⟩ := wr_ne hJ1
 have lb := (wrO rp rb most grow).lt HJ.out.1 rb hFb
 have lp := (wrO rp rb most grow).lt HJ.out.1 rp hFp
 have nx1 : rb ≠ w.heap.size := by omega
 have nx2 : rp ≠ w.heap.size := by omega
 obtain ⟨aT, cT, t0, tne, tx⟩ := wr_things hJ1
 have HJ1 : Hid ((wrO rp rb most grow).J F s w1 /\ Tn F w F w1) := ⟨hJ1, Tn.of hb⟩
 have Q := PT w1 hJ1
 have r0 : (0 : Int) <= (R : Int) := by omega
 have r1 : (R : Int) < 12 := by omega
 clear hJ1 hb hb1 hx cr cz HJ PT
 go_wp2_with fail
 refine Q.mono ?_
 clear Q
 rintro e w2 ⟨rfl, hw2⟩
 have hw2 := hw2.symm
 subst hw2
 by_cases ha : a < 0
 ·have hz : z = 2 := by rw [HGC.out, if_pos (Or.inl ha)]
  clear tx
  go_wp2_with fail
  go_ret
  exact ⟨rfl, HJ1.out.1, HJ1.out.2⟩
 ·obtain ⟨j, rfl⟩ : ∃ j : Nat, a = j := ⟨a.toNat, by omega⟩
  have hlt : j < s.T.length := by have := hth (by omega); omega
  obtain ⟨t, ht⟩ : ∃ t, s.T[j]? = some t := ⟨_, List.getElem?_eq_getElem hlt⟩
  obtain ⟨b, ad, cp, rfl, u0, u1, _, _, hLp, hfn⟩ := tx j t ht
  have ht12 := hT t (List.mem_of_getElem? ht)
  have eT : s.T.getD (j : Int).toNat (0, [], false, false) = t := by rw [Int.toNat_natCast, List.getD_eq_getElem?_getD, ht]; rfl
  rw [eT] at HGC HGF
  have jn : decide ((j : Int) < 0) = false := by simp
  have j0 : (0 : Int) <= (j : Int) := by omega
  have j1 : (j : Int) < (s.T.length : Int) := by omega
  clear tx ht eT hth hT
  obtain ⟨kd, fs, od, dd⟩ := t
  dsimp only at u0 u1 hLp ht12 HGC HGF hfn
  by_cases hk : kd = 5
  ·subst hk
   have hz : z = 2 := by rw [HGC.out, if_pos (Or.inr rfl)]
   clear hLp hfn
   go_wp2_with fail
   go_ret
   exact ⟨rfl, HJ1.out.1, HJ1.out.2⟩
  ·have hkb : (kd == 5) = false := by simpa using hk
   by_cases hI : I < 0 \/ (fs.length : Int) <= I
   ·have hz : z = 1 := by rw [HGC.out, if_neg (by omega), if_pos hI]
    by_cases hI0 : I < 0
    ·clear hLp hfn
     go_wp2_with fail
     go_ret
     exact ⟨rfl, HJ1.out.1, HJ1.out.2⟩
    ·have hI1 : (fs.length : Int) <= I := by omega
     clear hLp hfn
     go_wp2_with fail
     go_ret
     exact ⟨rfl, HJ1.out.1, HJ1.out.2⟩
   ·have hz : z = 0 := by rw [HGC.out, if_neg (by omega), if_neg hI]
    obtain ⟨l, rfl⟩ : ∃ l : Nat, I = l := ⟨I.toNat, by omega⟩
    rw [Int.toNat_natCast] at HGF
    obtain ⟨fb, fo, e0, hfb, hc⟩ := hLp (by omega)
    obtain ⟨v0, v1⟩ := hc l (by omega)
    subst e0
    have HZ : Hid (z = 0) := hz
    have HFV : Hid (fv = ((fs.getD l (0, 0)).1, (fs.getD l (0, 0)).2)) := HGF.out
    generalize (fs.getD l (0, 0)).1 = g1 at v0 HFV
    generalize (fs.getD l (0, 0)).2 = g2 at v1 HFV
    have l0 : (0 : Int) <= (l : Int) := by omega
    have l1 : (l : Int) < (fs.length : Int) := by omega
    have nl0 : ¬ (l : Int) < 0 := by omega
    have nl1 : ¬ (fs.length : Int) <= (l : Int) := by omega
    obtain ⟨b9, e9, tn1, tn2⟩ := tne (by omega)
    cases e9
    obtain ⟨fn1, fn2, _⟩ := hfn fb fo (by omega) rfl
    have fn1 := Ne.symm fn1
    have tn2 := Ne.symm tn2
    clear hc tne hz HGC HGF hI hfn
    go_wp2_with fail
    go_region_held3 (fun w' => w'.cell? ⟨rp, 1, none⟩ = some (.slice (some ⟨rb, 0, none⟩) 12 12) /\ w'.cell? ⟨w.heap.size, 1, none⟩ = some (.int .i64 R) /\ w'.cell? ⟨rp, 0, none⟩ = some (.slice (some ⟨b, 0, none⟩) s.T.length cT) /\ w'.cell? ⟨b, j * 4 + 1, none⟩ = some (.slice (some ⟨fb, fo, none⟩) fs.length cp) /\ w'.cell? ⟨w.heap.size, 4, none⟩ = some (.int .i64 l) /\ w'.cell? ⟨fb, fo + l * 2, none⟩ = some (.int .i64 g1) /\ w'.cell? ⟨fb, fo + l * 2 + 1, none⟩ = some (.int .i64 g2)) (go_keep) (fail)
    obtain ⟨hJ2, hT2⟩ := wr_root HJ1.out.1 R (g1, g2)
    have HJ2 : Hid (_ /\ _) := ⟨(wrO rp rb most grow).below hJ2 (Below.refl _ _).drew, (HJ1.out.2.trans hT2).below (Below.refl _ _).drew⟩
    clear hJ2 hT2
    go_wp2_with fail
    go_ret
    try rw [HZ.out]
    rw [HFV.out]
    exact ⟨rfl, HJ2.out.1, HJ2.out.2⟩
end
end Go.Proofs.YtalgochmjddodaaGreat

namespace Go.Proofs.YtalgochmjddodaaGreat
set_option maxRecDepth 100000
set_option maxHeartbeats 2000000
open Go.RowKit W Kp Stl
def Wrs.fB (s : Wrs) (most k f : Int) : Bool := decide (hc k f = 0 /\ 1 + f <= most - (usd s.T).1)
def Wrs.fr (s : Wrs) (most : Int) (i : Nat) (k f : Int) : Wrs := if s.fB most k f = true then { s with T := s.T ++ [(k, List.replicate f.toNat (0, 0), false, false)], rs := s.rs.set i (3, (s.T.length : Int)) } else s
theorem infoThing : (Tryz.prog.info? 123).map (fun i => (i.zero, i.size, i.bytes)) = some (some (.agg #[.int .i64 0, .slice none 0 0, .bool false, .bool false]), 4, 40) := by kernel_rfl
section
variable {rp rb : Nat} {most grow : Int} {F : Nat -> Prop} {s : Wrs} {w : World}
theorem fresh_no (h : (wrO rp rb most grow).J F s w) (hT : ∀ t ∈ s.T, t.2.1.length <= 12) (hl : s.T.length <= 10000) (hm0 : 0 <= most) (hm : most <= 100000) (i : Nat) (k f : Int) (hb : s.fB most k f = false) :
  Calls Tryz.prog 50 #[.pointer (some ⟨rp, 0, none⟩), .int .i64 i, .int .i64 k, .int .i64 f] w fun e w' => e = .returned (.bool false) /\ Below w.heap.size w w' := by
 have P := usedW_any h hT hl
 have HJ : Hid ((wrO rp rb most grow).J F s w) := h
 have bd := usd_bd s.T hT
 have hh := of_decide_eq_false hb
 have hc5 := hc_bd k f
 generalize (usd s.T).1 = x at P bd hh
 generalize (usd s.T).2 = y at P bd
 obtain ⟨bd1, bd2, bd3, bd4⟩ := bd
 have Fi := fits_any k f
 clear h hb hT
 by_cases h0 : hc k f = 0
 ·have hf := hc5 h0
  have hlt : most - x < 1 + f := by
   by_cases c : 1 + f <= most - x
   ·exact absurd ⟨h0, c⟩ hh
   ·omega
  rw [h0] at Fi
  clear h0 hh hc5
  go_enter Tryz.func50, Tryz.ntmps50
  go_wp2_with fail
  refine P.mono ?_
  clear P
  rintro e w1 ⟨rfl, hb1⟩
  obtain ⟨_, c4, _⟩ := wr_cells ((wrO rp rb most grow).below HJ.out hb1)
  go_wp2_with fail
  refine (Fi w1).mono ?_
  rintro e w2 ⟨rfl, hw2⟩
  have hw2 := hw2.symm
  subst hw2
  go_wp2_with fail
  go_ret
  exact ⟨rfl, hb1⟩
 ·have hne : (hc k f != 0) = true := by simpa using h0
  generalize hc k f = z at *
  clear hh hc5
  go_enter Tryz.func50, Tryz.ntmps50
  go_wp2_with fail
  refine P.mono ?_
  clear P
  rintro e w1 ⟨rfl, hb1⟩
  go_wp2_with fail
  refine (Fi w1).mono ?_
  rintro e w2 ⟨rfl, hw2⟩
  have hw2 := hw2.symm
  subst hw2
  go_wp2_with fail
  go_ret
  exact ⟨rfl, hb1⟩
theorem fresh_yes (h : (wrO rp rb most grow).J F s w) (hT : ∀ t ∈ s.T, t.2.1.length <= 12) (hl : s.T.length <= 10000) (hm0 : 0 <= most) (hm : most <= 100000) (i : Nat) (hi : i < 12) (k f : Int) (hb : s.fB most k f = true) :
    Calls Tryz.prog 50 #[.pointer (some ⟨rp, 0, none⟩), .int .i64 i, .int .i64 k, .int .i64 f] w fun e w' => ∃ F', e = .returned (.bool true) /\ (wrO rp rb most grow).J F' (s.fr most i k f) w' /\ Tn F w F' w' := by
  have P := usedW_any h hT hl
  have HJ : Hid ((wrO rp rb most grow).J F s w) := h
  have bd := usd_bd s.T hT
  obtain ⟨h0, h1⟩ := of_decide_eq_true hb
  have hf := hc_bd k f h0
  have ES : Hid (s.fr most i k f = { s with T := s.T ++ [(k, List.replicate f.toNat (0, 0), false, false)], rs := s.rs.set i (3, (s.T.length : Int)) }) := by
    show _ = _
    unfold Wrs.fr
    rw [if_pos hb]
  generalize s.fr most i k f = s9 at ES ⊢
  generalize (usd s.T).1 = x at P bd h1
  generalize (usd s.T).2 = y at P bd
  obtain ⟨bd1, bd2, bd3, bd4⟩ := bd
  obtain ⟨_, _, hk1, hk2⟩ := hf
  have Fi := fits_any k f
  rw [h0] at Fi
  obtain ⟨m, rfl⟩ : ∃ m : Nat, f = m := ⟨f.toNat, by omega⟩
  rw [Int.toNat_natCast] at ES
  obtain ⟨i0, hi0, hz0, hz1, hz2⟩ := info_parts infoVal
  obtain ⟨j0, hj0, hw0, hw1, hw2⟩ := info_parts infoThing
  have hm12 : m <= 12 := by omega
  clear h hb hT h0
  go_enter Tryz.func50, Tryz.ntmps50
  go_wp2_with fail
  refine P.mono ?_
  clear P
  rintro e w1 ⟨rfl, hb1⟩
  obtain ⟨_, c4, _⟩ := wr_cells ((wrO rp rb most grow).below HJ.out hb1)
  go_wp2_with fail
  refine (Fi w1).mono ?_
  rintro e w2 ⟨rfl, hw2'⟩
  have hw2' := hw2'.symm
  subst hw2'
  have hJ1 := (wrO rp rb most grow).below HJ.out hb1
  have HJ1 : Hid ((wrO rp rb most grow).J F s w1 /\ Tn F w F w1) := ⟨hJ1, Tn.of hb1⟩
  have hlw := hb1.size
  have ltF : Hid (∀ b, F b -> b < w1.heap.size) := (wrO rp rb most grow).lt hJ1
  clear hJ1 hb1 HJ
  go_wp2_with fail
  go_loopw [12] (fun iv wr => ∃ (j : Nat) (ad : Option Addr) (cp : Nat), j <= m /\ iv = .int .i64 j /\ wr.heap[w1.heap.size]? = some (.cells #[.int .i64 k, .slice ad j cp, .bool false, .bool false] 123 (0, 0)) /\ wr.ownsRow (w1.heap.size + 1) 95 2 (.slice ad j cp) j (ev (List.replicate j (0, 0))) /\ Below w1.heap.size w1 wr) (fun iv _ => m - (intOf iv).toNat)
  case atStart => exact ⟨0, none, 0, Nat.zero_le _, rfl, heap_alloc_new _ _, World.ownsRow_nil _ _ _ _, (Below.refl _ w1).alloc (Nat.le_refl _) _⟩
  case round =>
    obtain ⟨j, ad, cp, hj, rfl, ht, hR, hb⟩ := hrel
    have lt1 := lt_of_some ht
    by_cases hlt : j < m
    · have d1 : wr.cell? ⟨w1.heap.size, 1, none⟩ = some (.slice ad j cp) := by simp [World.cell?, ht]
      have HT : Hid (wr.heap[w1.heap.size]? = some (.cells #[.int .i64 k, .slice ad j cp, .bool false, .bool false] 123 (0, 0)) /\ Below w1.heap.size w1 wr) := ⟨ht, hb⟩
      have rne : some w1.heap.size ≠ (Value.slice ad j cp).ownBlock := fun e => by have := (row_lt hR _ e).1; omega
      clear ht hb
      go_wp2_with (at_builtin; refine wpList_append_own_at _ rfl _ _ 49 rfl (w1.heap.size + 1) 95 i0 (.agg #[.int .i64 0, .int .i64 0]) 2 16 Tryz.underlying49 hi0 hz0 hz1 hz2 rfl (by decide) (.slice ad j cp) j (ev (List.replicate j (0, 0))) rfl (row_alloc hR _) ⟨wr.heap.size, 0, none⟩ 1 1 [.int .i64 0, .int .i64 0] rfl rfl ?_ ?_ ?_ ?_ ?_ ?_; (intro j u hj; match j, hj with | 0, hj => (simp at hj; subst hj; simp [Addr.add]) | 1, hj => (simp at hj; subst hj; simp [Addr.add])); (intro u hu; simp at hu; subst hu; rfl); (unfold maxLen; omega); omega; (simp; omega); intro v' w4 hown4 hgrow4 _ hloc4; obtain ⟨b4, cap4, ev4⟩ := row_shape hown4 (Nat.succ_pos _); subst ev4; have kb := (hgrow4.block w1.heap.size (by simp; omega) rne).trans (Below.heap_alloc _ _ _ lt1); have g1 := (World.cell?_of_block (a := ⟨w1.heap.size, 1, none⟩) kb).trans d1; have f1 : w4.frozen? ⟨w1.heap.size, 1, none⟩ = false := (World.frozen?_of_block (a := ⟨w1.heap.size, 1, none⟩) kb).trans (by simp [World.frozen?, HT.out.1]))
      have hb4 : Below w1.heap.size w1 w4 := (HT.out.2.alloc HT.out.2.size _).grown hgrow4 (by simp; have := HT.out.2.size; omega) (fun b e => by have := (row_lt hR b e.symm).1; omega)
      go_roundw
      case rel =>
        refine ⟨j + 1, some ⟨b4, 0, none⟩, cap4, by omega, by go_num, ?_, ?_, hb4.setCell (Nat.le_refl _) _⟩
        · have hq := kb.trans HT.out.1
          simp only [World.setCell, Array.getElem?_modify, if_true, hq, Option.map_some]
          simp
        · refine row_keep (w := w4) ?_ (fun b e => Below.heap_setCell _ _ _ _ (fun e' => ?_))
          · rw [List.replicate_succ', ev_append]
            simpa [ev] using hown4
          · have e' : b = w1.heap.size := e'
            have := (row_lt hown4 b (by simpa [Value.ownBlock] using e)).1
            omega
      case measure => simp [intOf]; omega
    · obtain rfl : j = m := by omega
      have hJr := (wrO rp rb most grow).below HJ1.out.1 hb
      obtain ⟨c1, _, _, lrp, lrb, cz, hrl, cr⟩ := wr_cells hJr
      obtain ⟨x0, x1, y0, y1⟩ := cr i hi
      obtain ⟨mm, vT, hmm, cT, hrow, ⟨rn1, rn2⟩, hvF, _, _⟩ := wr_row hJr
      have eml : mm.length = s.T.length := by rw [<- hmm]; simp
      obtain ⟨aT0, capT0, eT⟩ := row_slice hrow
      subst eT
      rw [eml] at cT
      have nrb : rb ≠ rp := fun e => by
        obtain ⟨own, m2, vT2, v22, v32, hM, _⟩ := hJr
        have h1 := hM.r1
        rw [e, hM.b1] at h1
        omega
      have HJr : Hid ((wrO rp rb most grow).J F s wr /\ Tn F w F wr) := ⟨hJr, HJ1.out.2.below hb⟩
      have HT : Hid (wr.heap[w1.heap.size]? = some (.cells #[.int .i64 k, .slice ad j cp, .bool false, .bool false] 123 (0, 0)) /\ wr.ownsRow (w1.heap.size + 1) 95 2 (.slice ad j cp) j (ev (List.replicate j (0, 0))) /\ w1.heap.size <= wr.heap.size) := ⟨ht, hR, hb.size⟩
      have i0' : (0 : Int) <= (i : Int) := by omega
      have i1' : (i : Int) < 12 := by omega
      clear hJr cr cz hvF hrow ht hR hb HJ1 hmm
      go_wp2_with fail
      go_region_held3 (fun w' => w'.cell? ⟨rp, 1, none⟩ = some (.slice (some ⟨rb, 0, none⟩) 12 12) /\ w'.cell? ⟨rp, 0, none⟩ = some (.slice aT0 s.T.length capT0)) (go_keep) (fail)
      obtain ⟨hJ2, hT2⟩ := wr_root HJr.out.1 i (3, (s.T.length : Int))
      have nlt : rb ≠ w1.heap.size := fun e => by
        have h1 := ltF.out rb (by
          obtain ⟨own, m2, vT2, v22, v32, hM, hF2⟩ := HJr.out.1
          exact (hF2 rb).2 (by rw [hM.r1]; decide))
        omega
      have hfr2 : Fr (fun b => b = rb) wr ((wr.setCell ⟨rb, i * 2, none⟩ (.int .i64 3)).setCell ⟨rb, i * 2 + 1, none⟩ (.int .i64 s.T.length)).drew := (((Fr.refl (fun b => b = rb) wr).set rb _ _ rfl).set rb _ _ rfl).drew
      have hJ5 := (wrO rp rb most grow).below hJ2 (Below.refl _ _).drew
      have hT5 := (HJr.out.2.trans hT2).below (Below.refl _ _).drew
      dsimp only at hJ5 hT5
      have ht5 := (hfr2.block w1.heap.size lt1 (fun e => nlt e.symm)).trans HT.out.1
      have hrbF : F rb := by
        obtain ⟨own, m2, vT2, v22, v32, hM, hF2⟩ := HJr.out.1
        exact (hF2 rb).2 (by rw [hM.r1]; decide)
      have hR5 := row_fr HT.out.2.1 hfr2 (fun b e e' => by
        have h1 := (row_lt HT.out.2.1 b e).1
        have h2 := ltF.out b (by rw [e']; exact hrbF)
        omega)
      have hsz5 := hfr2.size
      have e05 := (World.cell?_of_block (a := ⟨rp, 0, none⟩) (hfr2.block rp lrp (fun e => nrb e.symm))).trans cT
      generalize ((wr.setCell ⟨rb, i * 2, none⟩ (.int .i64 3)).setCell ⟨rb, i * 2 + 1, none⟩ (.int .i64 s.T.length)).drew = w5 at *
      clear hJ2 hT2 x0 x1 y0 y1 cT c1
      obtain ⟨mm, vT, hmm, cT, hrow, ⟨rn1, rn2⟩, hvF, hadd, _⟩ := wr_row hJ5
      have eml : mm.length = s.T.length := by rw [<- List.length_map (f := fun x => x.1), hmm]
      obtain rfl : vT = .slice aT0 s.T.length capT0 := by
        have := cT.symm.trans e05
        simpa using this
      rw [eml] at hrow
      have HEM : Hid (mm.length = s.T.length) := eml
      clear eml
      obtain ⟨_, _, _, lrp5, _, cz5, _⟩ := wr_cells hJ5
      have z0 := cz5 0
      have t0 : w5.cell? ⟨w1.heap.size, 0, none⟩ = some (.int .i64 k) := by simp [World.cell?, ht5]
      have t1 : w5.cell? ⟨w1.heap.size, 1, none⟩ = some (.slice ad j cp) := by simp [World.cell?, ht5]
      have t2 : w5.cell? ⟨w1.heap.size, 2, none⟩ = some (.bool false) := by simp [World.cell?, ht5]
      have t3 : w5.cell? ⟨w1.heap.size, 3, none⟩ = some (.bool false) := by simp [World.cell?, ht5]
      have lt5 := lt_of_some ht5
      have hbd := ((Below.refl w5.heap.size w5).alloc (Nat.le_refl _) (.cells #[.int .i64 k, .slice ad j cp, .bool false, .bool false] 123)).drew
      have HSd : Hid ((w5.alloc (.cells #[.int .i64 k, .slice ad j cp, .bool false, .bool false] 123)).drew.ownsRow 0 123 4 (.slice aT0 s.T.length capT0) s.T.length (tv mm)) := row_keep (row_alloc hrow _) (fun _ _ => rfl)
      have HJ5 : Hid ((wrO rp rb most grow).J F { s with rs := s.rs.set i (3, (s.T.length : Int)) } w5 /\ Tn F w F w5) := ⟨hJ5, hT5⟩
      have HA := hadd
      have HR5 : Hid (w5.ownsRow (w1.heap.size + 1) 95 2 (.slice ad j cp) j (ev (List.replicate j (0, 0))) /\ w5.ownsRow 0 123 4 (.slice aT0 s.T.length capT0) s.T.length (tv mm) /\ ∀ b, some b = (Value.slice aT0 s.T.length capT0).ownBlock -> F b) := ⟨hR5, hrow, hvF⟩
      have HA : Hid (∀ (x : Tnd) (v1 : Value) (w1 : World), Fr (fun b => some b = (Value.slice aT0 s.T.length capT0).ownBlock) w5 w1 -> w1.ownsRow 0 123 4 v1 (mm ++ [x]).length (tv (mm ++ [x])) -> (∀ b, some b = v1.ownBlock -> some b = (Value.slice aT0 s.T.length capT0).ownBlock \/ w5.heap.size <= b) -> Lp w1 x.2.1 x.1.2.1 -> (∀ b o, 0 < x.1.2.1.length -> x.2.1 = some ⟨b, o, none⟩ -> ¬ F b /\ some b ≠ v1.ownBlock) ->
          (wrO rp rb most grow).J (fun b => F b \/ some b = v1.ownBlock \/ (0 < x.1.2.1.length /\ ∃ o, x.2.1 = some ⟨b, o, none⟩)) { s with rs := s.rs.set i (3, (s.T.length : Int)), T := s.T ++ [x.1] } (w1.setCell ⟨rp, 0, none⟩ v1) /\ Fr F w5 (w1.setCell ⟨rp, 0, none⟩ v1)) := hadd
      clear hadd hrow hvF hJ5 hT5 ht5 hR5 cz5 hmm HT hfr2 HJr
      go_wp2_with fail
      go_region_law (refine step_append_lies _ rfl (.tmp 62) (.tmp 64) 114 rfl 0 123 j0 (.agg #[.int .i64 0, .slice none 0 0, .bool false, .bool false]) 4 40 Tryz.underlying114 hj0 hw0 hw1 hw2 rfl (by decide) (.slice aT0 s.T.length capT0) s.T.length (tv mm) (by simp [Act.eval]) HSd.out ⟨w5.heap.size, 0, none⟩ 1 1 [.int .i64 k, .slice ad j cp, .bool false, .bool false] (by simp [Act.eval]) rfl ?_ ?_ (by decide) (by unfold maxLen; omega) (by omega) (by simp) _ rfl ?_; (intro j u hj; match j, hj with | 0, hj => (simp at hj; subst hj; simp [Addr.add]) | 1, hj => (simp at hj; subst hj; simp [Addr.add]) | 2, hj => (simp at hj; subst hj; simp [Addr.add]) | 3, hj => (simp at hj; subst hj; simp [Addr.add])); (intro u hu; simp at hu; rcases hu with hu | hu | hu <;> (subst hu; rfl)); intro b4 cap4 w4 hown4 hgrow4 hat4 hlt4; have d4 := hgrow4.cell (a := ⟨rp, 0, none⟩) (v := .slice aT0 s.T.length capT0) ((hbd.cell (p := ⟨rp, 0, none⟩) lrp5).trans cT) rn1; have f4 : w4.frozen? ⟨rp, 0, none⟩ = false := (World.frozen?_of_block (a := ⟨rp, 0, none⟩) (hgrow4.block _ (Nat.lt_of_lt_of_le lrp5 hbd.size) rn1)).trans ((hbd.frozen (p := ⟨rp, 0, none⟩) lrp5).trans z0))
      all_goals
        have HF : Hid (∃ F', (wrO rp rb most grow).J F' s9 (w4.setCell ⟨rp, 0, none⟩ (.slice (some ⟨b4, 0, none⟩) (s.T.length + 1) cap4)) /\ Tn F w F' (w4.setCell ⟨rp, 0, none⟩ (.slice (some ⟨b4, 0, none⟩) (s.T.length + 1) cap4))) := by
          have hsz4 := hgrow4.size
          simp at hsz4
          have hat : some b4 = (Value.slice aT0 s.T.length capT0).ownBlock \/ b4 = w5.heap.size + 1 := hat4.imp Eq.symm (fun e => by simpa using e)
          have hfr4 : Fr (fun b => some b = (Value.slice aT0 s.T.length capT0).ownBlock) w5 w4 := (((Fr.refl _ w5).alloc _).drew).grown hgrow4 (fun b e => Or.inl e.symm)
          have hR4 := row_fr HR5.out.1 hfr4 (fun b e e' => by
            have h1 := (row_lt HR5.out.1 b e).1
            have h2 := ltF.out b (HR5.out.2.2 b e')
            omega)
          obtain ⟨h1, h2⟩ := HA.out ((k, List.replicate j (0, 0), false, false), ad, cp) (.slice (some ⟨b4, 0, none⟩) (s.T.length + 1) cap4) w4 hfr4 (by
              rw [tv_append, List.length_append, HEM.out]
              simpa [tv] using hown4) (fun b e => by
              simp [Value.ownBlock] at e
              subst e
              exact hat.imp id (fun e => by omega)) (row_pairs (by simpa using hR4)) (fun b o hp e => by
              dsimp only at hp e
              rw [List.length_replicate] at hp
              have e2 : some b = (Value.slice ad j cp).ownBlock := by
                obtain ⟨b', c', e'⟩ := row_shape HR5.out.1 hp
                cases e'
                cases e
                rfl
              have h3 := row_lt HR5.out.1 b e2
              refine ⟨fun d => by have := ltF.out b d; omega, fun e3 => ?_⟩
              simp [Value.ownBlock] at e3
              subst e3
              rcases hat with e4 | e4
              · have := ltF.out _ (HR5.out.2.2 _ e4)
                omega
              · omega)
          rw [ES.out]
          refine ⟨_, h1, ⟨HJ5.out.2.fr.trans h2 HJ5.out.2.sub, fun b d => ?_⟩⟩
          rcases d with d | d | ⟨hp, o, e⟩
          · exact Or.inl d
          · simp [Value.ownBlock] at d
            subst d
            rcases hat with e4 | e4
            · exact Or.inl (HR5.out.2.2 _ e4)
            · exact Or.inr (by have := HJ5.out.2.fr.size; omega)
          · dsimp only at hp e
            rw [List.length_replicate] at hp
            obtain ⟨b', c', e'⟩ := row_shape HR5.out.1 hp
            cases e'
            cases e
            have h3 := (row_lt HR5.out.1 b rfl).1
            have h4 := hlw
            exact Or.inr (by omega)
        clear hown4 hgrow4 hat4 HA HR5
        go_wp2_with fail
        go_ret
        obtain ⟨F', j1, j2⟩ := HF.out
        exact ⟨F', rfl, j1, j2⟩
end
end Go.Proofs.YtalgochmjddodaaGreat
