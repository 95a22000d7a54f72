/- Joined: Ws4, Ws5, Ws6, Ws7. -/
import Derived.Test.YtnalfnlmaallmaaGreatJ37
import Derived.Test.YtnalfnlmaallmaaGreatJ01
import Derived.Test.YtnalfnlmaallmaaGreatJ05
import Derived.Test.YtnalfnlmaallmaaGreatJ03
namespace Go.Proofs.YtnalfnlmaallmaaGreat
set_option maxRecDepth 100000
set_option maxHeartbeats 2000000
open Go.RowKit W Kp Stl
section
variable {c : Bc} {F : Nat -> Prop} {S : Ww × Wrs} {w : World}
def boI (S : Ww × Wrs) (A C : Int) : Ww × Wrs := (⟨{ S.1.s with rs := if vc 1 A = 0 then S.1.s.rs.set (rtN C) (ew 1 A) else S.1.s.rs }, S.1.r, S.1.q⟩, if rc A (-1152921504606846976) = 0 then { S.2 with rs := S.2.rs.set (rtN C) (1, A) } else S.2)
theorem do3_any (h : (boO c).J F S w) (A B C : Int) :
  Calls Tryz.prog 15 #[.pointer (some ⟨c.pb, 0, none⟩), csV 3 A B C] w fun e w' => ∃ F', e = .returned (.bool (vc 1 A == rc A (-1152921504606846976))) /\ (boO c).J F' (boI S A C) w' /\ Tn F w F' w' := by
 have EN := encode_any 1 A
 have HS : Hid (boI S A C = (⟨{ S.1.s with rs := if vc 1 A = 0 then S.1.s.rs.set (rtN C) (ew 1 A) else S.1.s.rs }, S.1.r, S.1.q⟩, if rc A (-1152921504606846976) = 0 then { S.2 with rs := S.2.rs.set (rtN C) (1, A) } else S.2)) := rfl
 have HD : Hid (∀ {F : Nat -> Prop} {s : Wrs} {w : World}, (wrO c.rp c.rb c.most c.grow).J F s w -> ∀ (R : Nat), R < 12 -> Calls Tryz.prog 26 #[.pointer (some ⟨c.rp, 0, none⟩), stpV 1 R 0 0 0 A] w fun e w' => e = .returned (.int .i64 (rc A (-1152921504606846976))) /\ (wrO c.rp c.rb c.most c.grow).J F (if rc A (-1152921504606846976) = 0 then { s with rs := s.rs.set R (1, A) } else s) w' /\ Tn F w F w') := fun h R hR => doInt_any h R hR A
 generalize boI S A C = S9 at HS ⊢
 generalize rc A (-1152921504606846976) = z at HS HD ⊢
 generalize vc 1 A = v at EN HS ⊢
 generalize ew 1 A = x at EN HS
 have hb0 := (Below.refl w.heap.size w).alloc (Nat.le_refl _) (csC 3 A B C)
 have HJ : Hid ((boO c).J F S w /\ Below w.heap.size w (w.alloc (csC 3 A B C))) := ⟨h, hb0⟩
 have HNB : Hid (c.a.nb < w.heap.size /\ c.a.pw < w.heap.size /\ c.pb < w.heap.size) := ⟨(bo_all h).2.2.2.2.2.2.2.2.1, (bo_all h).2.2.2.2.2.2.2.1, (bo_all h).2.2.2.2.2.2.1⟩
 have RA := root_any A
 have RC := root_any C
 have lC := rtN_lt C
 have lA := rtN_lt A
 have HX : Hid ((w.alloc (csC 3 A B C)).heap[w.heap.size]? = some (csC 3 A B C)) := heap_alloc_new _ _
 obtain ⟨q0, q1, q2, q3⟩ := cs_cells HX.out
 generalize rtN A = ka at *
 generalize rtN C = kc at *
 clear h hb0
 go_enter Tryz.func15, Tryz.ntmps15
 go_upto_region 1 with fail
 go_region_held3 (fun w' => w'.cell? ⟨w.heap.size, 1, none⟩ = some (.int .i64 A) /\ w'.cell? ⟨w.heap.size, 3, none⟩ = some (.int .i64 C)) (go_keep)
  (first
   | (go_at_call 49; refine (RA _).mono ?_; rintro e w9 ⟨rfl, hw9⟩; have hw9 := hw9.symm; subst hw9)
   | (go_at_call 49; refine (RC _).mono ?_; rintro e w9 ⟨rfl, hw9⟩; have hw9 := hw9.symm; subst hw9))
 have hb2 := HJ.out.2.drew
 have hJ2 := (boO c).below HJ.out.1 hb2
 have HJ2 : Hid ((boO c).J F S (w.alloc (csC 3 A B C)).drew /\ Tn F w F (w.alloc (csC 3 A B C)).drew /\ ∀ b, F b -> b < w.heap.size) := ⟨hJ2, Tn.of hb2, (boO c).lt HJ.out.1⟩
 have hx2 : (w.alloc (csC 3 A B C)).drew.heap[w.heap.size]? = some (csC 3 A B C) := HX.out
 clear HJ HX q0 q1 q2 q3 RA RC hb2
 generalize (w.alloc (csC 3 A B C)).drew = w2 at *
 obtain ⟨q0, q1, q2, q3⟩ := cs_cells hx2
 have HX : Hid (w2.heap[w.heap.size]? = some (csC 3 A B C)) := hx2
 obtain ⟨b0, b1, b2, b3, b5, b6, l1, l2, l3, n1, n2, n3⟩ := bo_all hJ2
 have lx := lt_of_some hx2
 have i0 : (0 : Int) <= (kc : Int) := by omega
 have i1 : (kc : Int) < 12 := by omega
 have j0 : (0 : Int) <= (ka : Int) := by omega
 have j1 : (ka : Int) < 12 := by omega
 clear hJ2 hx2
 go_wp2_with fail
 refine (EN w2).mono ?_
 clear EN
 rintro e w3 ⟨rfl, hb3⟩
 have HJ3 : Hid ((boO c).J F S w3 /\ Tn F w F w3) := ⟨(boO c).below HJ2.out.1 hb3, HJ2.out.2.1.below hb3⟩
 have HL : Hid (∀ b, F b -> b < w.heap.size) := HJ2.out.2.2
 have HX3 : Hid (w3.heap[w.heap.size]? = some (csC 3 A B C)) := (hb3.block _ lx).trans HX.out
 clear b0 b1 b2 b3 b5 b6 l1 l2 l3 q0 q1 q2 q3 HJ2 HX lx hb3
 by_cases hv : v = 0
 ·subst hv
  rw [if_pos rfl] at HS
  obtain ⟨b0, b1, b2, b3, b5, b6, l1, l2, l3, _⟩ := bo_all HJ3.out.1
  obtain ⟨b7, b8⟩ := b6 kc lC
  clear b6
  obtain ⟨F4, j4, t4⟩ := bo_root HJ3.out.1 kc x
  have fr : Fr (fun b => b = c.a.nb) w3 (w3.setCell ⟨c.a.nb, kc, none⟩ (.int .i64 x)) := (Fr.refl _ w3).set _ kc _ rfl
  have nx : w.heap.size ≠ c.a.nb := fun e => by
   have := HNB.out
   omega
  have hx4 := (fr.block w.heap.size (lt_of_some HX3.out) nx).trans HX3.out
  have HJ4 : Hid ((boO c).J F4 (⟨{ S.1.s with rs := S.1.s.rs.set kc x }, S.1.r, S.1.q⟩, S.2) (w3.setCell ⟨c.a.nb, kc, none⟩ (.int .i64 x)) /\ Tn F w F4 (w3.setCell ⟨c.a.nb, kc, none⟩ (.int .i64 x)) /\ (w3.setCell ⟨c.a.nb, kc, none⟩ (.int .i64 x)).heap[w.heap.size]? = some (csC 3 A B C) /\ ¬ F4 w.heap.size) := ⟨j4, HJ3.out.2.trans t4, hx4, fun d => (t4.sub _ d).elim (fun d => by have := HL.out _ d; omega) (fun d => by have := lt_of_some HX3.out; omega)⟩
  clear j4 t4 fr hx4
  go_upto_region 19 with fail
  generalize w3.setCell ⟨c.a.nb, kc, none⟩ (.int .i64 x) = w4 at *
  have hbd := (Below.refl w4.heap.size w4).drew
  have hJd := (boO c).below HJ4.out.1 hbd
  have HT4 : Hid (Tn F w F4 w4.drew) := HJ4.out.2.1.below hbd
  obtain ⟨b0, b1, b2, b3, b5, b6, l1, l2, l3, n1, n2, n3⟩ := bo_all HJ4.out.1
  obtain ⟨q0, q1, q2, q3⟩ := cs_cells HJ4.out.2.2.1
  have lx := lt_of_some HJ4.out.2.2.1
  obtain ⟨FR, r1, r0, r2⟩ := bo_r hJd
  have P := HD.out r1 kc lC
  have HP : Hid (∀ F1 s1 w', (wrO c.rp c.rb c.most c.grow).J F1 s1 w' -> Tn FR w4.drew F1 w' -> ∃ F', (boO c).J F' (⟨{ S.1.s with rs := S.1.s.rs.set kc x }, S.1.r, S.1.q⟩, s1) w' /\ Tn F4 w4.drew F' w') := r2
  have HN : Hid (¬ FR w.heap.size /\ w4.heap[w.heap.size]? = some (csC 3 A B C)) := ⟨fun e => HJ4.out.2.2.2 (r0 _ e), HJ4.out.2.2.1⟩
  clear r1 r0 r2 hJd hbd b6 HJ4
  go_region_held3 (fun w' => w'.cell? ⟨c.pb, 1, none⟩ = some (.pointer (some ⟨c.rp, 0, none⟩)) /\ w'.cell? ⟨w.heap.size, 1, none⟩ = some (.int .i64 A)) (go_keep)
   (first
    | (go_at_call 26; refine P.mono ?_; clear P; rintro e w5 ⟨rfl, j5, t5⟩; have y2 : w5.cell? ⟨w.heap.size, 1, none⟩ = some (.int .i64 A) := (World.cell?_of_block (a := ⟨w.heap.size, 1, none⟩) (t5.fr.block w.heap.size lx HN.out.1)).trans q1; obtain ⟨F5, j6, t6⟩ := HP.out _ _ _ j5 t5; have HF : Hid ((boO c).J F5 S9 w5 /\ Tn F w F5 w5) := ⟨by rw [HS.out]; exact j6, HT4.out.trans t6⟩; have y1 := (bo_all j6).2.1; clear j5 t5 j6 t6))
  clear HP HT4 HN b0 b1 b2 b3 b5 q0 q1 q2 q3
  go_wp2_with fail
  go_ret
  exact ⟨F5, rfl, HF.out.1, HF.out.2⟩
 ·have hv2 : (v == 0) = false := by simpa using hv
  rw [if_neg hv] at HS
  have HJ4 : Hid ((boO c).J F (⟨{ S.1.s with rs := S.1.s.rs }, S.1.r, S.1.q⟩, S.2) w3 /\ Tn F w F w3 /\ w3.heap[w.heap.size]? = some (csC 3 A B C) /\ ¬ F w.heap.size) := ⟨HJ3.out.1, HJ3.out.2, HX3.out, fun d => by have := HL.out _ d; omega⟩
  go_upto_region 19 with fail
  obtain ⟨w4, rfl⟩ : ∃ w4, w4 = w3 := ⟨w3, rfl⟩
  have hbd := (Below.refl w4.heap.size w4).drew
  have hJd := (boO c).below HJ4.out.1 hbd
  have HT4 : Hid (Tn F w F w4.drew) := HJ4.out.2.1.below hbd
  obtain ⟨b0, b1, b2, b3, b5, b6, l1, l2, l3, n1, n2, n3⟩ := bo_all HJ4.out.1
  obtain ⟨q0, q1, q2, q3⟩ := cs_cells HJ4.out.2.2.1
  have lx := lt_of_some HJ4.out.2.2.1
  obtain ⟨FR, r1, r0, r2⟩ := bo_r hJd
  have P := HD.out r1 kc lC
  have HP : Hid (∀ F1 s1 w', (wrO c.rp c.rb c.most c.grow).J F1 s1 w' -> Tn FR w4.drew F1 w' -> ∃ F', (boO c).J F' (⟨{ S.1.s with rs := S.1.s.rs }, S.1.r, S.1.q⟩, s1) w' /\ Tn F w4.drew F' w') := r2
  have HN : Hid (¬ FR w.heap.size /\ w4.heap[w.heap.size]? = some (csC 3 A B C)) := ⟨fun e => HJ4.out.2.2.2 (r0 _ e), HJ4.out.2.2.1⟩
  clear r1 r0 r2 hJd hbd b6 HJ4
  go_region_held3 (fun w' => w'.cell? ⟨c.pb, 1, none⟩ = some (.pointer (some ⟨c.rp, 0, none⟩)) /\ w'.cell? ⟨w.heap.size, 1, none⟩ = some (.int .i64 A)) (go_keep)
   (first
    | (go_at_call 26; refine P.mono ?_; clear P; rintro e w5 ⟨rfl, j5, t5⟩; have y2 : w5.cell? ⟨w.heap.size, 1, none⟩ = some (.int .i64 A) := (World.cell?_of_block (a := ⟨w.heap.size, 1, none⟩) (t5.fr.block w.heap.size lx HN.out.1)).trans q1; obtain ⟨F5, j6, t6⟩ := HP.out _ _ _ j5 t5; have HF : Hid ((boO c).J F5 S9 w5 /\ Tn F w F5 w5) := ⟨by rw [HS.out]; exact j6, HT4.out.trans t6⟩; have y1 := (bo_all j6).2.1; clear j5 t5 j6 t6))
  clear HP HT4 HN b0 b1 b2 b3 b5 q0 q1 q2 q3
  go_wp2_with fail
  go_ret
  exact ⟨F5, rfl, HF.out.1, HF.out.2⟩
end
end Go.Proofs.YtnalfnlmaallmaaGreat

namespace Go.Proofs.YtnalfnlmaallmaaGreat
set_option maxRecDepth 100000
set_option maxHeartbeats 2000000
open Go.RowKit W Kp Stl
structure RB (s : Wrs) : Prop where
  th : ∀ i, i < 12 -> 0 <= s.th i -> s.th i < s.T.length
  tl : ∀ t ∈ s.T, t.2.1.length <= 12
  ll : s.T.length <= 10000
  lr : s.rg.length <= 10000
  lw : s.wt.length <= 10000
section
variable {c : Bc} {F : Nat -> Prop} {S : Ww × Wrs} {w : World}
def boG (c : Bc) (S : Ww × Wrs) (A B C : Int) : Ww × Wrs := (⟨{ S.1.s with rs := if fcC c.a.N S.1.s.y S.1.s.g S.1.s.ws (S.1.s.rs.getD (rtN A) 0) B = 0 then S.1.s.rs.set (rtN C) (if fcC c.a.N S.1.s.y S.1.s.g S.1.s.ws (S.1.s.rs.getD (rtN A) 0) B = 0 then ld c.a.N S.1.s.y S.1.s.g S.1.s.ws (aV (S.1.s.rs.getD (rtN A) 0) + 1 + B) else 0) else S.1.s.rs }, S.1.r, S.1.q⟩, if S.2.gc (rtN A) B = 0 then { S.2 with rs := S.2.rs.set (rtN C) (S.2.gf (rtN A) B) } else S.2)
theorem do2_any (h : (boO c).J F S w) (hB : RB S.2) (A B C : Int) :
  Calls Tryz.prog 15 #[.pointer (some ⟨c.pb, 0, none⟩), csV 2 A B C] w fun e w' => ∃ F', e = .returned (.bool (fcC c.a.N S.1.s.y S.1.s.g S.1.s.ws (S.1.s.rs.getD (rtN A) 0) B == S.2.gc (rtN A) B)) /\ (boO c).J F' (boG c S A B C) w' /\ Tn F w F' w' := by
 have GE : Hid (∀ (F' : Nat -> Prop) (w' : World), (boO c).J F' S w' -> Calls Tryz.prog 54 #[.pointer (some ⟨c.a.pw, 0, none⟩), .int .i64 (S.1.s.rs.getD (rtN A) 0), .int .i64 B] w' fun e w'' => e = .returned (.tuple #[.int .i64 (if fcC c.a.N S.1.s.y S.1.s.g S.1.s.ws (S.1.s.rs.getD (rtN A) 0) B = 0 then ld c.a.N S.1.s.y S.1.s.g S.1.s.ws (aV (S.1.s.rs.getD (rtN A) 0) + 1 + B) else 0), .int .i64 (fcC c.a.N S.1.s.y S.1.s.g S.1.s.ws (S.1.s.rs.getD (rtN A) 0) B)]) /\ Below w'.heap.size w' w'') := fun F' w' h => by
  obtain ⟨FW, h1, _⟩ := bo_w h
  obtain ⟨F0, g1, _⟩ := ws_wod h1
  exact get_any _ _ _ (wod_cells g1).1 (wod_arena g1).1
 have HS : Hid (boG c S A B C = (⟨{ S.1.s with rs := if fcC c.a.N S.1.s.y S.1.s.g S.1.s.ws (S.1.s.rs.getD (rtN A) 0) B = 0 then S.1.s.rs.set (rtN C) (if fcC c.a.N S.1.s.y S.1.s.g S.1.s.ws (S.1.s.rs.getD (rtN A) 0) B = 0 then ld c.a.N S.1.s.y S.1.s.g S.1.s.ws (aV (S.1.s.rs.getD (rtN A) 0) + 1 + B) else 0) else S.1.s.rs }, S.1.r, S.1.q⟩, if S.2.gc (rtN A) B = 0 then { S.2 with rs := S.2.rs.set (rtN C) (S.2.gf (rtN A) B) } else S.2)) := rfl
 have HD : Hid (∀ {F : Nat -> Prop} {w : World}, (wrO c.rp c.rb c.most c.grow).J F S.2 w -> Calls Tryz.prog 26 #[.pointer (some ⟨c.rp, 0, none⟩), stpV 11 (rtN C) (rtN A) 0 B 0] w fun e w' => e = .returned (.int .i64 (S.2.gc (rtN A) B)) /\ (wrO c.rp c.rb c.most c.grow).J F (if S.2.gc (rtN A) B = 0 then { S.2 with rs := S.2.rs.set (rtN C) (S.2.gf (rtN A) B) } else S.2) w' /\ Tn F w F w') := fun h => doGet_any h _ _ (rtN_lt C) (rtN_lt A) B (hB.th _ (rtN_lt A)) hB.tl hB.ll
 generalize boG c S A B C = S9 at HS ⊢
 generalize S.2.gc (rtN A) B = z at HS HD ⊢
 generalize S.2.gf (rtN A) B = fv at HS HD
 generalize (if fcC c.a.N S.1.s.y S.1.s.g S.1.s.ws (S.1.s.rs.getD (rtN A) 0) B = 0 then ld c.a.N S.1.s.y S.1.s.g S.1.s.ws (aV (S.1.s.rs.getD (rtN A) 0) + 1 + B) else 0) = xx at GE HS
 generalize fcC c.a.N S.1.s.y S.1.s.g S.1.s.ws (S.1.s.rs.getD (rtN A) 0) B = v at GE HS ⊢
 clear hB
 have hb0 := (Below.refl w.heap.size w).alloc (Nat.le_refl _) (csC 2 A B C)
 have HJ : Hid ((boO c).J F S w /\ Below w.heap.size w (w.alloc (csC 2 A B C))) := ⟨h, hb0⟩
 have HNB : Hid (c.a.nb < w.heap.size /\ c.a.pw < w.heap.size /\ c.pb < w.heap.size) := ⟨(bo_all h).2.2.2.2.2.2.2.2.1, (bo_all h).2.2.2.2.2.2.2.1, (bo_all h).2.2.2.2.2.2.1⟩
 have RA := root_any A
 have RC := root_any C
 have lC := rtN_lt C
 have lA := rtN_lt A
 have HX : Hid ((w.alloc (csC 2 A B C)).heap[w.heap.size]? = some (csC 2 A B C)) := heap_alloc_new _ _
 obtain ⟨q0, q1, q2, q3⟩ := cs_cells HX.out
 generalize rtN A = ka at *
 generalize rtN C = kc at *
 clear h hb0
 go_enter Tryz.func15, Tryz.ntmps15
 go_upto_region 1 with fail
 go_region_held3 (fun w' => w'.cell? ⟨w.heap.size, 1, none⟩ = some (.int .i64 A) /\ w'.cell? ⟨w.heap.size, 3, none⟩ = some (.int .i64 C)) (go_keep)
  (first
   | (go_at_call 49; refine (RA _).mono ?_; rintro e w9 ⟨rfl, hw9⟩; have hw9 := hw9.symm; subst hw9)
   | (go_at_call 49; refine (RC _).mono ?_; rintro e w9 ⟨rfl, hw9⟩; have hw9 := hw9.symm; subst hw9))
 have hb2 := HJ.out.2.drew
 have hJ2 := (boO c).below HJ.out.1 hb2
 have HJ2 : Hid ((boO c).J F S (w.alloc (csC 2 A B C)).drew /\ Tn F w F (w.alloc (csC 2 A B C)).drew /\ ∀ b, F b -> b < w.heap.size) := ⟨hJ2, Tn.of hb2, (boO c).lt HJ.out.1⟩
 have hx2 : (w.alloc (csC 2 A B C)).drew.heap[w.heap.size]? = some (csC 2 A B C) := HX.out
 clear HJ HX q0 q1 q2 q3 RA RC hb2
 generalize (w.alloc (csC 2 A B C)).drew = w2 at *
 obtain ⟨q0, q1, q2, q3⟩ := cs_cells hx2
 have HX : Hid (w2.heap[w.heap.size]? = some (csC 2 A B C)) := hx2
 obtain ⟨b0, b1, b2, b3, b5, b6, l1, l2, l3, n1, n2, n3⟩ := bo_all hJ2
 have lx := lt_of_some hx2
 have i0 : (0 : Int) <= (kc : Int) := by omega
 have i1 : (kc : Int) < 12 := by omega
 have j0 : (0 : Int) <= (ka : Int) := by omega
 have j1 : (ka : Int) < 12 := by omega
 clear hJ2 hx2
 obtain ⟨b7, _⟩ := b6 ka lA
 clear b6
 generalize S.1.s.rs.getD ka 0 = x at *
 have hbd := (Below.refl w2.heap.size w2).drew
 have P := GE.out F w2.drew ((boO c).below HJ2.out.1 hbd)
 clear GE hbd
 go_wp2_with fail
 go_region_held3 (fun w' => w'.cell? ⟨c.pb, 0, none⟩ = some (.pointer (some ⟨c.a.pw, 0, none⟩)) /\ w'.cell? ⟨c.a.pw, 3, none⟩ = some (.slice (some ⟨c.a.nb, 0, none⟩) 12 12) /\ w'.cell? ⟨c.a.nb, ka, none⟩ = some (.int .i64 x) /\ w'.cell? ⟨w.heap.size, 2, none⟩ = some (.int .i64 B)) (go_keep)
  (first
   | (go_at_call 54; refine P.mono ?_; clear P; rintro e w3 ⟨rfl, hb3⟩; have hb3 : Below w2.heap.size w2 w3 := (Below.refl w2.heap.size w2).drew.trans hb3; have y0 := (hb3.cell (p := ⟨c.pb, 0, none⟩) l1).trans b0; have y1 := (hb3.cell (p := ⟨c.a.pw, 3, none⟩) l2).trans b5; have y2 := (hb3.cell (p := ⟨c.a.nb, ka, none⟩) l3).trans b7; have y3 := (hb3.cell (p := ⟨w.heap.size, 2, none⟩) lx).trans q2))
 have HJ3 : Hid ((boO c).J F S w3 /\ Tn F w F w3) := ⟨(boO c).below HJ2.out.1 hb3, HJ2.out.2.1.below hb3⟩
 have HL : Hid (∀ b, F b -> b < w.heap.size) := HJ2.out.2.2
 have HX3 : Hid (w3.heap[w.heap.size]? = some (csC 2 A B C)) := (hb3.block _ lx).trans HX.out
 clear b0 b1 b2 b3 b5 b7 l1 l2 l3 q0 q1 q2 q3 HJ2 HX lx hb3 y0 y1 y2 y3
 by_cases hv : v = 0
 ·subst hv
  rw [if_pos rfl] at HS
  obtain ⟨b0, b1, b2, b3, b5, b6, l1, l2, l3, _⟩ := bo_all HJ3.out.1
  obtain ⟨b7, b8⟩ := b6 kc lC
  clear b6
  obtain ⟨F4, j4, t4⟩ := bo_root HJ3.out.1 kc xx
  have fr : Fr (fun b => b = c.a.nb) w3 (w3.setCell ⟨c.a.nb, kc, none⟩ (.int .i64 xx)) := (Fr.refl _ w3).set _ kc _ rfl
  have nx : w.heap.size ≠ c.a.nb := fun e => by
   have := HNB.out
   omega
  have hx4 := (fr.block w.heap.size (lt_of_some HX3.out) nx).trans HX3.out
  have HJ4 : Hid ((boO c).J F4 (⟨{ S.1.s with rs := S.1.s.rs.set kc xx }, S.1.r, S.1.q⟩, S.2) (w3.setCell ⟨c.a.nb, kc, none⟩ (.int .i64 xx)) /\ Tn F w F4 (w3.setCell ⟨c.a.nb, kc, none⟩ (.int .i64 xx)) /\ (w3.setCell ⟨c.a.nb, kc, none⟩ (.int .i64 xx)).heap[w.heap.size]? = some (csC 2 A B C) /\ ¬ F4 w.heap.size) := ⟨j4, HJ3.out.2.trans t4, hx4, fun d => (t4.sub _ d).elim (fun d => by have := HL.out _ d; omega) (fun d => by have := lt_of_some HX3.out; omega)⟩
  clear j4 t4 fr hx4
  go_upto_region 14 with fail
  generalize w3.setCell ⟨c.a.nb, kc, none⟩ (.int .i64 xx) = w4 at *
  have hbd := (Below.refl w4.heap.size w4).drew
  have hJd := (boO c).below HJ4.out.1 hbd
  have HT4 : Hid (Tn F w F4 w4.drew) := HJ4.out.2.1.below hbd
  obtain ⟨b0, b1, b2, b3, b5, b6, l1, l2, l3, n1, n2, n3⟩ := bo_all HJ4.out.1
  obtain ⟨q0, q1, q2, q3⟩ := cs_cells HJ4.out.2.2.1
  have lx := lt_of_some HJ4.out.2.2.1
  obtain ⟨FR, r1, r0, r2⟩ := bo_r hJd
  have P := HD.out r1 
  have HP : Hid (∀ F1 s1 w', (wrO c.rp c.rb c.most c.grow).J F1 s1 w' -> Tn FR w4.drew F1 w' -> ∃ F', (boO c).J F' (⟨{ S.1.s with rs := S.1.s.rs.set kc xx }, S.1.r, S.1.q⟩, s1) w' /\ Tn F4 w4.drew F' w') := r2
  have HN : Hid (¬ FR w.heap.size /\ w4.heap[w.heap.size]? = some (csC 2 A B C)) := ⟨fun e => HJ4.out.2.2.2 (r0 _ e), HJ4.out.2.2.1⟩
  clear r1 r0 r2 hJd hbd b6 HJ4
  go_region_held3 (fun w' => w'.cell? ⟨c.pb, 1, none⟩ = some (.pointer (some ⟨c.rp, 0, none⟩)) /\ w'.cell? ⟨w.heap.size, 2, none⟩ = some (.int .i64 B)) (go_keep)
   (first
    | (go_at_call 26; refine P.mono ?_; clear P; rintro e w5 ⟨rfl, j5, t5⟩; have y2 : w5.cell? ⟨w.heap.size, 2, none⟩ = some (.int .i64 B) := (World.cell?_of_block (a := ⟨w.heap.size, 2, none⟩) (t5.fr.block w.heap.size lx HN.out.1)).trans q2; obtain ⟨F5, j6, t6⟩ := HP.out _ _ _ j5 t5; have HF : Hid ((boO c).J F5 S9 w5 /\ Tn F w F5 w5) := ⟨by rw [HS.out]; exact j6, HT4.out.trans t6⟩; have y1 := (bo_all j6).2.1; clear j5 t5 j6 t6))
  clear HP HT4 HN b0 b1 b2 b3 b5 q0 q1 q2 q3
  go_wp2_with fail
  go_ret
  exact ⟨F5, rfl, HF.out.1, HF.out.2⟩
 ·have hv2 : (v == 0) = false := by simpa using hv
  rw [if_neg hv] at HS
  have HJ4 : Hid ((boO c).J F (⟨{ S.1.s with rs := S.1.s.rs }, S.1.r, S.1.q⟩, S.2) w3 /\ Tn F w F w3 /\ w3.heap[w.heap.size]? = some (csC 2 A B C) /\ ¬ F w.heap.size) := ⟨HJ3.out.1, HJ3.out.2, HX3.out, fun d => by have := HL.out _ d; omega⟩
  go_upto_region 14 with fail
  obtain ⟨w4, rfl⟩ : ∃ w4, w4 = w3 := ⟨w3, rfl⟩
  have hbd := (Below.refl w4.heap.size w4).drew
  have hJd := (boO c).below HJ4.out.1 hbd
  have HT4 : Hid (Tn F w F w4.drew) := HJ4.out.2.1.below hbd
  obtain ⟨b0, b1, b2, b3, b5, b6, l1, l2, l3, n1, n2, n3⟩ := bo_all HJ4.out.1
  obtain ⟨q0, q1, q2, q3⟩ := cs_cells HJ4.out.2.2.1
  have lx := lt_of_some HJ4.out.2.2.1
  obtain ⟨FR, r1, r0, r2⟩ := bo_r hJd
  have P := HD.out r1 
  have HP : Hid (∀ F1 s1 w', (wrO c.rp c.rb c.most c.grow).J F1 s1 w' -> Tn FR w4.drew F1 w' -> ∃ F', (boO c).J F' (⟨{ S.1.s with rs := S.1.s.rs }, S.1.r, S.1.q⟩, s1) w' /\ Tn F w4.drew F' w') := r2
  have HN : Hid (¬ FR w.heap.size /\ w4.heap[w.heap.size]? = some (csC 2 A B C)) := ⟨fun e => HJ4.out.2.2.2 (r0 _ e), HJ4.out.2.2.1⟩
  clear r1 r0 r2 hJd hbd b6 HJ4
  go_region_held3 (fun w' => w'.cell? ⟨c.pb, 1, none⟩ = some (.pointer (some ⟨c.rp, 0, none⟩)) /\ w'.cell? ⟨w.heap.size, 2, none⟩ = some (.int .i64 B)) (go_keep)
   (first
    | (go_at_call 26; refine P.mono ?_; clear P; rintro e w5 ⟨rfl, j5, t5⟩; have y2 : w5.cell? ⟨w.heap.size, 2, none⟩ = some (.int .i64 B) := (World.cell?_of_block (a := ⟨w.heap.size, 2, none⟩) (t5.fr.block w.heap.size lx HN.out.1)).trans q2; obtain ⟨F5, j6, t6⟩ := HP.out _ _ _ j5 t5; have HF : Hid ((boO c).J F5 S9 w5 /\ Tn F w F5 w5) := ⟨by rw [HS.out]; exact j6, HT4.out.trans t6⟩; have y1 := (bo_all j6).2.1; clear j5 t5 j6 t6))
  clear HP HT4 HN b0 b1 b2 b3 b5 q0 q1 q2 q3
  go_wp2_with fail
  go_ret
  exact ⟨F5, rfl, HF.out.1, HF.out.2⟩
end
end Go.Proofs.YtnalfnlmaallmaaGreat

namespace Go.Proofs.YtnalfnlmaallmaaGreat
set_option maxRecDepth 100000
set_option maxHeartbeats 2000000
open Go.RowKit W Kp Stl
section
variable {c : Bc} {F : Nat -> Prop} {S : Ww × Wrs} {w : World}
def boM (c : Bc) (S : Ww × Wrs) (A B C : Int) : Ww × Wrs := (⟨{ S.1.s with y := mkY c.a.N S.1.s.y A B, ws := mkW c.a.N S.1.s.y A B S.1.s.ws, rs := if 0 <= (mkR c.a.N S.1.s.y A B) then S.1.s.rs.set (rtN C) (ew 3 (mkR c.a.N S.1.s.y A B)) else S.1.s.rs }, S.1.r, S.1.q⟩, S.2.fr c.most (rtN C) A B)
theorem makeB_any (h : (boO c).J F S w) (A B : Int) : Calls Tryz.prog 50 #[.pointer (some ⟨c.a.p, 0, none⟩), .int .i64 A, .int .i64 B] w fun e w' => ∃ F', e = .returned (.int .i64 (mkR c.a.N S.1.s.y A B)) /\ (boO c).J F' (⟨{ S.1.s with y := mkY c.a.N S.1.s.y A B, ws := mkW c.a.N S.1.s.y A B S.1.s.ws }, S.1.r, S.1.q⟩, S.2) w' /\ Tn F w F' w' := by
 obtain ⟨FW, h1, _, h2⟩ := bo_w h
 obtain ⟨F0, g1, g2⟩ := ws_wod h1
 obtain ⟨k1, k2⟩ := wod_arena g1
 refine (make_any A B w k1).mono ?_
 rintro e w' ⟨rfl, a1, sv⟩
 obtain ⟨j1, t1⟩ := k2 w' _ _ _ a1 sv
 obtain ⟨F1, l1, l2⟩ := g2 _ _ _ j1 t1
 obtain ⟨F2, m1, m2⟩ := h2 _ _ _ l1 l2
 exact ⟨F2, rfl, m1, m2⟩
theorem fresh_any {s : Wrs} {FR : Nat -> Prop} (h : (wrO c.rp c.rb c.most c.grow).J FR s w) (hB : RB s) (m0 : 0 <= c.most) (m1 : c.most <= 100000) (i : Nat) (hi : i < 12) (A B : Int) : Calls Tryz.prog 52 #[.pointer (some ⟨c.rp, 0, none⟩), .int .i64 i, .int .i64 A, .int .i64 B] w fun e w' => ∃ F', e = .returned (.bool (s.fB c.most A B)) /\ (wrO c.rp c.rb c.most c.grow).J F' (s.fr c.most i A B) w' /\ Tn FR w F' w' := by
 cases hb : s.fB c.most A B
 ·refine (fresh_no h hB.tl hB.ll m0 m1 i A B hb).mono ?_
  rintro e w' ⟨rfl, b⟩
  have e1 : s.fr c.most i A B = s := by
   unfold Wrs.fr
   rw [hb]
   simp
  exact ⟨FR, rfl, by rw [e1]; exact (wrO c.rp c.rb c.most c.grow).below h b, Tn.of b⟩
 ·exact fresh_yes h hB.tl hB.ll m0 m1 i hi A B hb
theorem do0_any (h : (boO c).J F S w) (hB : RB S.2) (m0 : 0 <= c.most) (m1 : c.most <= 100000) (A B C : Int) :
  Calls Tryz.prog 15 #[.pointer (some ⟨c.pb, 0, none⟩), csV 0 A B C] w fun e w' => ∃ F', e = .returned (.bool (S.2.fB c.most A B == decide (0 <= (mkR c.a.N S.1.s.y A B)))) /\ (boO c).J F' (boM c S A B C) w' /\ Tn F w F' w' := by
 have GE : Hid (∀ (F' : Nat -> Prop) (w' : World), (boO c).J F' S w' -> Calls Tryz.prog 50 #[.pointer (some ⟨c.a.p, 0, none⟩), .int .i64 A, .int .i64 B] w' fun e w'' => ∃ F'', e = .returned (.int .i64 (mkR c.a.N S.1.s.y A B)) /\ (boO c).J F'' (⟨{ S.1.s with y := mkY c.a.N S.1.s.y A B, ws := mkW c.a.N S.1.s.y A B S.1.s.ws }, S.1.r, S.1.q⟩, S.2) w'' /\ Tn F' w' F'' w'') := fun F' w' h => makeB_any h A B
 have HS : Hid (boM c S A B C = (⟨{ S.1.s with y := mkY c.a.N S.1.s.y A B, ws := mkW c.a.N S.1.s.y A B S.1.s.ws, rs := if 0 <= (mkR c.a.N S.1.s.y A B) then S.1.s.rs.set (rtN C) (ew 3 (mkR c.a.N S.1.s.y A B)) else S.1.s.rs }, S.1.r, S.1.q⟩, S.2.fr c.most (rtN C) A B)) := rfl
 have FC : Hid (∀ (FR : Nat -> Prop) (w' : World), (wrO c.rp c.rb c.most c.grow).J FR S.2 w' -> Calls Tryz.prog 52 #[.pointer (some ⟨c.rp, 0, none⟩), .int .i64 (rtN C), .int .i64 A, .int .i64 B] w' fun e w'' => ∃ F', e = .returned (.bool (S.2.fB c.most A B)) /\ (wrO c.rp c.rb c.most c.grow).J F' (S.2.fr c.most (rtN C) A B) w'' /\ Tn FR w' F' w'') := fun FR w' h => fresh_any h hB m0 m1 _ (rtN_lt C) A B
 have HDV : Hid (decide (0 <= (mkR c.a.N S.1.s.y A B)) = decide (0 <= (mkR c.a.N S.1.s.y A B))) := rfl
 generalize boM c S A B C = S9 at HS ⊢
 generalize S.2.fr c.most (rtN C) A B = R9 at HS FC
 generalize S.2.fB c.most A B = fb at FC ⊢
 generalize hdv : decide (0 <= (mkR c.a.N S.1.s.y A B)) = dv
 rw [hdv] at HDV
 generalize (mkR c.a.N S.1.s.y A B) = v at GE HS hdv
 replace HDV : Hid (dv = decide (0 <= v)) := hdv.symm
 clear hdv
 generalize mkY c.a.N S.1.s.y A B = y9 at GE HS
 generalize mkW c.a.N S.1.s.y A B S.1.s.ws = ws9 at GE HS
 clear hB m0 m1
 have hb0 := (Below.refl w.heap.size w).alloc (Nat.le_refl _) (csC 0 A B C)
 have HJ : Hid ((boO c).J F S w /\ Below w.heap.size w (w.alloc (csC 0 A B C))) := ⟨h, hb0⟩
 have HNB : Hid (c.a.nb < w.heap.size /\ c.a.pw < w.heap.size /\ c.pb < w.heap.size) := ⟨(bo_all h).2.2.2.2.2.2.2.2.1, (bo_all h).2.2.2.2.2.2.2.1, (bo_all h).2.2.2.2.2.2.1⟩
 have RA := root_any A
 have RC := root_any C
 have lC := rtN_lt C
 have lA := rtN_lt A
 have HX : Hid ((w.alloc (csC 0 A B C)).heap[w.heap.size]? = some (csC 0 A B C)) := heap_alloc_new _ _
 obtain ⟨q0, q1, q2, q3⟩ := cs_cells HX.out
 generalize rtN A = ka at *
 generalize rtN C = kc at *
 clear h hb0
 go_enter Tryz.func15, Tryz.ntmps15
 go_upto_region 1 with fail
 go_region_held3 (fun w' => w'.cell? ⟨w.heap.size, 1, none⟩ = some (.int .i64 A) /\ w'.cell? ⟨w.heap.size, 3, none⟩ = some (.int .i64 C)) (go_keep)
  (first
   | (go_at_call 49; refine (RA _).mono ?_; rintro e w9 ⟨rfl, hw9⟩; have hw9 := hw9.symm; subst hw9)
   | (go_at_call 49; refine (RC _).mono ?_; rintro e w9 ⟨rfl, hw9⟩; have hw9 := hw9.symm; subst hw9))
 have hb2 := HJ.out.2.drew
 have hJ2 := (boO c).below HJ.out.1 hb2
 have HJ2 : Hid ((boO c).J F S (w.alloc (csC 0 A B C)).drew /\ Tn F w F (w.alloc (csC 0 A B C)).drew /\ ∀ b, F b -> b < w.heap.size) := ⟨hJ2, Tn.of hb2, (boO c).lt HJ.out.1⟩
 have hx2 : (w.alloc (csC 0 A B C)).drew.heap[w.heap.size]? = some (csC 0 A B C) := HX.out
 clear HJ HX q0 q1 q2 q3 RA RC hb2
 generalize (w.alloc (csC 0 A B C)).drew = w2 at *
 obtain ⟨q0, q1, q2, q3⟩ := cs_cells hx2
 have HX : Hid (w2.heap[w.heap.size]? = some (csC 0 A B C)) := hx2
 obtain ⟨b0, b1, b2, b3, b5, b6, l1, l2, l3, n1, n2, n3⟩ := bo_all hJ2
 have lx := lt_of_some hx2
 have i0 : (0 : Int) <= (kc : Int) := by omega
 have i1 : (kc : Int) < 12 := by omega
 have j0 : (0 : Int) <= (ka : Int) := by omega
 have j1 : (ka : Int) < 12 := by omega
 clear hJ2 hx2
 clear b6
 have hbd := (Below.refl w2.heap.size w2).drew
 have P := GE.out F w2.drew ((boO c).below HJ2.out.1 hbd)
 have NF : Hid (¬ F w.heap.size) := fun d => by have := HJ2.out.2.2 _ d; omega
 clear GE hbd
 go_wp2_with fail
 go_region_held3 (fun w' => w'.cell? ⟨c.pb, 0, none⟩ = some (.pointer (some ⟨c.a.pw, 0, none⟩)) /\ w'.cell? ⟨c.a.pw, 0, none⟩ = some (.pointer (some ⟨c.a.p, 0, none⟩)) /\ w'.cell? ⟨w.heap.size, 1, none⟩ = some (.int .i64 A) /\ w'.cell? ⟨w.heap.size, 2, none⟩ = some (.int .i64 B)) (go_keep)
  (first
   | (go_at_call 50; refine P.mono ?_; clear P; rintro e w3 ⟨F3, rfl, j3, t3⟩; have hx3 := (t3.fr.block w.heap.size lx NF.out).trans HX.out; obtain ⟨y0, _, y1, _⟩ := bo_all j3; obtain ⟨_, y2, y3, _⟩ := cs_cells hx3; have HX3 : Hid (w3.heap[w.heap.size]? = some (csC 0 A B C) /\ ¬ F3 w.heap.size) := ⟨hx3, fun d => (t3.sub _ d).elim NF.out (fun d => by have e1 : w2.heap.size <= w.heap.size := d; omega)⟩; have HJ3 : Hid ((boO c).J F3 (⟨{ S.1.s with y := y9, ws := ws9 }, S.1.r, S.1.q⟩, S.2) w3 /\ Tn F w F3 w3) := ⟨j3, (HJ2.out.2.1.below (Below.refl w2.heap.size w2).drew).trans t3⟩; clear j3 t3 hx3))
 clear b0 b1 b2 b3 b5 l1 l2 l3 q0 q1 q2 q3 HJ2 HX lx y0 y1 y2 y3
 by_cases hv : 0 <= v
 ·rw [if_pos hv] at HS
  obtain ⟨b0, b1, b2, b3, b5, b6, l1, l2, l3, _⟩ := bo_all HJ3.out.1
  obtain ⟨b7, b8⟩ := b6 kc lC
  clear b6
  have RF := ref_any v w3.drew
  generalize ew 3 v = x at RF HS
  go_upto_region 6 with fail
  go_region_held3 (fun w' => w'.cell? ⟨c.pb, 0, none⟩ = some (.pointer (some ⟨c.a.pw, 0, none⟩)) /\ w'.cell? ⟨c.a.pw, 3, none⟩ = some (.slice (some ⟨c.a.nb, 0, none⟩) 12 12)) (go_keep)
   (first
    | (go_at_call 51; refine RF.mono ?_; clear RF; rintro e w4 ⟨rfl, hb4⟩; have hb4 : Below w3.heap.size w3 w4 := (Below.refl w3.heap.size w3).drew.trans hb4; have y0 := (hb4.cell (p := ⟨c.pb, 0, none⟩) l1).trans b0; have y1 := (hb4.cell (p := ⟨c.a.pw, 3, none⟩) l2).trans b5; have y2 := (hb4.cell (p := ⟨c.a.nb, kc, none⟩) l3).trans b7; have y3 := (hb4.frozen (p := ⟨c.a.nb, kc, none⟩) l3).trans b8; have HB4 : Hid (Below w3.heap.size w3 w4) := hb4; clear hb4))
  obtain ⟨F6, j6, t6⟩ := bo_root ((boO c).below HJ3.out.1 HB4.out) kc x
  have fr : Fr (fun b => b = c.a.nb) w4 (w4.setCell ⟨c.a.nb, kc, none⟩ (.int .i64 x)) := (Fr.refl _ w4).set _ kc _ rfl
  have nx : w.heap.size ≠ c.a.nb := fun e => by
   have := HNB.out
   omega
  have hx4 := (HB4.out.block _ (lt_of_some HX3.out.1)).trans HX3.out.1
  have hx6 := (fr.block w.heap.size (lt_of_some hx4) nx).trans hx4
  have HJ6 : Hid ((boO c).J F6 (⟨{ S.1.s with y := y9, ws := ws9, rs := S.1.s.rs.set kc x }, S.1.r, S.1.q⟩, S.2) (w4.setCell ⟨c.a.nb, kc, none⟩ (.int .i64 x)) /\ Tn F w F6 (w4.setCell ⟨c.a.nb, kc, none⟩ (.int .i64 x)) /\ (w4.setCell ⟨c.a.nb, kc, none⟩ (.int .i64 x)).heap[w.heap.size]? = some (csC 0 A B C) /\ ¬ F6 w.heap.size) := ⟨j6, (HJ3.out.2.below HB4.out).trans t6, hx6, fun d => (t6.sub _ d).elim HX3.out.2 (fun d => by have := lt_of_some hx4; omega)⟩
  clear j6 t6 fr hx4 hx6 y0 y1 y2 y3 b0 b1 b2 b3 b5 b7 b8 l1 l2 l3 HJ3 HX3 HB4
  generalize w4.setCell ⟨c.a.nb, kc, none⟩ (.int .i64 x) = w6 at *
  go_upto_region 7 with fail
  have hbd := (Below.refl w6.heap.size w6).drew
  have hJd := (boO c).below HJ6.out.1 hbd
  have HT6 : Hid (Tn F w F6 w6.drew) := HJ6.out.2.1.below hbd
  obtain ⟨b0, b1, b2, b3, b5, b6, l1, l2, l3, n1, n2, n3⟩ := bo_all HJ6.out.1
  obtain ⟨q0, q1, q2, q3⟩ := cs_cells HJ6.out.2.2.1
  have lx := lt_of_some HJ6.out.2.2.1
  obtain ⟨FR, r1, r0, r2⟩ := bo_r hJd
  have P := FC.out _ _ r1
  have HP : Hid (∀ F1 s1 w', (wrO c.rp c.rb c.most c.grow).J F1 s1 w' -> Tn FR w6.drew F1 w' -> ∃ F', (boO c).J F' (⟨{ S.1.s with y := y9, ws := ws9, rs := S.1.s.rs.set kc x }, S.1.r, S.1.q⟩, s1) w' /\ Tn F6 w6.drew F' w') := r2
  have HN : Hid (¬ FR w.heap.size) := fun e => HJ6.out.2.2.2 (r0 _ e)
  clear r1 r0 r2 hJd hbd b6 HJ6
  go_region_held3 (fun w' => w'.cell? ⟨c.pb, 1, none⟩ = some (.pointer (some ⟨c.rp, 0, none⟩)) /\ w'.cell? ⟨w.heap.size, 1, none⟩ = some (.int .i64 A) /\ w'.cell? ⟨w.heap.size, 2, none⟩ = some (.int .i64 B)) (go_keep)
   (first
    | (go_at_call 52; refine P.mono ?_; clear P; rintro e w7 ⟨F9, rfl, j5, t5⟩; have y2 : w7.cell? ⟨w.heap.size, 1, none⟩ = some (.int .i64 A) := (World.cell?_of_block (a := ⟨w.heap.size, 1, none⟩) (t5.fr.block w.heap.size lx HN.out)).trans q1; have y3 : w7.cell? ⟨w.heap.size, 2, none⟩ = some (.int .i64 B) := (World.cell?_of_block (a := ⟨w.heap.size, 2, none⟩) (t5.fr.block w.heap.size lx HN.out)).trans q2; obtain ⟨F5, j6, t6⟩ := HP.out _ _ _ j5 t5; have HF : Hid ((boO c).J F5 S9 w7 /\ Tn F w F5 w7) := ⟨by rw [HS.out]; exact j6, HT6.out.trans t6⟩; have y1 := (bo_all j6).2.1; clear j5 t5 j6 t6))
  clear HP HT6 HN b0 b1 b2 b3 b5 q0 q1 q2 q3
  go_wp2_with fail
  go_ret
  refine ⟨F5, ?_, HF.out.1, HF.out.2⟩
  rw [HDV.out, show decide (0 <= v) = true from decide_eq_true (by omega)]
  simp
 ·rw [if_neg hv] at HS
  obtain ⟨w6, rfl⟩ : ∃ w6, w6 = w3 := ⟨w3, rfl⟩
  obtain ⟨F6, rfl⟩ : ∃ F6, F6 = F3 := ⟨F3, rfl⟩
  have HJ6 : Hid ((boO c).J F6 (⟨{ S.1.s with y := y9, ws := ws9, rs := S.1.s.rs }, S.1.r, S.1.q⟩, S.2) w6 /\ Tn F w F6 w6 /\ w6.heap[w.heap.size]? = some (csC 0 A B C) /\ ¬ F6 w.heap.size) := ⟨HJ3.out.1, HJ3.out.2, HX3.out.1, HX3.out.2⟩
  clear HJ3 HX3
  go_upto_region 7 with fail
  have hbd := (Below.refl w6.heap.size w6).drew
  have hJd := (boO c).below HJ6.out.1 hbd
  have HT6 : Hid (Tn F w F6 w6.drew) := HJ6.out.2.1.below hbd
  obtain ⟨b0, b1, b2, b3, b5, b6, l1, l2, l3, n1, n2, n3⟩ := bo_all HJ6.out.1
  obtain ⟨q0, q1, q2, q3⟩ := cs_cells HJ6.out.2.2.1
  have lx := lt_of_some HJ6.out.2.2.1
  obtain ⟨FR, r1, r0, r2⟩ := bo_r hJd
  have P := FC.out _ _ r1
  have HP : Hid (∀ F1 s1 w', (wrO c.rp c.rb c.most c.grow).J F1 s1 w' -> Tn FR w6.drew F1 w' -> ∃ F', (boO c).J F' (⟨{ S.1.s with y := y9, ws := ws9, rs := S.1.s.rs }, S.1.r, S.1.q⟩, s1) w' /\ Tn F6 w6.drew F' w') := r2
  have HN : Hid (¬ FR w.heap.size) := fun e => HJ6.out.2.2.2 (r0 _ e)
  clear r1 r0 r2 hJd hbd b6 HJ6
  go_region_held3 (fun w' => w'.cell? ⟨c.pb, 1, none⟩ = some (.pointer (some ⟨c.rp, 0, none⟩)) /\ w'.cell? ⟨w.heap.size, 1, none⟩ = some (.int .i64 A) /\ w'.cell? ⟨w.heap.size, 2, none⟩ = some (.int .i64 B)) (go_keep)
   (first
    | (go_at_call 52; refine P.mono ?_; clear P; rintro e w7 ⟨F9, rfl, j5, t5⟩; have y2 : w7.cell? ⟨w.heap.size, 1, none⟩ = some (.int .i64 A) := (World.cell?_of_block (a := ⟨w.heap.size, 1, none⟩) (t5.fr.block w.heap.size lx HN.out)).trans q1; have y3 : w7.cell? ⟨w.heap.size, 2, none⟩ = some (.int .i64 B) := (World.cell?_of_block (a := ⟨w.heap.size, 2, none⟩) (t5.fr.block w.heap.size lx HN.out)).trans q2; obtain ⟨F5, j6, t6⟩ := HP.out _ _ _ j5 t5; have HF : Hid ((boO c).J F5 S9 w7 /\ Tn F w F5 w7) := ⟨by rw [HS.out]; exact j6, HT6.out.trans t6⟩; have y1 := (bo_all j6).2.1; clear j5 t5 j6 t6))
  clear HP HT6 HN b0 b1 b2 b3 b5 q0 q1 q2 q3
  go_wp2_with fail
  go_ret
  refine ⟨F5, ?_, HF.out.1, HF.out.2⟩
  rw [HDV.out, show decide (0 <= v) = false from decide_eq_false (by omega)]
  simp
end
end Go.Proofs.YtnalfnlmaallmaaGreat

namespace Go.Proofs.YtnalfnlmaallmaaGreat
set_option maxRecDepth 100000
set_option maxHeartbeats 4000000
open Go.RowKit W Kp Stl
section
variable {c : Bc} {F : Nat -> Prop} {S : Ww × Wrs} {w : World}
def boS (c : Bc) (S : Ww × Wrs) (A B C : Int) : Ww × Wrs := (⟨{ S.1.s with ws := stW c.a.N S.1.s.y S.1.s.g S.1.s.ws (S.1.s.rs.getD (rtN A) 0) B (S.1.s.rs.getD (rtN C) 0), M := stM c.a.N S.1.s.y S.1.s.g S.1.s.ws (S.1.s.rs.getD (rtN A) 0) B (S.1.s.rs.getD (rtN C) 0) (nC c.a.O) S.1.s.M }, S.1.r, S.1.q⟩, (if S.2.gc (rtN A) B = 0 then { S.2 with T := S.2.sT (rtN A) (rtN C) B } else S.2))
theorem setB_any (h : (boO c).J F S w) (hM : S.1.s.M.length <= 100000) (x i z : Int) : Calls Tryz.prog 53 #[.pointer (some ⟨c.a.pw, 0, none⟩), .int .i64 x, .int .i64 i, .int .i64 z] w fun e w' => ∃ F', e = .returned (.int .i64 (fcC c.a.N S.1.s.y S.1.s.g S.1.s.ws x i)) /\ (boO c).J F' (⟨{ S.1.s with ws := stW c.a.N S.1.s.y S.1.s.g S.1.s.ws x i z, M := stM c.a.N S.1.s.y S.1.s.g S.1.s.ws x i z (nC c.a.O) S.1.s.M }, S.1.r, S.1.q⟩, S.2) w' /\ Tn F w F' w' := by
 obtain ⟨FW, h1, _, h2⟩ := bo_w h
 obtain ⟨F0, g1, g2⟩ := ws_wod h1
 refine (setW_any g1 x i z hM).mono ?_
 rintro e w' ⟨rfl, j1, t1⟩
 obtain ⟨F1, l1, l2⟩ := g2 _ _ _ j1 t1
 obtain ⟨F2, m1, m2⟩ := h2 _ _ _ l1 l2
 exact ⟨F2, rfl, m1, m2⟩
theorem do1_any (h : (boO c).J F S w) (hB : RB S.2) (hM : S.1.s.M.length <= 100000) (A B C : Int) :
  Calls Tryz.prog 15 #[.pointer (some ⟨c.pb, 0, none⟩), csV 1 A B C] w fun e w' => ∃ F', e = .returned (.bool (fcC c.a.N S.1.s.y S.1.s.g S.1.s.ws (S.1.s.rs.getD (rtN A) 0) B == S.2.gc (rtN A) B)) /\ (boO c).J F' (boS c S A B C) w' /\ Tn F w F' w' := by
 have GE : Hid (∀ (F' : Nat -> Prop) (w' : World), (boO c).J F' S w' -> Calls Tryz.prog 53 #[.pointer (some ⟨c.a.pw, 0, none⟩), .int .i64 (S.1.s.rs.getD (rtN A) 0), .int .i64 B, .int .i64 (S.1.s.rs.getD (rtN C) 0)] w' fun e w'' => ∃ F'', e = .returned (.int .i64 (fcC c.a.N S.1.s.y S.1.s.g S.1.s.ws (S.1.s.rs.getD (rtN A) 0) B)) /\ (boO c).J F'' (⟨{ S.1.s with ws := stW c.a.N S.1.s.y S.1.s.g S.1.s.ws (S.1.s.rs.getD (rtN A) 0) B (S.1.s.rs.getD (rtN C) 0), M := stM c.a.N S.1.s.y S.1.s.g S.1.s.ws (S.1.s.rs.getD (rtN A) 0) B (S.1.s.rs.getD (rtN C) 0) (nC c.a.O) S.1.s.M }, S.1.r, S.1.q⟩, S.2) w'' /\ Tn F' w' F'' w'') := fun F' w' h => setB_any h hM _ B _
 have HS : Hid (boS c S A B C = (⟨{ S.1.s with ws := stW c.a.N S.1.s.y S.1.s.g S.1.s.ws (S.1.s.rs.getD (rtN A) 0) B (S.1.s.rs.getD (rtN C) 0), M := stM c.a.N S.1.s.y S.1.s.g S.1.s.ws (S.1.s.rs.getD (rtN A) 0) B (S.1.s.rs.getD (rtN C) 0) (nC c.a.O) S.1.s.M }, S.1.r, S.1.q⟩, (if S.2.gc (rtN A) B = 0 then { S.2 with T := S.2.sT (rtN A) (rtN C) B } else S.2))) := rfl
 have HD : Hid (∀ (FR : Nat -> Prop) (w' : World), (wrO c.rp c.rb c.most c.grow).J FR S.2 w' -> Calls Tryz.prog 26 #[.pointer (some ⟨c.rp, 0, none⟩), stpV 12 0 (rtN A) (rtN C) B 0] w' fun e w'' => ∃ F', e = .returned (.int .i64 (S.2.gc (rtN A) B)) /\ (wrO c.rp c.rb c.most c.grow).J F' (if S.2.gc (rtN A) B = 0 then { S.2 with T := S.2.sT (rtN A) (rtN C) B } else S.2) w'' /\ Tn FR w' F' w'') := fun FR w' h => doSet_any h _ _ (rtN_lt A) (rtN_lt C) B (hB.th _ (rtN_lt A)) hB.tl hB.ll
 generalize boS c S A B C = S9 at HS ⊢
 generalize (if S.2.gc (rtN A) B = 0 then { S.2 with T := S.2.sT (rtN A) (rtN C) B } else S.2) = R9 at HS HD
 generalize S.2.gc (rtN A) B = z at HD ⊢
 generalize stW c.a.N S.1.s.y S.1.s.g S.1.s.ws (S.1.s.rs.getD (rtN A) 0) B (S.1.s.rs.getD (rtN C) 0) = ws9 at GE HS
 generalize stM c.a.N S.1.s.y S.1.s.g S.1.s.ws (S.1.s.rs.getD (rtN A) 0) B (S.1.s.rs.getD (rtN C) 0) (nC c.a.O) S.1.s.M = M9 at GE HS
 generalize fcC c.a.N S.1.s.y S.1.s.g S.1.s.ws (S.1.s.rs.getD (rtN A) 0) B = v at GE ⊢
 clear hB hM
 have hb0 := (Below.refl w.heap.size w).alloc (Nat.le_refl _) (csC 1 A B C)
 have HJ : Hid ((boO c).J F S w /\ Below w.heap.size w (w.alloc (csC 1 A B C))) := ⟨h, hb0⟩
 have RA := root_any A
 have RC := root_any C
 have lC := rtN_lt C
 have lA := rtN_lt A
 have HX : Hid ((w.alloc (csC 1 A B C)).heap[w.heap.size]? = some (csC 1 A B C)) := heap_alloc_new _ _
 obtain ⟨q0, q1, q2, q3⟩ := cs_cells HX.out
 generalize rtN A = ka at *
 generalize rtN C = kc at *
 clear h hb0
 go_enter Tryz.func15, Tryz.ntmps15
 go_upto_region 1 with fail
 go_region_held3 (fun w' => w'.cell? ⟨w.heap.size, 1, none⟩ = some (.int .i64 A) /\ w'.cell? ⟨w.heap.size, 3, none⟩ = some (.int .i64 C)) (go_keep)
  (first
   | (go_at_call 49; refine (RA _).mono ?_; rintro e w9 ⟨rfl, hw9⟩; have hw9 := hw9.symm; subst hw9)
   | (go_at_call 49; refine (RC _).mono ?_; rintro e w9 ⟨rfl, hw9⟩; have hw9 := hw9.symm; subst hw9))
 have hb2 := HJ.out.2.drew
 have hJ2 := (boO c).below HJ.out.1 hb2
 have HJ2 : Hid ((boO c).J F S (w.alloc (csC 1 A B C)).drew /\ Tn F w F (w.alloc (csC 1 A B C)).drew /\ ∀ b, F b -> b < w.heap.size) := ⟨hJ2, Tn.of hb2, (boO c).lt HJ.out.1⟩
 have hx2 : (w.alloc (csC 1 A B C)).drew.heap[w.heap.size]? = some (csC 1 A B C) := HX.out
 clear HJ HX q0 q1 q2 q3 RA RC hb2
 generalize (w.alloc (csC 1 A B C)).drew = w2 at *
 obtain ⟨q0, q1, q2, q3⟩ := cs_cells hx2
 have HX : Hid (w2.heap[w.heap.size]? = some (csC 1 A B C)) := hx2
 obtain ⟨b0, b1, b2, b3, b5, b6, l1, l2, l3, n1, n2, n3⟩ := bo_all hJ2
 have lx := lt_of_some hx2
 have i0 : (0 : Int) <= (kc : Int) := by omega
 have i1 : (kc : Int) < 12 := by omega
 have j0 : (0 : Int) <= (ka : Int) := by omega
 have j1 : (ka : Int) < 12 := by omega
 clear hJ2 hx2
 obtain ⟨b7, _⟩ := b6 ka lA
 obtain ⟨b8, _⟩ := b6 kc lC
 clear b6
 have HG : Hid (∃ x y : Int, x = S.1.s.rs.getD ka 0 /\ y = S.1.s.rs.getD kc 0) := ⟨_, _, rfl, rfl⟩
 obtain ⟨x, y, ex, ey⟩ := HG.out
 rw [<- ex] at b7 GE
 rw [<- ey] at b8 GE
 have HE : Hid (x = S.1.s.rs.getD ka 0 /\ y = S.1.s.rs.getD kc 0) := ⟨ex, ey⟩
 clear ex ey HG
 have hbd := (Below.refl w2.heap.size w2).drew
 have P := GE.out F w2.drew ((boO c).below HJ2.out.1 hbd)
 have NF : Hid (¬ F w.heap.size) := fun d => by have := HJ2.out.2.2 _ d; omega
 clear GE hbd
 go_wp2_with fail
 go_region_held3 (fun w' => w'.cell? ⟨c.pb, 0, none⟩ = some (.pointer (some ⟨c.a.pw, 0, none⟩)) /\ w'.cell? ⟨c.pb, 1, none⟩ = some (.pointer (some ⟨c.rp, 0, none⟩)) /\ w'.cell? ⟨c.a.pw, 3, none⟩ = some (.slice (some ⟨c.a.nb, 0, none⟩) 12 12) /\ w'.cell? ⟨c.a.nb, ka, none⟩ = some (.int .i64 x) /\ w'.cell? ⟨c.a.nb, kc, none⟩ = some (.int .i64 y) /\ w'.cell? ⟨w.heap.size, 2, none⟩ = some (.int .i64 B)) (go_keep)
  (first
   | (go_at_call 53; refine P.mono ?_; clear P; rintro e w3 ⟨F3, rfl, j3, t3⟩; have hx3 := (t3.fr.block w.heap.size lx NF.out).trans HX.out; obtain ⟨y0, y1, _, _, y3, y4, _⟩ := bo_all j3; obtain ⟨y5, _⟩ := y4 ka lA; obtain ⟨y6, _⟩ := y4 kc lC; dsimp only at y5 y6; rw [<- HE.out.1] at y5; rw [<- HE.out.2] at y6; clear y4; obtain ⟨_, _, y7, _⟩ := cs_cells hx3; have HX3 : Hid (w3.heap[w.heap.size]? = some (csC 1 A B C) /\ ¬ F3 w.heap.size) := ⟨hx3, fun d => (t3.sub _ d).elim NF.out (fun d => by have e1 : w2.heap.size <= w.heap.size := d; omega)⟩; have HJ3 : Hid ((boO c).J F3 (⟨{ S.1.s with ws := ws9, M := M9 }, S.1.r, S.1.q⟩, S.2) w3 /\ Tn F w F3 w3) := ⟨j3, (HJ2.out.2.1.below (Below.refl w2.heap.size w2).drew).trans t3⟩; clear j3 t3 hx3)
   | (go_at_call 26; obtain ⟨FR, r1, r0, r2⟩ := bo_r HJ3.out.1; refine (HD.out _ _ r1).mono ?_; rintro e w4 ⟨F4, rfl, j4, t4⟩; have hx4 := (t4.fr.block w.heap.size (lt_of_some HX3.out.1) (fun d => HX3.out.2 (r0 _ d))).trans HX3.out.1; obtain ⟨F5, j5, t5⟩ := r2 _ _ _ j4 t4; obtain ⟨z0, z1, _, _, z3, z4, _⟩ := bo_all j5; obtain ⟨z5, _⟩ := z4 ka lA; obtain ⟨z6, _⟩ := z4 kc lC; dsimp only at z5 z6; rw [<- HE.out.1] at z5; rw [<- HE.out.2] at z6; clear z4; obtain ⟨_, _, z7, _⟩ := cs_cells hx4; have HF : Hid ((boO c).J F5 S9 w4 /\ Tn F w F5 w4) := ⟨by rw [HS.out]; exact j5, HJ3.out.2.trans t5⟩; clear j4 t4 j5 t5 hx4 r1 r0 r2))
 clear b0 b1 b2 b3 b5 b7 b8 q0 q1 q2 q3 y0 y1 y3 y5 y6 y7 z0 z1 z3 z5 z6 z7 HE HJ3 HJ2 HX3 HX
 go_wp2_with fail
 go_ret
 exact ⟨F5, rfl, HF.out.1, HF.out.2⟩
end
end Go.Proofs.YtnalfnlmaallmaaGreat
