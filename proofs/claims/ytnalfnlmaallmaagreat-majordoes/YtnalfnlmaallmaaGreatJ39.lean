/- Joined: Ws8, Ws9, Wr, Wr2, Wo5, Wo6. -/
import Derived.Test.YtnalfnlmaallmaaGreatJ38
import Derived.Test.YtnalfnlmaallmaaGreatJ05
import Derived.Test.YtnalfnlmaallmaaGreatJ37
import Derived.Test.YtnalfnlmaallmaaGreatJ03
import Derived.Test.YtnalfnlmaallmaaGreatJ04
import Derived.Deep.DeepCutAuto
import Derived.Test.YtnalfnlmaallmaaGreatJ06
namespace Go.Proofs.YtnalfnlmaallmaaGreat
set_option maxRecDepth 100000
set_option maxHeartbeats 4000000
open Go.RowKit W Kp Stl
def Ww.kK (a : Wc) (W : Ww) (i : Nat) : Int := if tB a.N W.s.y W.s.g W.s.ws (W.s.rs.getD i 0) = true then pk (ld a.N W.s.y W.s.g W.s.ws (aV (W.s.rs.getD i 0))) else 0
def Ww.kF (a : Wc) (W : Ww) (i : Nat) : Int := if tB a.N W.s.y W.s.g W.s.ws (W.s.rs.getD i 0) = true then pf (ld a.N W.s.y W.s.g W.s.ws (aV (W.s.rs.getD i 0))) else 0
def Ww.kE (a : Wc) (W : Ww) (i : Nat) : Int := if tB a.N W.s.y W.s.g W.s.ws (W.s.rs.getD i 0) = true then pc (ld a.N W.s.y W.s.g W.s.ws (aV (W.s.rs.getD i 0))) else 2
def Ww.rK (a : Wc) (W : Ww) (i k : Nat) : Bool := decide (W.kE a k = 0 /\ W.kE a i = 0 /\ W.kK a k = 5)
def Ww.rW (a : Wc) (W : Ww) (i k : Nat) : Ww := if W.rK a i k = true then (if 24 <= W.r.length + W.q.length then W else ⟨W.s, W.r ++ [(W.s.rs.getD k 0, W.s.rs.getD i 0)], W.q⟩) else W
section
variable {c : Bc} {F : Nat -> Prop} {S : Ww × Wrs} {w : World}
def boR (c : Bc) (S : Ww × Wrs) (A C : Int) : Ww × Wrs := (S.1.rW c.a (rtN A) (rtN C), if S.2.rc (rtN A) (rtN C) = 0 then { S.2 with rg := S.2.rg ++ [(S.2.gd (rtN C), S.2.th (rtN A))] } else S.2)
theorem regB_any (h : (boO c).J F S w) (g z : Int) (hr : S.1.r.length <= 90000) (hq : S.1.q.length <= 90000) : Calls Tryz.prog 58 #[.pointer (some ⟨c.a.sd, 0, none⟩), .agg #[.int .i64 g, .int .i64 z]] w fun e w' => ∃ F', e = .returned (.bool (!fulB (S.1.r.length + S.1.q.length))) /\ (boO c).J F' (if 24 <= S.1.r.length + S.1.q.length then S.1 else ⟨S.1.s, S.1.r ++ [(g, z)], S.1.q⟩, S.2) w' /\ Tn F w F' w' := by
 obtain ⟨FW, h1, _, h2⟩ := bo_w h
 refine (regS_any h1 g z hr hq).mono ?_
 rintro e w' ⟨F1, rfl, j1, t1⟩
 obtain ⟨F2, m1, m2⟩ := h2 _ _ _ j1 t1
 exact ⟨F2, rfl, m1, m2⟩
theorem do5_any (h : (boO c).J F S w) (hB : RB S.2) (hr : S.1.r.length <= 90000) (hq : S.1.q.length <= 90000) (A B C : Int) :
  Calls Tryz.prog 15 #[.pointer (some ⟨c.pb, 0, none⟩), csV 5 A B C] w fun e w' => ∃ F', e = .returned (.bool ((S.1.rK c.a (rtN A) (rtN C) && !fulB (S.1.r.length + S.1.q.length)) == (S.2.rc (rtN A) (rtN C) == 0))) /\ (boO c).J F' (boR c S A C) w' /\ Tn F w F' w' := by
 have KE : Hid (∀ (i : Nat) (F' : Nat -> Prop) (w' : World), (boO c).J F' S w' -> Calls Tryz.prog 57 #[.pointer (some ⟨c.a.pw, 0, none⟩), .int .i64 (S.1.s.rs.getD i 0)] w' fun e w'' => e = .returned (.tuple #[.int .i64 (S.1.kK c.a i), .int .i64 (S.1.kF c.a i), .int .i64 (S.1.kE c.a i)]) /\ Below w'.heap.size w' w'') := fun i F' w' h => by
  obtain ⟨FW, h1, _⟩ := bo_w h
  obtain ⟨F0, g1, _⟩ := ws_wod h1
  exact kind_any _ _ (wod_cells g1).1 (wod_arena g1).1
 have KA := fun F' w' h => KE.out (rtN A) F' w' h
 have KC := fun F' w' h => KE.out (rtN C) F' w' h
 have RG : Hid (∀ (F' : Nat -> Prop) (w' : World), (boO c).J F' S w' -> Calls Tryz.prog 58 #[.pointer (some ⟨c.a.sd, 0, none⟩), .agg #[.int .i64 (S.1.s.rs.getD (rtN C) 0), .int .i64 (S.1.s.rs.getD (rtN A) 0)]] w' fun e w'' => ∃ F'', e = .returned (.bool (!fulB (S.1.r.length + S.1.q.length))) /\ (boO c).J F'' (if 24 <= S.1.r.length + S.1.q.length then S.1 else ⟨S.1.s, S.1.r ++ [(S.1.s.rs.getD (rtN C) 0, S.1.s.rs.getD (rtN A) 0)], S.1.q⟩, S.2) w'' /\ Tn F' w' F'' w'') := fun F' w' h => regB_any h _ _ hr hq
 have HS0 : Hid (boR c S A C = (if S.1.rK c.a (rtN A) (rtN C) = true then (if 24 <= S.1.r.length + S.1.q.length then S.1 else ⟨S.1.s, S.1.r ++ [(S.1.s.rs.getD (rtN C) 0, S.1.s.rs.getD (rtN A) 0)], S.1.q⟩) else S.1, if S.2.rc (rtN A) (rtN C) = 0 then { S.2 with rg := S.2.rg ++ [(S.2.gd (rtN C), S.2.th (rtN A))] } else S.2)) := rfl
 have HD : Hid (∀ (FR : Nat -> Prop) (w' : World), (wrO c.rp c.rb c.most c.grow).J FR S.2 w' -> Calls Tryz.prog 26 #[.pointer (some ⟨c.rp, 0, none⟩), stpV 9 0 (rtN A) (rtN C) 0 0] w' fun e w'' => ∃ F', e = .returned (.int .i64 (S.2.rc (rtN A) (rtN C))) /\ (wrO c.rp c.rb c.most c.grow).J F' (if S.2.rc (rtN A) (rtN C) = 0 then { S.2 with rg := S.2.rg ++ [(S.2.gd (rtN C), S.2.th (rtN A))] } else S.2) w'' /\ Tn FR w' F' w'') := fun FR w' h => doReg_any h _ _ (rtN_lt A) (rtN_lt C) (hB.th _ (rtN_lt C)) hB.lr hB.lw
 have HR : Hid (S.1.rK c.a (rtN A) (rtN C) = decide (S.1.kE c.a (rtN C) = 0 /\ S.1.kE c.a (rtN A) = 0 /\ S.1.kK c.a (rtN C) = 5)) := rfl
 generalize (if S.2.rc (rtN A) (rtN C) = 0 then { S.2 with rg := S.2.rg ++ [(S.2.gd (rtN C), S.2.th (rtN A))] } else S.2) = R9 at HS0 HD
 generalize S.2.rc (rtN A) (rtN C) = z at HD ⊢
 generalize boR c S A C = S9 at HS0 ⊢
 have W9e : (if 24 <= S.1.r.length + S.1.q.length then S.1 else ⟨S.1.s, S.1.r ++ [(S.1.s.rs.getD (rtN C) 0, S.1.s.rs.getD (rtN A) 0)], S.1.q⟩ : Ww).s = S.1.s := by
  split <;> rfl
 generalize (if 24 <= S.1.r.length + S.1.q.length then S.1 else ⟨S.1.s, S.1.r ++ [(S.1.s.rs.getD (rtN C) 0, S.1.s.rs.getD (rtN A) 0)], S.1.q⟩) = W9 at HS0 RG W9e
 generalize fulB (S.1.r.length + S.1.q.length) = fl at RG ⊢
 generalize S.1.rK c.a (rtN A) (rtN C) = rk at HS0 HR ⊢
 have RR : Hid (∀ (F' : Nat -> Prop) (w' : World), (boO c).J F' (W9, S.2) w' -> w'.cell? ⟨c.pb, 0, none⟩ = some (.pointer (some ⟨c.a.pw, 0, none⟩)) /\ w'.cell? ⟨c.a.pw, 2, none⟩ = some (.pointer (some ⟨c.a.sd, 0, none⟩)) /\ w'.cell? ⟨c.a.pw, 3, none⟩ = some (.slice (some ⟨c.a.nb, 0, none⟩) 12 12) /\ w'.cell? ⟨c.a.nb, rtN A, none⟩ = some (.int .i64 (S.1.s.rs.getD (rtN A) 0)) /\ w'.cell? ⟨c.a.nb, rtN C, none⟩ = some (.int .i64 (S.1.s.rs.getD (rtN C) 0))) := fun F' w' h => by
  have e9 : W9.s = S.1.s := W9e
  obtain ⟨v0, _, _, v2, v3, v6, _⟩ := bo_all h
  have g1 := (v6 _ (rtN_lt A)).1
  have g2 := (v6 _ (rtN_lt C)).1
  dsimp only at g1 g2
  rw [e9] at g1 g2
  exact ⟨v0, v2, v3, g1, g2⟩
 clear W9e
 obtain ⟨ok, hok⟩ : ∃ ok, ok = (rk && !fl) := ⟨_, rfl⟩
 rw [<- hok]
 have HOK : Hid (ok = (rk && !fl)) := hok
 clear hok hB hr hq KE
 generalize S.1.kE c.a (rtN C) = k3 at KC HR
 generalize S.1.kK c.a (rtN C) = k1 at KC HR
 generalize S.1.kF c.a (rtN C) = k2 at KC
 generalize S.1.kE c.a (rtN A) = a3 at KA HR
 generalize S.1.kK c.a (rtN A) = a1 at KA
 generalize S.1.kF c.a (rtN A) = a2 at KA
 have KA : Hid (∀ (F' : Nat -> Prop) (w' : World), (boO c).J F' S w' -> Calls Tryz.prog 57 #[.pointer (some ⟨c.a.pw, 0, none⟩), .int .i64 (S.1.s.rs.getD (rtN A) 0)] w' fun e w'' => e = .returned (.tuple #[.int .i64 a1, .int .i64 a2, .int .i64 a3]) /\ Below w'.heap.size w' w'') := KA
 have KC : Hid (∀ (F' : Nat -> Prop) (w' : World), (boO c).J F' S w' -> Calls Tryz.prog 57 #[.pointer (some ⟨c.a.pw, 0, none⟩), .int .i64 (S.1.s.rs.getD (rtN C) 0)] w' fun e w'' => e = .returned (.tuple #[.int .i64 k1, .int .i64 k2, .int .i64 k3]) /\ Below w'.heap.size w' w'') := KC
 have hb0 := (Below.refl w.heap.size w).alloc (Nat.le_refl _) (csC 5 A B C)
 have HJ : Hid ((boO c).J F S w /\ Below w.heap.size w (w.alloc (csC 5 A B C))) := ⟨h, hb0⟩
 have RA := root_any A
 have RC := root_any C
 have lC := rtN_lt C
 have lA := rtN_lt A
 have HX : Hid ((w.alloc (csC 5 A B C)).heap[w.heap.size]? = some (csC 5 A B C)) := heap_alloc_new _ _
 obtain ⟨q0, q1, q2, q3⟩ := cs_cells HX.out
 generalize rtN A = ka at *
 generalize rtN C = kc at *
 clear h hb0
 go_enter Tryz.func15, Tryz.ntmps15
 go_upto_region 1 with fail
 go_region_held3 (fun w' => w'.cell? ⟨w.heap.size, 1, none⟩ = some (.int .i64 A) /\ w'.cell? ⟨w.heap.size, 3, none⟩ = some (.int .i64 C)) (go_keep)
  (first
   | (go_at_call 49; refine (RA _).mono ?_; rintro e w9 ⟨rfl, hw9⟩; have hw9 := hw9.symm; subst hw9)
   | (go_at_call 49; refine (RC _).mono ?_; rintro e w9 ⟨rfl, hw9⟩; have hw9 := hw9.symm; subst hw9))
 have hb2 := HJ.out.2.drew
 have hJ2 := (boO c).below HJ.out.1 hb2
 have HJ2 : Hid ((boO c).J F S (w.alloc (csC 5 A B C)).drew /\ Tn F w F (w.alloc (csC 5 A B C)).drew /\ ∀ b, F b -> b < w.heap.size) := ⟨hJ2, Tn.of hb2, (boO c).lt HJ.out.1⟩
 have hx2 : (w.alloc (csC 5 A B C)).drew.heap[w.heap.size]? = some (csC 5 A B C) := HX.out
 clear HJ HX q0 q1 q2 q3 RA RC hb2
 generalize (w.alloc (csC 5 A B C)).drew = w2 at *
 obtain ⟨q0, q1, q2, q3⟩ := cs_cells hx2
 have HX : Hid (w2.heap[w.heap.size]? = some (csC 5 A B C)) := hx2
 obtain ⟨b0, b1, b2, b3, b5, b6, l1, l2, l3, n1, n2, n3⟩ := bo_all hJ2
 have lx := lt_of_some hx2
 have i0 : (0 : Int) <= (kc : Int) := by omega
 have i1 : (kc : Int) < 12 := by omega
 have j0 : (0 : Int) <= (ka : Int) := by omega
 have j1 : (ka : Int) < 12 := by omega
 clear hJ2 hx2
 obtain ⟨b7, _⟩ := b6 ka lA
 obtain ⟨b8, _⟩ := b6 kc lC
 clear b6
 have HG : Hid (∃ x y : Int, x = S.1.s.rs.getD ka 0 /\ y = S.1.s.rs.getD kc 0) := ⟨_, _, rfl, rfl⟩
 obtain ⟨x, y, ex, ey⟩ := HG.out
 rw [<- ex] at b7 KA RG RR
 rw [<- ey] at b8 KC RG RR
 have HE : Hid (x = S.1.s.rs.getD ka 0 /\ y = S.1.s.rs.getD kc 0) := ⟨ex, ey⟩
 clear ex ey HG q1 q2 q3
 have P := KC.out F w2.drew ((boO c).below HJ2.out.1 (Below.refl w2.heap.size w2).drew)
 clear KC
 go_wp2_with fail
 go_region_held3 (fun w' => w'.cell? ⟨c.pb, 0, none⟩ = some (.pointer (some ⟨c.a.pw, 0, none⟩)) /\ w'.cell? ⟨c.a.pw, 3, none⟩ = some (.slice (some ⟨c.a.nb, 0, none⟩) 12 12) /\ w'.cell? ⟨c.a.nb, kc, none⟩ = some (.int .i64 y)) (go_keep)
  (first
   | (go_at_call 57; refine P.mono ?_; clear P; rintro e w3 ⟨rfl, hb3⟩; have hb3 : Below w2.heap.size w2 w3 := (Below.refl w2.heap.size w2).drew.trans hb3; have y0 := (hb3.cell (p := ⟨c.pb, 0, none⟩) l1).trans b0; have y1 := (hb3.cell (p := ⟨c.a.pw, 3, none⟩) l2).trans b5; have y2 := (hb3.cell (p := ⟨c.a.nb, kc, none⟩) l3).trans b8))
 have y4 := (hb3.cell (p := ⟨c.a.nb, ka, none⟩) l3).trans b7
 have HJ3 : Hid ((boO c).J F S w3 /\ Tn F w F w3) := ⟨(boO c).below HJ2.out.1 hb3, HJ2.out.2.1.below hb3⟩
 clear b0 b1 b2 b3 b5 b7 b8 l1 l2 l3 q0 HJ2 HX lx hb3
 obtain ⟨_, _, _, _, _, _, l1, l2, l3, _⟩ := bo_all HJ3.out.1
 have P := KA.out F w3.drew ((boO c).below HJ3.out.1 (Below.refl w3.heap.size w3).drew)
 clear KA
 go_wp2_with fail
 go_region_held3 (fun w' => w'.cell? ⟨c.pb, 0, none⟩ = some (.pointer (some ⟨c.a.pw, 0, none⟩)) /\ w'.cell? ⟨c.a.pw, 3, none⟩ = some (.slice (some ⟨c.a.nb, 0, none⟩) 12 12) /\ w'.cell? ⟨c.a.nb, ka, none⟩ = some (.int .i64 x)) (go_keep)
  (first
   | (go_at_call 57; refine P.mono ?_; clear P; rintro e w4 ⟨rfl, hb4⟩; have hb4 : Below w3.heap.size w3 w4 := (Below.refl w3.heap.size w3).drew.trans hb4; have u0 := (hb4.cell (p := ⟨c.pb, 0, none⟩) l1).trans y0; have u1 := (hb4.cell (p := ⟨c.a.pw, 3, none⟩) l2).trans y1; have u2 := (hb4.cell (p := ⟨c.a.nb, ka, none⟩) l3).trans y4))
 have HJ4 : Hid ((boO c).J F S w4 /\ Tn F w F w4) := ⟨(boO c).below HJ3.out.1 hb4, HJ3.out.2.below hb4⟩
 clear y0 y1 y2 y4 u0 u1 u2 l1 l2 l3 HJ3 hb4
 obtain ⟨b0, b1, b2, b3, b5, b6, l1, l2, l3, _⟩ := bo_all HJ4.out.1
 obtain ⟨b7, _⟩ := b6 ka lA
 obtain ⟨b8, _⟩ := b6 kc lC
 rw [<- HE.out.1] at b7
 rw [<- HE.out.2] at b8
 clear b6 HE
 by_cases he : k3 = 0
 ·by_cases hd : a3 = 0
  ·by_cases hk : k1 = 5
   ·have hrk : rk = true := by rw [HR.out]; simp [he, hd, hk]
    have HS : Hid (S9 = (W9, R9)) := by rw [HS0.out, if_pos hrk]; exact (rfl : (W9, R9) = (W9, R9))
    rw [hrk] at HOK
    subst he hd hk
    clear HS0 HR hrk
    have P := RG.out F w4.drew ((boO c).below HJ4.out.1 (Below.refl w4.heap.size w4).drew)
    clear RG
    go_wp2_with fail
    go_region_held3 (fun w' => w'.cell? ⟨c.pb, 0, none⟩ = some (.pointer (some ⟨c.a.pw, 0, none⟩)) /\ w'.cell? ⟨c.a.pw, 2, none⟩ = some (.pointer (some ⟨c.a.sd, 0, none⟩)) /\ w'.cell? ⟨c.a.pw, 3, none⟩ = some (.slice (some ⟨c.a.nb, 0, none⟩) 12 12) /\ w'.cell? ⟨c.a.nb, ka, none⟩ = some (.int .i64 x) /\ w'.cell? ⟨c.a.nb, kc, none⟩ = some (.int .i64 y)) (go_keep)
     (first
      | (go_at_call 58; refine P.mono ?_; clear P; rintro e w5 ⟨F5, rfl, j5, t5⟩; have HJ5 : Hid ((boO c).J F5 (W9, S.2) w5 /\ Tn F w F5 w5) := ⟨j5, (HJ4.out.2.below (Below.refl w4.heap.size w4).drew).trans t5⟩; obtain ⟨u0, u2, u3, u7, u8⟩ := RR.out _ _ j5; clear j5 t5))
    clear b0 b1 b2 b3 b5 b7 b8
    obtain ⟨b0, b1, _⟩ := bo_all HJ5.out.1
    obtain ⟨FR, r1, r0, r2⟩ := bo_r HJ5.out.1
    have P := HD.out _ _ r1
    have HP : Hid (∀ F1 s1 w', (wrO c.rp c.rb c.most c.grow).J F1 s1 w' -> Tn FR w5 F1 w' -> ∃ F', (boO c).J F' (W9, s1) w' /\ Tn F5 w5 F' w') := r2
    have HT5 : Hid (Tn F w F5 w5) := HJ5.out.2
    clear r1 r0 r2 HJ5
    go_wp2_with fail
    refine P.mono ?_
    clear P
    rintro e w6 ⟨F6, rfl, j6, t6⟩
    obtain ⟨F7, j7, t7⟩ := HP.out _ _ _ j6 t6
    have HF : Hid ((boO c).J F7 S9 w6 /\ Tn F w F7 w6) := ⟨by rw [HS.out]; exact j7, HT5.out.trans t7⟩
    clear j6 t6 j7 t7 HP HT5
    go_wp2_with fail
    go_ret
    refine ⟨F7, ?_, HF.out.1, HF.out.2⟩
    rw [HOK.out]
    simp
   ·have hrk : rk = false := by rw [HR.out]; simp [hk]
    have HS : Hid (S9 = (S.1, R9)) := by rw [HS0.out, if_neg (by rw [hrk]; decide)]; exact (rfl : (S.1, R9) = (S.1, R9))
    rw [hrk] at HOK
    subst he hd
    have hk2 : (k1 == 5) = false := by simpa using hk
    clear HS0 HR hrk RG
    go_wp2_with fail
    go_quiet (fail)
    have hb5 := below_drewN (Below.refl w4.heap.size w4) nq
    have HJ5 : Hid ((boO c).J F S (w4.drewN nq) /\ Tn F w F (w4.drewN nq)) := ⟨(boO c).below HJ4.out.1 hb5, HJ4.out.2.below hb5⟩
    clear hb5 HJ4 b0 b1 b2 b3 b5 b7 b8
    generalize w4.drewN nq = w5 at *
    obtain ⟨b0, b1, _⟩ := bo_all HJ5.out.1
    obtain ⟨FR, r1, r0, r2⟩ := bo_r HJ5.out.1
    have P := HD.out _ _ r1
    have HP : Hid (∀ F1 s1 w', (wrO c.rp c.rb c.most c.grow).J F1 s1 w' -> Tn FR w5 F1 w' -> ∃ F', (boO c).J F' (S.1, s1) w' /\ Tn F w5 F' w') := r2
    have HT5 : Hid (Tn F w F w5) := HJ5.out.2
    clear r1 r0 r2 HJ5
    go_wp2_with fail
    refine P.mono ?_
    clear P
    rintro e w6 ⟨F6, rfl, j6, t6⟩
    obtain ⟨F7, j7, t7⟩ := HP.out _ _ _ j6 t6
    have HF : Hid ((boO c).J F7 S9 w6 /\ Tn F w F7 w6) := ⟨by rw [HS.out]; exact j7, HT5.out.trans t7⟩
    clear j6 t6 j7 t7 HP HT5
    go_wp2_with fail
    go_ret
    refine ⟨F7, ?_, HF.out.1, HF.out.2⟩
    rw [HOK.out]
    simp
  ·have hrk : rk = false := by rw [HR.out]; simp [hd]
   have HS : Hid (S9 = (S.1, R9)) := by rw [HS0.out, if_neg (by rw [hrk]; decide)]; exact (rfl : (S.1, R9) = (S.1, R9))
   rw [hrk] at HOK
   subst he
   have hd2 : (a3 == 0) = false := by simpa using hd
   clear HS0 HR hrk RG
   go_wp2_with fail
   go_quiet (fail)
   have hb5 := below_drewN (Below.refl w4.heap.size w4) nq
   have HJ5 : Hid ((boO c).J F S (w4.drewN nq) /\ Tn F w F (w4.drewN nq)) := ⟨(boO c).below HJ4.out.1 hb5, HJ4.out.2.below hb5⟩
   clear hb5 HJ4 b0 b1 b2 b3 b5 b7 b8
   generalize w4.drewN nq = w5 at *
   obtain ⟨b0, b1, _⟩ := bo_all HJ5.out.1
   obtain ⟨FR, r1, r0, r2⟩ := bo_r HJ5.out.1
   have P := HD.out _ _ r1
   have HP : Hid (∀ F1 s1 w', (wrO c.rp c.rb c.most c.grow).J F1 s1 w' -> Tn FR w5 F1 w' -> ∃ F', (boO c).J F' (S.1, s1) w' /\ Tn F w5 F' w') := r2
   have HT5 : Hid (Tn F w F w5) := HJ5.out.2
   clear r1 r0 r2 HJ5
   go_wp2_with fail
   refine P.mono ?_
   clear P
   rintro e w6 ⟨F6, rfl, j6, t6⟩
   obtain ⟨F7, j7, t7⟩ := HP.out _ _ _ j6 t6
   have HF : Hid ((boO c).J F7 S9 w6 /\ Tn F w F7 w6) := ⟨by rw [HS.out]; exact j7, HT5.out.trans t7⟩
   clear j6 t6 j7 t7 HP HT5
   go_wp2_with fail
   go_ret
   refine ⟨F7, ?_, HF.out.1, HF.out.2⟩
   rw [HOK.out]
   simp
 ·have hrk : rk = false := by rw [HR.out]; simp [he]
  have HS : Hid (S9 = (S.1, R9)) := by rw [HS0.out, if_neg (by rw [hrk]; decide)]; exact (rfl : (S.1, R9) = (S.1, R9))
  rw [hrk] at HOK
  have he2 : (k3 == 0) = false := by simpa using he
  clear HS0 HR hrk RG
  go_wp2_with fail
  go_quiet (fail)
  have hb5 := below_drewN (Below.refl w4.heap.size w4) nq
  have HJ5 : Hid ((boO c).J F S (w4.drewN nq) /\ Tn F w F (w4.drewN nq)) := ⟨(boO c).below HJ4.out.1 hb5, HJ4.out.2.below hb5⟩
  clear hb5 HJ4 b0 b1 b2 b3 b5 b7 b8
  generalize w4.drewN nq = w5 at *
  obtain ⟨b0, b1, _⟩ := bo_all HJ5.out.1
  obtain ⟨FR, r1, r0, r2⟩ := bo_r HJ5.out.1
  have P := HD.out _ _ r1
  have HP : Hid (∀ F1 s1 w', (wrO c.rp c.rb c.most c.grow).J F1 s1 w' -> Tn FR w5 F1 w' -> ∃ F', (boO c).J F' (S.1, s1) w' /\ Tn F w5 F' w') := r2
  have HT5 : Hid (Tn F w F w5) := HJ5.out.2
  clear r1 r0 r2 HJ5
  go_wp2_with fail
  refine P.mono ?_
  clear P
  rintro e w6 ⟨F6, rfl, j6, t6⟩
  obtain ⟨F7, j7, t7⟩ := HP.out _ _ _ j6 t6
  have HF : Hid ((boO c).J F7 S9 w6 /\ Tn F w F7 w6) := ⟨by rw [HS.out]; exact j7, HT5.out.trans t7⟩
  clear j6 t6 j7 t7 HP HT5
  go_wp2_with fail
  go_ret
  refine ⟨F7, ?_, HF.out.1, HF.out.2⟩
  rw [HOK.out]
  simp
end
end Go.Proofs.YtnalfnlmaallmaaGreat

namespace Go.Proofs.YtnalfnlmaallmaaGreat
set_option maxRecDepth 100000
set_option maxHeartbeats 4000000
open Go.RowKit W Kp Stl
section
variable {c : Bc} {F : Nat -> Prop} {S : Ww × Wrs} {w : World}
theorem do9_any (h : (boO c).J F S w) (d A B C : Int) (hd : d < 0 \/ 5 < d) :
  Calls Tryz.prog 15 #[.pointer (some ⟨c.pb, 0, none⟩), csV d A B C] w fun e w' => ∃ F', e = .returned (.bool true) /\ (boO c).J F' S w' /\ Tn F w F' w' := by
 have d0 : (d == 0) = false := by rw [beq_eq_false_iff_ne]; omega
 have d1 : (d == 1) = false := by rw [beq_eq_false_iff_ne]; omega
 have d2 : (d == 2) = false := by rw [beq_eq_false_iff_ne]; omega
 have d3 : (d == 3) = false := by rw [beq_eq_false_iff_ne]; omega
 have d4 : (d == 4) = false := by rw [beq_eq_false_iff_ne]; omega
 have d5 : (d == 5) = false := by rw [beq_eq_false_iff_ne]; omega
 clear hd
 have hb0 := (Below.refl w.heap.size w).alloc (Nat.le_refl _) (csC d A B C)
 have HJ : Hid ((boO c).J F S w /\ Below w.heap.size w (w.alloc (csC d A B C))) := ⟨h, hb0⟩
 have RA := root_any A
 have RC := root_any C
 have lC := rtN_lt C
 have lA := rtN_lt A
 have HX : Hid ((w.alloc (csC d A B C)).heap[w.heap.size]? = some (csC d A B C)) := heap_alloc_new _ _
 obtain ⟨q0, q1, q2, q3⟩ := cs_cells HX.out
 generalize rtN A = ka at *
 generalize rtN C = kc at *
 clear h hb0
 go_enter Tryz.func15, Tryz.ntmps15
 go_upto_region 1 with fail
 go_region_held3 (fun w' => w'.cell? ⟨w.heap.size, 1, none⟩ = some (.int .i64 A) /\ w'.cell? ⟨w.heap.size, 3, none⟩ = some (.int .i64 C)) (go_keep)
  (first
   | (go_at_call 49; refine (RA _).mono ?_; rintro e w9 ⟨rfl, hw9⟩; have hw9 := hw9.symm; subst hw9)
   | (go_at_call 49; refine (RC _).mono ?_; rintro e w9 ⟨rfl, hw9⟩; have hw9 := hw9.symm; subst hw9))
 have hb2 := HJ.out.2.drew
 have hJ2 := (boO c).below HJ.out.1 hb2
 have HJ2 : Hid ((boO c).J F S (w.alloc (csC d A B C)).drew /\ Tn F w F (w.alloc (csC d A B C)).drew /\ ∀ b, F b -> b < w.heap.size) := ⟨hJ2, Tn.of hb2, (boO c).lt HJ.out.1⟩
 have hx2 : (w.alloc (csC d A B C)).drew.heap[w.heap.size]? = some (csC d A B C) := HX.out
 clear HJ HX q0 q1 q2 q3 RA RC hb2
 generalize (w.alloc (csC d A B C)).drew = w2 at *
 obtain ⟨q0, q1, q2, q3⟩ := cs_cells hx2
 have HX : Hid (w2.heap[w.heap.size]? = some (csC d A B C)) := hx2
 obtain ⟨b0, b1, b2, b3, b5, b6, l1, l2, l3, n1, n2, n3⟩ := bo_all hJ2
 have lx := lt_of_some hx2
 have i0 : (0 : Int) <= (kc : Int) := by omega
 have i1 : (kc : Int) < 12 := by omega
 have j0 : (0 : Int) <= (ka : Int) := by omega
 have j1 : (ka : Int) < 12 := by omega
 clear hJ2 hx2
 clear b6
 go_wp2_with fail
 go_ret
 exact ⟨F, rfl, HJ2.out.1, HJ2.out.2.1⟩
end
end Go.Proofs.YtnalfnlmaallmaaGreat

namespace Go.Proofs.YtnalfnlmaallmaaGreat
set_option maxRecDepth 100000
set_option maxHeartbeats 400000
open Go.RowKit W
theorem wp_copy_mv {P : Program} {o : Oper} {a : Act} {w : World} {K : Act -> World -> Prop} {Q : Exit -> Act -> World -> Prop} (hgd : o.guard = none) (d s : Operand) (dT sT elem : TypeId)
  (ho : o.op = .call { callee := .builtin .copy, args := #[d, s], argTypes := #[dT, sT] }) (hu : P.underlying dT = some (.slice elem)) (hsz : (P.info? elem).map (·.size) = some 1)
  (dp sp : Option Addr) (dLen dCap sLen sCap : Nat) (hd : a.eval d = .slice dp dLen dCap) (hs : a.eval s = .slice sp sLen sCap)
  (g off : Nat) (cur : List Value) (t : TypeId) (hg : w.heap[g]? = some (.cells cur.toArray t (0, 0))) (cs : List Value) (hn : cs.length = Nat.min sLen dLen)
  (hpos : 0 < cs.length -> dp = some ⟨g, off, none⟩ /\ ∃ ad, sp = some ad /\ ∀ j v, cs[j]? = some v -> w.cell? (ad.add j) = some v)
  (hfit : off + cs.length <= cur.length) (h1 : ∀ v ∈ cs, v.oneCell' = true)
  (h : ∀ w', Mv w w' g cur off cs -> K (a.put o.dst (goInt cs.length)) w') : Oper.wp P o a w K Q := by
 have := step_copy_mv (P := P) (ops := #[]) (o := o) (a := a) (w := w) (K := K) (Q := Q) (E := False) hgd d s dT sT elem ho hu hsz dp sp dLen dCap sLen sCap hd hs g off cur t hg cs hn hpos hfit h1 h
 rwa [if_pos (show Region.wanted o (yielded #[] a.tmps) = true by simp [Region.wanted, hgd])] at this
theorem wpList_copy_mv {P : Program} {ops : Array Oper} {rest : List Oper} {o : Oper} {a : Act} {w : World} {Q : Exit -> Act -> World -> Prop} (hgd : o.guard = none) (d s : Operand) (dT sT elem : TypeId)
  (ho : o.op = .call { callee := .builtin .copy, args := #[d, s], argTypes := #[dT, sT] }) (hu : P.underlying dT = some (.slice elem)) (hsz : (P.info? elem).map (·.size) = some 1)
  (dp sp : Option Addr) (dLen dCap sLen sCap : Nat) (hd : a.eval d = .slice dp dLen dCap) (hs : a.eval s = .slice sp sLen sCap)
  (g off : Nat) (cur : List Value) (t : TypeId) (hg : w.heap[g]? = some (.cells cur.toArray t (0, 0))) (cs : List Value) (hn : cs.length = Nat.min sLen dLen)
  (hpos : 0 < cs.length -> dp = some ⟨g, off, none⟩ /\ ∃ ad, sp = some ad /\ ∀ j v, cs[j]? = some v -> w.cell? (ad.add j) = some v)
  (hfit : off + cs.length <= cur.length) (h1 : ∀ v ∈ cs, v.oneCell' = true)
  (h : ∀ w', Mv w w' g cur off cs -> wpList P ops Q rest (a.put o.dst (goInt cs.length)) w') : wpList P ops Q (o :: rest) a w :=
 wpList_plain hgd fun _ hK => wp_copy_mv hgd d s dT sT elem ho hu hsz dp sp dLen dCap sLen sCap hd hs g off cur t hg cs hn hpos hfit h1 (fun w' hw => hK _ _ (h w' hw))
theorem mul64_c (w : World) : Calls Tryz.prog 221 #[.int .u64 1, .int .u64 12] w fun e w' => e = .returned (.tuple #[.int .u64 0, .int .u64 12]) /\ w' = w := by
 go_enter Tryz.func221, Tryz.ntmps221
 go_wp2_with fail
 go_ret2
 exact ⟨rfl, rfl⟩
theorem mul_c (w : World) : Calls Tryz.prog 166 #[.int .u64 1, .int .u64 12] w fun e w' => e = .returned (.tuple #[.int .u64 0, .int .u64 12]) /\ w' = w := by
 go_enter Tryz.func166, Tryz.ntmps166
 go_wp2_with fail
 refine (mul64_c w).mono ?_
 rintro e w1 ⟨rfl, hw⟩
 have hw := hw.symm
 subst hw
 go_wp2_with fail
 go_ret2
 exact ⟨rfl, rfl⟩
end Go.Proofs.YtnalfnlmaallmaaGreat

namespace Go.Proofs.YtnalfnlmaallmaaGreat
set_option maxRecDepth 100000
set_option maxHeartbeats 400000
open Go.RowKit W
def tw (v : Int) (n : Nat) : List Int := List.replicate n v ++ List.replicate (12 - n) 0
theorem tw_len (v : Int) (n : Nat) (h : n <= 12) : (tw v n).length = 12 := by simp [tw]; omega
theorem tw_step (v : Int) (n m : Nat) (h : n + m <= 12) : splice (tw v n) n (List.replicate m v) = tw v (n + m) := by
 unfold splice tw
 rw [List.take_left' (by simp), List.length_replicate, List.drop_append, List.length_replicate]
 simp only [List.drop_replicate]
 rw [show n - (n + m) = 0 by omega, show 12 - n - (n + m - n) = 12 - (n + m) by omega]
 simp
 rw [<- List.append_assoc, List.replicate_append_replicate]
theorem tw_get (v : Int) (n i : Nat) (h : i < n) : (tw v n).getD i 0 = v := by
 unfold tw
 rw [List.getD_eq_getElem?_getD, List.getElem?_append_left (by simpa using h)]
 simp [h]
theorem one_cell {w : World} {b : Nat} {v : Int} (hc : w.cell? ⟨b, 0, none⟩ = some (.int .i64 v)) : ∀ j u, ((List.replicate 1 v).map (Value.int .i64))[j]? = some u -> w.cell? ((⟨b, 0, none⟩ : Addr).add j) = some u := by
 intro j u hj
 have hj0 : j = 0 := by
  have := (List.getElem?_eq_some_iff.1 hj).1
  simpa using this
 subst hj0
 simp at hj
 rw [<- hj]
 simpa [Addr.add] using hc
theorem tw_cell {w : World} {nb n : Nat} {v : Int} (hr : w.heap[nb]? = some (.cells ((tw v n).map (Value.int .i64)).toArray 2 (0, 0))) (hn : n <= 12) (m : Nat) (hm : m <= n) : ∀ j u, ((List.replicate m v).map (Value.int .i64))[j]? = some u -> w.cell? ((⟨nb, 0, none⟩ : Addr).add j) = some u := by
 intro j u hj
 have hjm : j < m := by
  have := (List.getElem?_eq_some_iff.1 hj).1
  simpa using this
 have hu : u = .int .i64 v := by
  simp [hjm] at hj
  exact hj.symm
 have hl := tw_len v n hn
 have hg := tw_get v n j (by omega)
 rw [List.getD_eq_getElem?_getD, List.getElem?_eq_getElem (by omega : j < (tw v n).length)] at hg
 simp at hg
 have ea : (⟨nb, 0, none⟩ : Addr).add j = ⟨nb, j, none⟩ := by simp [Addr.add]; intro h; exact h.symm
 rw [ea, hu]
 have hlt : j < (tw v n).length := by omega
 simp [World.cell?, hr, List.getElem?_eq_getElem hlt]
 exact hg
theorem mv_tw {w w' : World} {nb n m B : Nat} {v : Int} (hmv : Mv w w' nb ((tw v n).map (Value.int .i64)) n ((List.replicate m v).map (Value.int .i64))) (hr : w.heap[nb]? = some (.cells ((tw v n).map (Value.int .i64)).toArray 2 (0, 0))) (hm : 0 < m) (h : n + m <= 12) (hB : B <= nb) : w'.heap[nb]? = some (.cells ((tw v (n + m)).map (Value.int .i64)).toArray 2 (0, 0)) /\ Below B w w' := by
 rcases hmv with ⟨h0, _⟩ | rfl
 ·have := congrArg List.length h0
  simp at this
  omega
 ·rw [splice_map, tw_step v n m h]
  exact ⟨setRow_heap w nb _ _ _ _ hr, ⟨rfl, rfl, rfl, by simp [World.setRow], fun k hk => setRow_other w nb k _ (by omega)⟩⟩
theorem repeat12_any (w : World) (b : Nat) (v : Int) (hc : w.cell? ⟨b, 0, none⟩ = some (.int .i64 v)) :
  Calls Tryz.prog 106 #[.slice (some ⟨b, 0, none⟩) 1 1, .int .i64 12] w fun e w' => ∃ nb, e = .returned (.slice (some ⟨nb, 0, none⟩) 12 12) /\ w.heap.size <= nb /\ w'.heap[nb]? = some (.cells ((tw v 12).map (Value.int .i64)).toArray 2 (0, 0)) /\ Below w.heap.size w w' := by
 obtain ⟨i0, hi, hz0, hz1, hz2⟩ := info_parts info64A
 have lb := World.block_lt_of_cell? w _ hc
 dsimp only at lb
 go_enter Tryz.func106, Tryz.ntmps106
 go_wp2_with fail
 refine (mul_c w).mono ?_
 rintro e w0 ⟨rfl, hw⟩
 have hw := hw.symm
 subst hw
 go_upto_region 7 with (at_make; refine wpList_make_full _ rfl _ _ 42 rfl w.heap.size 2 i0 (.int .i64 0) 1 Tryz.underlying42 hi hz0 hz1 .i64 .i64 _ _ 12 rfl rfl (by omega) (by omega) (by rw [hz2]; omega) (by unfold maxLen; omega) (Nat.le_refl _) ?_; intro w1 hown hgrow)
 have hr : w1.heap[w.heap.size]? = some (.cells ((tw v 0).map (Value.int .i64)).toArray 2 (0, 0)) := by
  have h9 := made_row hown
  simpa [tw] using h9
 have hb1 : Below w.heap.size w w1 := (Below.refl _ w).grown hgrow (Nat.le_refl _) (fun _ h => by cases h)
 have x1 := (hb1.cell (p := ⟨b, 0, none⟩) lb).trans hc
 clear hown hgrow
 have H1 : Hid (∀ j u, ((List.replicate 1 v).map (Value.int .i64))[j]? = some u -> w1.cell? ((⟨b, 0, none⟩ : Addr).add j) = some u) := one_cell x1
 have H2 : Hid (w1.heap[w.heap.size]? = some (.cells ((tw v 0).map (Value.int .i64)).toArray 2 (0, 0))) := hr
 have H3 : Hid (((List.replicate 1 v).map (Value.int .i64)).length = Nat.min 1 12) := rfl
 have H4 : Hid (0 + ((List.replicate 1 v).map (Value.int .i64)).length <= ((tw v 0).map (Value.int .i64)).length) := by show _ <= _; rw [List.length_map, List.length_map, tw_len v 0 (by omega)]; simp
 clear x1 hr
 go_wp2_with (refine wpList_copy_mv rfl _ _ 42 42 2 rfl Tryz.underlying42 size64 (some ⟨w.heap.size, 0, none⟩) (some ⟨b, 0, none⟩) 12 12 1 1 rfl rfl w.heap.size 0 ((tw v 0).map (Value.int .i64)) 2 H2.out ((List.replicate 1 v).map (Value.int .i64)) H3.out (fun _ => ⟨rfl, _, rfl, H1.out⟩) H4.out (ints_one _) ?_; intro w2 hmv)
 obtain ⟨hr2, hb2⟩ := mv_tw (B := w.heap.size) hmv H2.out (by omega) (by omega) (Nat.le_refl _)
 have hb12 := hb1.trans hb2
 clear hmv H1 H2 H3 H4 hb1 hb2
 go_loopw [8] (fun nv wr => ∃ n : Nat, 1 <= n /\ n <= 12 /\ nv = .int .i64 n /\ Hid (wr.heap[w.heap.size]? = some (.cells ((tw v n).map (Value.int .i64)).toArray 2 (0, 0))) /\ Below w.heap.size w wr) (fun nv _ => 12 - (intOf nv).toNat)
 case atStart => exact ⟨1, Nat.le_refl _, by omega, rfl, hr2, hb12⟩
 case round =>
  clear hr2 hb12
  obtain ⟨n, n1, n2, rfl, HR, hb⟩ := hrel
  by_cases hlt : n < 12
  ·obtain ⟨m, hm, hm1, hm2, hm3⟩ : ∃ m, m = Nat.min n (12 - n) /\ 0 < m /\ n + m <= 12 /\ m <= n := ⟨_, rfl, by simp only [Nat.min_def]; split <;> omega, by simp only [Nat.min_def]; split <;> omega, by simp only [Nat.min_def]; split <;> omega⟩
   have HRd : Hid (wr.drew.heap[w.heap.size]? = some (.cells ((tw v n).map (Value.int .i64)).toArray 2 (0, 0))) := HR.out
   have H1 : Hid (∀ j u, ((List.replicate m v).map (Value.int .i64))[j]? = some u -> wr.drew.cell? ((⟨w.heap.size, 0, none⟩ : Addr).add j) = some u) := tw_cell HRd.out n2 m hm3
   have H3 : Hid (((List.replicate m v).map (Value.int .i64)).length = Nat.min n (12 - n)) := by show _ = _; rw [<- hm]; simp
   have H4 : Hid (n + ((List.replicate m v).map (Value.int .i64)).length <= ((tw v n).map (Value.int .i64)).length) := by show _ <= _; rw [List.length_map, List.length_map, tw_len v n n2]; simpa using hm2
   have hne : ¬ 12 = n := by omega
   have i0 : (0 : Int) <= (n : Int) := by omega
   have i1 : (n : Int) <= 12 := by omega
   have i2 : (n : Int) < 12 := by omega
   clear HR
   go_wp2_with fail
   go_region_law (refine step_copy_mv rfl (.tmp 41) (.tmp 44) 42 42 2 rfl Tryz.underlying42 size64 (some ⟨w.heap.size, n, none⟩) (some ⟨w.heap.size, 0, none⟩) (12 - n) (12 - n) n 12 ?_ ?_ w.heap.size n ((tw v n).map (Value.int .i64)) 2 HRd.out ((List.replicate m v).map (Value.int .i64)) H3.out (fun _ => ⟨rfl, _, rfl, H1.out⟩) H4.out (ints_one _) ?_; (simp [Act.eval, Act.put]); (simp [Act.eval, Act.put]); intro w3 hmv3)
   obtain ⟨hr3, hb3⟩ := mv_tw (B := w.heap.size) hmv3 HRd.out hm1 hm2 (Nat.le_refl _)
   have HR3 : Hid (w3.heap[w.heap.size]? = some (.cells ((tw v (n + m)).map (Value.int .i64)).toArray 2 (0, 0))) := hr3
   have hb13 := hb.drew.trans hb3
   have hw : IntKind.i64.wrap ((n : Int) + (m : Int)) = ((n + m : Nat) : Int) := by rw [IntKind.wrap_i64]; omega
   clear hr3 hb3 hmv3 HRd H1 H3 H4 hb
   simp [Act.put, go_sem, Exit.inBlock]
   rw [<- hm, hw]
   refine ⟨⟨_, _, _, _, _, _, _, _, _, _, _, _, _, _, ?rel, rfl⟩, ?measure⟩
   case rel => exact ⟨n + m, by omega, hm2, rfl, HR3, hb13⟩
   case measure => simp [intOf]; omega
  ·obtain rfl : n = 12 := by omega
   have HR2 := HR.out
   go_wp2_with fail
   go_ret
   exact ⟨w.heap.size, rfl, Nat.le_refl _, HR2, hb⟩
end Go.Proofs.YtnalfnlmaallmaaGreat

namespace Go.Proofs.YtnalfnlmaallmaaGreat
set_option maxRecDepth 100000
set_option maxHeartbeats 1000000
open Go.RowKit W
theorem newW_yes (n o : Nat) (w : World) (h0 : 16 <= n) (h1 : n <= 256) (h3 : o <= 1024) :
  Calls Tryz.prog 47 #[.int .i64 n, .int .i64 o] w fun e w' => ∃ pw p q pc pq s nb, e = .returned (.tuple #[.pointer (some ⟨pw, 0, none⟩), .agg #[.int .i64 0, .int .i64 0]]) /\ Wod w' pw p q pc pq n o 0 0 (List.replicate (n + o) 0) (nC o) [] (.pointer (some ⟨s, 0, none⟩)) (.slice (some ⟨nb, 0, none⟩) 12 12) /\ w'.heap[s]? = some (.cells #[.slice none 0 0, .slice none 0 0] 153 (0, 0)) /\ w'.heap[nb]? = some (.cells ((tw 2 12).map (Value.int .i64)).toArray 2 (0, 0)) /\
   (w.heap.size <= pw /\ w.heap.size <= p /\ w.heap.size <= q /\ w.heap.size <= pc /\ w.heap.size <= pq /\ w.heap.size <= s /\ w.heap.size <= nb) /\ Below w.heap.size w w' := by
 have hba := (Below.refl w.heap.size w).alloc (Nat.le_refl _) (.cells #[.int .i64 0, .int .i64 0] 28)
 have hr0 := heap_alloc_new w (.cells #[.int .i64 0, .int .i64 0] 28)
 have P := new_yes n o (w.alloc (.cells #[.int .i64 0, .int .i64 0] 28)) (by omega) (by omega) (by omega) (by omega)
 simp only [Int.toNat_natCast] at P
 go_enter Tryz.func47, Tryz.ntmps47
 go_wp2_with fail
 refine P.mono ?_
 clear P
 rintro e w1 ⟨p, q, rfl, hA1, hp, hq, hb1⟩
 have hr1 := (hb1.block w.heap.size (by simp)).trans hr0
 have hB1 := hba.trans (hb1.mono (by simp))
 simp at hp hq
 have hs1 := hb1.size
 simp at hs1
 have hA2 := hA1.alloc (.cells #[.int .i64 0, .int .i64 0] 28)
 have hba2 := (Below.refl w1.heap.size w1).alloc (Nat.le_refl _) (.cells #[.int .i64 0, .int .i64 0] 28)
 have hB2 := hB1.trans (hba2.mono (by omega))
 clear hb1 hr0 hba
 go_wp2_with fail
 refine (bounds_any _ hA2).mono ?_
 rintro e w3 ⟨rfl, hb3⟩
 have hA3 := hA2.below hb3 (Nat.le_refl _)
 have hB3 := hB2.trans (hb3.mono (by simp; omega))
 have hs3 := hb3.size
 simp at hs3
 have hr3 := ((hb3.block w.heap.size (by simp; omega)).trans (hba2.block w.heap.size (by omega))).trans hr1
 clear hA1 hA2 hb3 hba2 hr1
 go_wp2_with fail
 refine (newC_any n o w3 (by omega)).mono ?_
 rintro e w4 ⟨pc, pq, rfl, hC4, hpc, hpq, hb4⟩
 have hA4 := hA3.below hb4 (Nat.le_refl _)
 have hB4 := hB3.trans (hb4.mono (by omega))
 have hs4 := hb4.size
 have hr4 := (hb4.block w.heap.size (by omega)).trans hr3
 clear hA3 hb4 hr3
 go_wp2_with fail
 have hba5 := (Below.refl w4.heap.size w4).alloc (Nat.le_refl _) (.cells #[.slice none 0 0, .slice none 0 0] 153)
 have hsd5 := heap_alloc_new w4 (.cells #[.slice none 0 0, .slice none 0 0] 153)
 refine (nil_any _).mono ?_
 rintro e w5 ⟨rfl, hw⟩
 have sz5 : w5.heap.size = w4.heap.size + 1 := by rw [hw]; simp
 rw [<- hw] at hba5 hsd5
 clear hw
 have hA5 := hA4.below hba5 (Nat.le_refl _)
 have hC5 := hC4.below hba5 (Nat.le_refl _)
 have hB5 := hB4.trans (hba5.mono (by omega))
 have hr5 := (hba5.block w.heap.size (by omega)).trans hr4
 clear hA4 hC4 hr4 hba5
 go_wp2_with fail
 have hba6 := (Below.refl w5.heap.size w5).alloc (Nat.le_refl _) (.cells #[.int .i64 2] 2)
 refine (repeat12_any _ (w4.heap.size + 1) 2 (by rw [<- sz5]; simp)).mono ?_
 rintro e w6 ⟨nb, rfl, hnb, hrow, hb6⟩
 have hb56 := hba6.trans (hb6.mono (by simp))
 have hA6 := hA5.below hb56 (Nat.le_refl _)
 have hC6 := hC5.below hb56 (Nat.le_refl _)
 have hB6 := hB5.trans (hb56.mono (by omega))
 have hr6 := (hb56.block w.heap.size (by omega)).trans hr5
 have hsd6 := (hb56.block w4.heap.size (by omega)).trans hsd5
 have hs6 := hb56.size
 have hnb' : w.heap.size < nb := by simp at hnb; omega
 have hnl := lt_of_some hrow
 have y0 : w6.cell? ⟨w.heap.size, 0, none⟩ = some (.int .i64 0) := by simp [World.cell?, hr6]
 have y1 : w6.cell? ⟨w.heap.size, 1, none⟩ = some (.int .i64 0) := by simp [World.cell?, hr6]
 have f0 : w6.frozen? ⟨w.heap.size, 0, none⟩ = false := by simp [World.frozen?, hr6]
 have f1 : w6.frozen? ⟨w.heap.size, 1, none⟩ = false := by simp [World.frozen?, hr6]
 have l6 : w.heap.size < w6.heap.size := by omega
 clear hA5 hC5 hr5 hsd5 hb6 hb56 hba6 hnb
 go_wp2_with fail
 obtain ⟨W0, hW0⟩ : ∃ W0, W0 = (w6.setCell ⟨w.heap.size, 0, none⟩ (.int .i64 0)).setCell ⟨w.heap.size, 1, none⟩ (.int .i64 0) := ⟨_, rfl⟩
 rw [<- hW0]
 have sz0 : W0.heap.size = w6.heap.size := by rw [hW0]; simp [World.setCell]
 have k0 : ∀ k, k ≠ w.heap.size -> W0.heap[k]? = w6.heap[k]? := fun k hk => by rw [hW0]; exact (Below.heap_setCell _ _ _ _ hk).trans (Below.heap_setCell _ _ _ _ hk)
 have g0 : W0.cell? ⟨w.heap.size, 0, none⟩ = some (.int .i64 0) := by
  rw [hW0, World.cell?_setCell_other _ _ _ _ (by simp)]
  exact World.cell?_setCell_same _ _ _ y0
 have g1 : W0.cell? ⟨w.heap.size, 1, none⟩ = some (.int .i64 0) := by
  rw [hW0]
  exact World.cell?_setCell_same _ _ _ ((World.cell?_setCell_other w6 ⟨w.heap.size, 0, none⟩ ⟨w.heap.size, 1, none⟩ _ (by simp)).trans y1)
 have hF0 : Below w.heap.size w W0 := by
  rw [hW0]
  exact hB6.trans ((((Fr.refl (fun k => k = w.heap.size) w6).set w.heap.size 0 _ rfl).set w.heap.size 1 _ rfl).below (Nat.le_of_lt l6) (fun x e => by have e : x = w.heap.size := e; omega))
 have hn0 := heap_alloc_new W0 (.cells #[.pointer (some ⟨p, 0, none⟩), .pointer (some ⟨pc, 0, none⟩), .pointer (some ⟨w4.heap.size, 0, none⟩), .slice (some ⟨nb, 0, none⟩) 12 12] 44)
 rw [sz0] at hn0
 have hbN := (Below.refl W0.heap.size W0).alloc (Nat.le_refl _) (.cells #[.pointer (some ⟨p, 0, none⟩), .pointer (some ⟨pc, 0, none⟩), .pointer (some ⟨w4.heap.size, 0, none⟩), .slice (some ⟨nb, 0, none⟩) 12 12] 44)
 have hA7 := (hA6.same (w' := W0) (k0 p (by omega)) (k0 q (by omega))).below hbN (Nat.le_refl _)
 have hC7 := (hC6.same (w' := W0) (k0 pc (by omega)) (k0 pq (by omega))).below hbN (Nat.le_refl _)
 have hsd7 := ((hbN.block w4.heap.size (by omega)).trans (k0 _ (by omega))).trans hsd6
 have hrow7 := ((hbN.block nb (by omega)).trans (k0 _ (by omega))).trans hrow
 have r0 := (hbN.cell (p := ⟨w.heap.size, 0, none⟩) (by show w.heap.size < _; omega)).trans g0
 have r1 := (hbN.cell (p := ⟨w.heap.size, 1, none⟩) (by show w.heap.size < _; omega)).trans g1
 have hfin := hF0.trans (hbN.mono (by omega))
 clear y0 y1 f0 f1 hW0
 generalize W0.alloc (.cells #[.pointer (some ⟨p, 0, none⟩), .pointer (some ⟨pc, 0, none⟩), .pointer (some ⟨w4.heap.size, 0, none⟩), .slice (some ⟨nb, 0, none⟩) 12 12] 44) = WF at *
 refine bodyPost_ret (v := .tuple #[.pointer (some ⟨w6.heap.size, 0, none⟩), .agg #[.int .i64 0, .int .i64 0]]) (by simp [results, Tryz.results47, go_sem, r0, r1]) rfl ⟨w6.heap.size, p, q, pc, pq, w4.heap.size, nb, rfl, ⟨hn0, hA7, hC7⟩, hsd7, hrow7, ⟨by omega, by omega, by omega, by omega, by omega, by omega, by omega⟩, hfin⟩
end Go.Proofs.YtnalfnlmaallmaaGreat

namespace Go.Proofs.YtnalfnlmaallmaaGreat
set_option maxRecDepth 100000
set_option maxHeartbeats 1000000
open Go.RowKit W
theorem newW_no (n o : Int) (w : World) (h : n < 16 \/ 256 < n \/ o < 0 \/ 1024 < o) :
  Calls Tryz.prog 47 #[.int .i64 n, .int .i64 o] w fun e w' => e = .returned (.tuple #[.pointer none, .agg #[.int .i64 1, .int .i64 (-1)]]) /\ Below w.heap.size w w' := by
 have hba := (Below.refl w.heap.size w).alloc (Nat.le_refl _) (.cells #[.int .i64 0, .int .i64 0] 28)
 have hr0 := heap_alloc_new w (.cells #[.int .i64 0, .int .i64 0] 28)
 have P := new_no n o (w.alloc (.cells #[.int .i64 0, .int .i64 0] 28)) h
 clear h
 go_enter Tryz.func47, Tryz.ntmps47
 go_wp2_with fail
 refine P.mono ?_
 clear P
 rintro e w1 ⟨rfl, hb1⟩
 have hr1 := (hb1.block w.heap.size (by simp)).trans hr0
 have hB1 := hba.trans (hb1.mono (by simp))
 have hs1 := hb1.size
 simp at hs1
 have y0 : w1.cell? ⟨w.heap.size, 0, none⟩ = some (.int .i64 0) := by simp [World.cell?, hr1]
 have y1 : w1.cell? ⟨w.heap.size, 1, none⟩ = some (.int .i64 0) := by simp [World.cell?, hr1]
 have f0 : w1.frozen? ⟨w.heap.size, 0, none⟩ = false := by simp [World.frozen?, hr1]
 have f1 : w1.frozen? ⟨w.heap.size, 1, none⟩ = false := by simp [World.frozen?, hr1]
 have l1 : w.heap.size < w1.heap.size := by omega
 have hne : ¬ w.heap.size = w1.heap.size := by omega
 have hne2 : ¬ w1.heap.size = w.heap.size := by omega
 clear hb1 hr0 hba hr1
 go_wp2_with fail
 go_region_law (fail)
 all_goals
  obtain ⟨W0, hW0⟩ : ∃ W0, W0 = (w1.setCell ⟨w.heap.size, 0, none⟩ (.int .i64 1)).setCell ⟨w.heap.size, 1, none⟩ (.int .i64 (-1)) := ⟨_, rfl⟩
  rw [<- hW0]
  have sz0 : W0.heap.size = w1.heap.size := by rw [hW0]; simp [World.setCell]
  have g0 : W0.cell? ⟨w.heap.size, 0, none⟩ = some (.int .i64 1) := by
   rw [hW0, World.cell?_setCell_other _ _ _ _ (by simp)]
   exact World.cell?_setCell_same _ _ _ y0
  have g1 : W0.cell? ⟨w.heap.size, 1, none⟩ = some (.int .i64 (-1)) := by
   rw [hW0]
   exact World.cell?_setCell_same _ _ _ ((World.cell?_setCell_other w1 ⟨w.heap.size, 0, none⟩ ⟨w.heap.size, 1, none⟩ _ (by simp)).trans y1)
  have hF0 : Below w.heap.size w W0 := by
   rw [hW0]
   exact hB1.trans ((((Fr.refl (fun k => k = w.heap.size) w1).set w.heap.size 0 _ rfl).set w.heap.size 1 _ rfl).below (Nat.le_of_lt l1) (fun x e => by have e : x = w.heap.size := e; omega))
  have hbN := ((Below.refl W0.heap.size W0).alloc (Nat.le_refl _) (.cells #[.int .i64 1, .int .i64 (-1)] 28)).drew
  have r0 := (hbN.cell (p := ⟨w.heap.size, 0, none⟩) (by show w.heap.size < _; omega)).trans g0
  have r1 := (hbN.cell (p := ⟨w.heap.size, 1, none⟩) (by show w.heap.size < _; omega)).trans g1
  have hfin := hF0.trans (hbN.mono (by omega))
  clear y0 y1 f0 f1 hW0 hbN g0 g1
  generalize (W0.alloc (.cells #[.int .i64 1, .int .i64 (-1)] 28)).drew = WF at *
  go_wp2_with fail
  refine bodyPost_ret (v := .tuple #[.pointer none, .agg #[.int .i64 1, .int .i64 (-1)]]) (by simp [results, Tryz.results47, go_sem, r0, r1]) rfl ⟨rfl, hfin⟩
end Go.Proofs.YtnalfnlmaallmaaGreat
