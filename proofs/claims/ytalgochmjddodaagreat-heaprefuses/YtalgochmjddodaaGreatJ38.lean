/- Joined: HRf, HRfP. -/
import Derived.Test.YtalgochmjddodaaGreatJ37
import Derived.Deep.DeepCutAuto
import Derived.Test.YtalgochmjddodaaGreatRows
import Derived.ProofKit
import Derived.OpenShut
import Derived.Lib.SmallJoins
import Derived.ShutString
import Derived.ChangeOld
import Derived.Below
namespace Go.Proofs.YtalgochmjddodaaGreat.HRf
set_option maxRecDepth 100000
set_option maxHeartbeats 8000000
open Go.RowKit W Kp Stl
theorem cellv {w : World} {xb : Nat} {a b : Value} (hx : w.heap[xb]? = some (.cells #[a, b] 52 (0, 0))) : w.cell? ⟨xb, 0, none⟩ = some a /\ w.cell? ⟨xb, 1, none⟩ = some b := by
 refine ⟨?_, ?_⟩ <;> simp [World.cell?, hx]
theorem walk (n o : Int) (a : Option Addr) (cc : Nat) (l : List S6) (w : World) (hl : L6 w a l) :
  Calls Tryz.prog 7 #[.int .i64 n, .int .i64 o, .slice a l.length cc] w fun e w' => e = .returned (.bool true) /\ Below w.heap.size w w' := by
 have HL : Hid (L6 w a l) := hl
 clear hl
 by_cases hlen : 150 < l.length
 ·go_enter Tryz.func7, Tryz.ntmps7
  go_wp2_with fail
  refine (heapBegun_any w).mono ?_
  rintro e w1 ⟨rfl, hb1⟩
  have h2 : (150 : Int) < (l.length : Int) := by omega
  go_wp2_with fail
  go_ret
  exact ⟨rfl, hb1⟩
 ·have h2 : ¬ ((150 : Int) < (l.length : Int)) := by omega
  by_cases hno : n < 16 \/ 256 < n \/ o < 0 \/ 1024 < o
  ·have HNO : Hid (n < 16 \/ 256 < n \/ o < 0 \/ 1024 < o) := hno
   clear hno
   go_enter Tryz.func7, Tryz.ntmps7
   go_wp2_with fail
   refine (heapBegun_any w).mono ?_
   rintro e w1 ⟨rfl, hb1⟩
   go_wp2_with fail
   refine (newH_no n o w1 HNO.out).mono ?_
   rintro e w2 ⟨rfl, hb2⟩
   have hB2 := hb1.trans (hb2.mono hb1.size)
   have hba := (Below.refl w2.heap.size w2).alloc (Nat.le_refl _) (.cells #[.int .i64 1, .int .i64 (-1)] 28)
   have hB3 := hB2.trans (hba.mono hB2.size)
   clear hb1 hb2 hB2 hba
   go_wp2_with fail
   go_ret
   exact ⟨rfl, hB3⟩
  ·have hn0 : 16 <= n /\ n <= 256 /\ 0 <= o /\ o <= 1024 := by omega
   obtain ⟨n, rfl⟩ := Int.eq_ofNat_of_zero_le (show 0 <= n by omega)
   obtain ⟨o, rfl⟩ := Int.eq_ofNat_of_zero_le (show 0 <= o by omega)
   go_enter Tryz.func7, Tryz.ntmps7
   go_wp2_with fail
   refine (heapBegun_any w).mono ?_
   rintro e w1 ⟨rfl, hb1⟩
   go_wp2_with fail
   refine (newH_yes n o w1 (by omega) (by omega) (by omega)).mono ?_
   rintro e w2 ⟨c, hp, F1, rfl, j1, ⟨k1, k2⟩, g1, b1⟩
   have hba := (Below.refl w2.heap.size w2).alloc (Nat.le_refl _) (.cells #[.int .i64 0, .int .i64 0] 28)
   have H2 : Hid ((heO c hp).J F1 (bo0 n o).1 (w2.alloc (.cells #[.int .i64 0, .int .i64 0] 28)) /\ Hok c (bo0 n o).1 0 /\ ∀ b, F1 b -> w1.heap.size <= b) := ⟨(heO c hp).below j1 hba, Hok.start c n o, g1⟩
   have HB2 : Hid (Below w1.heap.size w1 (w2.alloc (.cells #[.int .i64 0, .int .i64 0] 28))) := b1.trans (hba.mono b1.size)
   clear j1 k1 k2 g1 b1 hno hn0 hba
   go_wp2_with fail
   generalize w2.alloc (.cells #[.int .i64 0, .int .i64 0] 28) = w3 at *
   go_loopw [9] (fun iv wr => ∃ (j : Nat) (S : Ww) (F : Nat -> Prop), j <= l.length /\ iv = .int .i64 j /\ Hid ((heO c hp).J F S wr /\ Hok c S j /\ ∀ b, F b -> w1.heap.size <= b) /\ Hid (Below w1.heap.size w1 wr)) (fun iv _ => l.length - (intOf iv).toNat)
   case atStart => exact ⟨0, (bo0 n o).1, F1, Nat.zero_le _, rfl, H2, HB2⟩
   case round =>
    clear H2 HB2
    obtain ⟨j, S, F, hj, rfl, H, HB⟩ := hrel
    by_cases hlt : j < l.length
    ·obtain ⟨b0, p0, e0, l0, hc⟩ := HL.out (by omega)
     obtain ⟨hc6, _⟩ := hc j hlt
     subst e0
     clear hc
     have hbw := hb1.trans (HB.out.mono hb1.size)
     have HC6 : Hid (C6 wr b0 (p0 + j * 6) (l.getD j s60) /\ b0 < w.heap.size) := ⟨hc6.below hbw l0, l0⟩
     clear hc6 hbw
     have j0 : (0 : Int) <= (j : Int) := by omega
     have j1 : (j : Int) < (l.length : Int) := by omega
     have hrq := H.out.2.1.rq
     have Jd := (heO c hp).below H.out.1 (Below.refl _ wr).drew
     obtain ⟨h0, c0, c3, rt, rl, lp, lw, ln⟩ := he_lk H.out.1
     have HPW : Hid (∀ F' w', (heO c hp).J F' S w' -> Calls Tryz.prog 34 #[.pointer (some ⟨c.p, 0, none⟩)] w' fun e w'' => ∃ ad cap, e = .returned (.slice ad S.s.ws.length cap) /\ LwN w'' w'.heap.size ad S.s.ws /\ Below w'.heap.size w' w'') := fun F' w' hJ => wordsH_any hJ
     have HPV : Hid (∀ F' w', (heO c hp).J F' S w' -> Calls Tryz.prog 23 #[.pointer (some ⟨c.pw, 0, none⟩)] w' fun e w'' => ∃ r2 d2 na nc, e = .returned (.agg #[.slice r2 12 d2, .slice na (vwL c.N S.s.y S.s.g S.s.ws S.q S.s.rs).2.2.length nc]) /\ LpN w'' w'.heap.size r2 (vwL c.N S.s.y S.s.g S.s.ws S.q S.s.rs).1 /\ LnN w'' w'.heap.size na (vwL c.N S.s.y S.s.g S.s.ws S.q S.s.rs).2.2 /\ Below w'.heap.size w' w'') := fun F' w' hJ => viewH_new hJ (by omega)
     have hF0 : Hid (∀ b, F b -> b < wr.heap.size) := (heO c hp).lt H.out.1
     have HVB : Hid ((vwL c.N S.s.y S.s.g S.s.ws S.q S.s.rs).1.length = 12 /\ (vwL c.N S.s.y S.s.g S.s.ws S.q S.s.rs).2.2.length <= 4000 /\ ∀ nd ∈ (vwL c.N S.s.y S.s.g S.s.ws S.q S.s.rs).2.2, nd.2.length <= S.q.length + 12) := by
      obtain ⟨q1, q2, q3⟩ := view_bd c.N S.s.y S.s.g S.s.ws S.q S.s.rs
      exact ⟨q1.trans rl, q2, q3⟩
     have HWL : Hid (S.s.ws.length <= 2000) := by
      have hb := he_wbd H.out.1
      have h1 := hb.l1
      have h2 := hb.n1
      have h3 := hb.o1
      show _ <= _
      omega
     obtain ⟨R, HV⟩ : ∃ R, Hid (vwL c.N S.s.y S.s.g S.s.ws S.q S.s.rs = R) := ⟨_, rfl⟩
     rw [HV.out] at HPV HVB
     obtain ⟨wl, HWS⟩ : ∃ wl, Hid (S.s.ws = wl) := ⟨_, rfl⟩
     rw [HWS.out] at HPW HWL
     clear rt
     go_upto_region 11 with fail
     go_cut [10, 11] (fun v10 v11 wc => ∃ aw cw vb r2 d2 na nc, v10 = .slice aw wl.length cw /\ v11 = .pointer (some ⟨vb, 0, none⟩) /\ Hid ((heO c hp).J F S wc /\ Below wr.heap.size wr wc) /\ Hid (LwN wc wr.heap.size aw wl /\ LpN wc wr.heap.size r2 R.1 /\ LnN wc wr.heap.size na R.2.2 /\ wc.heap[vb]? = some (.cells #[.slice r2 12 d2, .slice na R.2.2.length nc] 52 (0, 0)) /\ wr.heap.size <= vb))
     case first =>
      as_aux_lemma =>
      have hBd : Below wr.heap.size wr wr.drew := (Below.refl _ wr).drew
      have hBa : Below wr.heap.size wr (wr.drew.alloc (.cells #[.slice none 0 0, .slice none 0 0] 52)) := hBd.alloc (Nat.le_refl _) _
      have Ja := (heO c hp).below H.out.1 hBa
      have PWa := HPW.out _ _ Ja
      have PW := HPW.out _ _ Jd
      have n1 : wr.heap.size ≠ hp := by omega
      have n2 : wr.heap.size ≠ c.pw := by omega
      have oc0 : (wr.drew.alloc (.cells #[.slice none 0 0, .slice none 0 0] 52)).heap[wr.heap.size]? = some (.cells #[.slice none 0 0, .slice none 0 0] 52 (0, 0)) := heap_alloc_new wr.drew _
      have HO : Hid ((wr.drew.alloc (.cells #[.slice none 0 0, .slice none 0 0] 52)).heap[wr.heap.size]? = some (.cells #[.slice none 0 0, .slice none 0 0] 52 (0, 0)) /\ Below wr.heap.size wr wr.drew /\ Below wr.heap.size wr (wr.drew.alloc (.cells #[.slice none 0 0, .slice none 0 0] 52))) := ⟨oc0, hBd, hBa⟩
      have HJd : Hid ((heO c hp).J F S wr.drew) := Jd
      have HJa : Hid ((heO c hp).J F S (wr.drew.alloc (.cells #[.slice none 0 0, .slice none 0 0] 52))) := Ja
      clear hBd hBa oc0 Jd Ja
      go_region_held3 (fun w' => w'.cell? ⟨hp, 0, none⟩ = some (.pointer (some ⟨c.pw, 0, none⟩)) /\ w'.cell? ⟨c.pw, 0, none⟩ = some (.pointer (some ⟨c.p, 0, none⟩))) (go_keep)
       (first
        | (go_at_call 34; refine PW.mono ?_; clear PW PWa; rintro e w4 ⟨aw, cw, rfl, hw4, hb4⟩; have HJ4 : Hid ((heO c hp).J F S w4 /\ Below wr.heap.size wr w4 /\ LwN w4 wr.heap.size aw wl) := ⟨(heO c hp).below HJd.out hb4, HO.out.2.1.trans (hb4.mono (Nat.le_refl _)), hw4⟩; obtain ⟨g0, gc0, _, _, _, glp, glw, _⟩ := he_lk HJ4.out.1; clear hw4 hb4)
        | (go_at_call 34; refine PWa.mono ?_; clear PW PWa; rintro e w4 ⟨aw, cw, rfl, hw4, hb4⟩; have HJ4 : Hid ((heO c hp).J F S w4 /\ Below wr.heap.size wr w4 /\ LwN w4 (wr.heap.size + 1) aw wl) := ⟨(heO c hp).below HJa.out hb4, HO.out.2.2.trans (hb4.mono (by simp)), by simpa using hw4⟩; have HOC : Hid (w4.heap[wr.heap.size]? = some (.cells #[.slice none 0 0, .slice none 0 0] 52 (0, 0))) := (hb4.block wr.heap.size (by simp)).trans HO.out.1; obtain ⟨g0, gc0, _, _, _, glp, glw, _⟩ := he_lk HJ4.out.1; clear hw4 hb4)
        | (go_at_call 23; have hoc := HOC.out; refine (HPV.out _ _ HJ4.out.1).mono ?_; rintro e w5 ⟨r2, d2, na, nc, rfl, hp5, hn5, hb5⟩; have HJ5 : Hid ((heO c hp).J F S w5 /\ Below wr.heap.size wr w5 /\ LwN w5 (wr.heap.size + 1) aw wl /\ LpN w5 w4.heap.size r2 R.1 /\ LnN w5 w4.heap.size na R.2.2 /\ w5.heap[wr.heap.size]? = some (.cells #[.slice none 0 0, .slice none 0 0] 52 (0, 0)) /\ wr.heap.size < w4.heap.size) := ⟨(heO c hp).below HJ4.out.1 hb5, HJ4.out.2.1.trans (hb5.mono HJ4.out.2.1.size), HJ4.out.2.2.below hb5, hp5, hn5, (hb5.block _ (lt_of_some hoc)).trans hoc, lt_of_some hoc⟩; obtain ⟨u0, uc0, _, _, _, ulp, ulw, _⟩ := he_lk HJ5.out.1; have v0 : w5.cell? ⟨wr.heap.size, 0, none⟩ = some (.slice none 0 0) := (by simp [World.cell?, HJ5.out.2.2.2.2.2.1]); have v1 : w5.cell? ⟨wr.heap.size, 1, none⟩ = some (.slice none 0 0) := (by simp [World.cell?, HJ5.out.2.2.2.2.2.1]); have f0 : w5.frozen? ⟨wr.heap.size, 0, none⟩ = false := (by simp [World.frozen?, HJ5.out.2.2.2.2.2.1]); have f1 : w5.frozen? ⟨wr.heap.size, 1, none⟩ = false := (by simp [World.frozen?, HJ5.out.2.2.2.2.2.1]); have way1 := True.intro; clear hp5 hn5 hb5 hoc)
        | (go_at_call 23; refine (HPV.out _ _ HJ4.out.1).mono ?_; rintro e w5 ⟨r2, d2, na, nc, rfl, hp5, hn5, hb5⟩; have HJ5 : Hid ((heO c hp).J F S w5 /\ Below wr.heap.size wr w5 /\ LwN w5 wr.heap.size aw wl /\ LpN w5 w4.heap.size r2 R.1 /\ LnN w5 w4.heap.size na R.2.2 /\ wr.heap.size <= w4.heap.size) := ⟨(heO c hp).below HJ4.out.1 hb5, HJ4.out.2.1.trans (hb5.mono HJ4.out.2.1.size), HJ4.out.2.2.below hb5, hp5, hn5, HJ4.out.2.1.size⟩; obtain ⟨u0, uc0, _, _, _, ulp, ulw, _⟩ := he_lk HJ5.out.1; have way3 := True.intro; clear hp5 hn5 hb5)
        | (go_at_call 23; have hba := (Below.refl w4.heap.size w4).alloc (Nat.le_refl _) (.cells #[.slice none 0 0, .slice none 0 0] 52); refine (HPV.out _ _ ((heO c hp).below HJ4.out.1 hba)).mono ?_; rintro e w5 ⟨r2, d2, na, nc, rfl, hp5, hn5, hb5⟩; have HJ5 : Hid ((heO c hp).J F S w5 /\ Below w4.heap.size w4 w5 /\ LpN w5 (w4.heap.size + 1) r2 R.1 /\ LnN w5 (w4.heap.size + 1) na R.2.2 /\ w5.heap[w4.heap.size]? = some (.cells #[.slice none 0 0, .slice none 0 0] 52 (0, 0))) := ⟨(heO c hp).below ((heO c hp).below HJ4.out.1 hba) hb5, hba.trans (hb5.mono (by simp)), by simpa using hp5, by simpa using hn5, (hb5.block w4.heap.size (by simp)).trans (heap_alloc_new _ _)⟩; obtain ⟨u0, uc0, _, _, _, ulp, ulw, _⟩ := he_lk HJ5.out.1; have v0 : w5.cell? ⟨w4.heap.size, 0, none⟩ = some (.slice none 0 0) := (by simp [World.cell?, HJ5.out.2.2.2.2]); have v1 : w5.cell? ⟨w4.heap.size, 1, none⟩ = some (.slice none 0 0) := (by simp [World.cell?, HJ5.out.2.2.2.2]); have f0 : w5.frozen? ⟨w4.heap.size, 0, none⟩ = false := (by simp [World.frozen?, HJ5.out.2.2.2.2]); have f1 : w5.frozen? ⟨w4.heap.size, 1, none⟩ = false := (by simp [World.frozen?, HJ5.out.2.2.2.2]); have n3 : w4.heap.size ≠ hp := (by omega); have n4 : w4.heap.size ≠ c.pw := (by omega); have way2 := True.intro; clear hp5 hn5 hb5 hba))
      ·have hba := (Below.refl w5.heap.size w5).alloc (Nat.le_refl _) (.cells #[.slice r2 12 d2, .slice na R.2.2.length nc] 52)
       have HR : Hid ((heO c hp).J F S (w5.alloc (.cells #[.slice r2 12 d2, .slice na R.2.2.length nc] 52)) /\ Below wr.heap.size wr (w5.alloc (.cells #[.slice r2 12 d2, .slice na R.2.2.length nc] 52))) := ⟨(heO c hp).below HJ5.out.1 hba, HJ5.out.2.1.trans (hba.mono HJ5.out.2.1.size)⟩
       have HR2 : Hid (LwN (w5.alloc (.cells #[.slice r2 12 d2, .slice na R.2.2.length nc] 52)) wr.heap.size aw wl /\ LpN (w5.alloc (.cells #[.slice r2 12 d2, .slice na R.2.2.length nc] 52)) wr.heap.size r2 R.1 /\ LnN (w5.alloc (.cells #[.slice r2 12 d2, .slice na R.2.2.length nc] 52)) wr.heap.size na R.2.2 /\ (w5.alloc (.cells #[.slice r2 12 d2, .slice na R.2.2.length nc] 52)).heap[w5.heap.size]? = some (.cells #[.slice r2 12 d2, .slice na R.2.2.length nc] 52 (0, 0)) /\ wr.heap.size <= w5.heap.size) := ⟨HJ5.out.2.2.1.below hba, (HJ5.out.2.2.2.1.below hba).base HJ5.out.2.2.2.2.2, (HJ5.out.2.2.2.2.1.below hba).base HJ5.out.2.2.2.2.2, heap_alloc_new _ _, HJ5.out.2.1.size⟩
       clear hba HJ5 HJ4
       go_wp2_with fail
       go_meet
       case rel => exact ⟨aw, cw, w5.heap.size, r2, d2, na, nc, rfl, rfl, HR, HR2⟩
      ·obtain ⟨W5, hW5⟩ : ∃ W5, W5 = (w5.setCell ⟨w4.heap.size, 0, none⟩ (.slice r2 12 d2)).setCell ⟨w4.heap.size, 1, none⟩ (.slice na R.2.2.length nc) := ⟨_, rfl⟩
       rw [<- hW5]
       have fr : Fr (fun b => b = w4.heap.size) w5 W5 := by rw [hW5]; exact ((Fr.refl (fun b => b = w4.heap.size) w5).set _ _ _ rfl).set _ _ _ rfl
       have h4 := HJ4.out.2.1.size
       have h5 := HJ5.out.2.1.size
       have fb : Below w4.heap.size w4 W5 := HJ5.out.2.1.trans (fr.below h5 (fun k e => Nat.le_of_eq (Eq.symm e)))
       have HR : Hid ((heO c hp).J F S W5 /\ Below wr.heap.size wr W5) := ⟨(heO c hp).fr HJ5.out.1 fr (fun k hk e => by have h9 := hF0.out k hk; have e : k = w4.heap.size := e; omega), HJ4.out.2.1.trans (fb.mono h4)⟩
       have HR2 : Hid (LwN W5 wr.heap.size aw wl /\ LpN W5 wr.heap.size r2 R.1 /\ LnN W5 wr.heap.size na R.2.2 /\ W5.heap[w4.heap.size]? = some (.cells #[.slice r2 12 d2, .slice na R.2.2.length nc] 52 (0, 0)) /\ wr.heap.size <= w4.heap.size) := ⟨HJ4.out.2.2.below fb, (HJ5.out.2.2.1.fr fr (fun b e => by have e : b = w4.heap.size := e; omega)).base (by omega), (HJ5.out.2.2.2.1.fr fr (fun b e => by have e : b = w4.heap.size := e; omega)).base (by omega), by rw [hW5]; exact set_two HJ5.out.2.2.2.2, h4⟩
       clear hW5 fr fb HJ5 HJ4 v0 v1 f0 f1 u0 uc0
       go_wp2_with fail
       go_meet
       case rel => exact ⟨aw, cw, w4.heap.size, r2, d2, na, nc, rfl, rfl, HR, HR2⟩
      ·obtain ⟨W5, hW5⟩ : ∃ W5, W5 = (w5.setCell ⟨wr.heap.size, 0, none⟩ (.slice r2 12 d2)).setCell ⟨wr.heap.size, 1, none⟩ (.slice na R.2.2.length nc) := ⟨_, rfl⟩
       rw [<- hW5]
       have fr : Fr (fun b => b = wr.heap.size) w5 W5 := by rw [hW5]; exact ((Fr.refl (fun b => b = wr.heap.size) w5).set _ _ _ rfl).set _ _ _ rfl
       have h5 := HJ5.out.2.1.size
       have h4 := HJ5.out.2.2.2.2.2.2
       have HR : Hid ((heO c hp).J F S W5 /\ Below wr.heap.size wr W5) := ⟨(heO c hp).fr HJ5.out.1 fr (fun k hk e => by have h9 := hF0.out k hk; have e : k = wr.heap.size := e; omega), HJ5.out.2.1.trans (fr.below h5 (fun k e => Nat.le_of_eq (Eq.symm e)))⟩
       have HR2 : Hid (LwN W5 wr.heap.size aw wl /\ LpN W5 wr.heap.size r2 R.1 /\ LnN W5 wr.heap.size na R.2.2 /\ W5.heap[wr.heap.size]? = some (.cells #[.slice r2 12 d2, .slice na R.2.2.length nc] 52 (0, 0)) /\ wr.heap.size <= wr.heap.size) := ⟨(HJ5.out.2.2.1.fr fr (fun b e => by have e : b = wr.heap.size := e; omega)).base (by omega), (HJ5.out.2.2.2.1.fr fr (fun b e => by have e : b = wr.heap.size := e; omega)).base (by omega), (HJ5.out.2.2.2.2.1.fr fr (fun b e => by have e : b = wr.heap.size := e; omega)).base (by omega), by rw [hW5]; exact set_two HJ5.out.2.2.2.2.2.1, Nat.le_refl _⟩
       clear hW5 fr HJ5 HJ4 v0 v1 f0 f1 u0 uc0
       go_wp2_with fail
       go_meet
       case rel => exact ⟨aw, cw, wr.heap.size, r2, d2, na, nc, rfl, rfl, HR, HR2⟩
     case rest =>
      as_aux_lemma =>
      obtain ⟨aw, cw, vb, r2, d2, na, nc, rfl, rfl, HJ6, HL6⟩ := hcut
      have hrts := he_rts HJ6.out.1
      obtain ⟨q0, qc0, qc3, _, _, qlp, qlw, qln⟩ := he_lk HJ6.out.1
      obtain ⟨il, hil, hzl0, hzl1, hzl2⟩ := info_parts info64A
      have HRc : Hid (∀ a, (some ⟨c.nb, 0, none⟩ : Option Addr) = some a -> ∀ k u, (S.s.rs.map (Value.int .i64))[k]? = some u -> wc.cell? (a.add k) = some u) := fun a e k u hk => by
       cases e
       have ea : (⟨c.nb, 0, none⟩ : Addr).add k = ⟨c.nb, k, none⟩ := by simp [Addr.add]; intro h; exact h.symm
       rw [ea]
       simp [World.cell?, hrts]
       simpa using hk
      have HRl : Hid ((S.s.rs.map (Value.int .i64)).length = 12 * 1) := by show _ = _; rw [List.length_map, rl]
      have HRS : Hid (S.s.rs.length = 12) := rl
      clear hrts h0 c0 c3
      go_upto_region 14 with (at_builtin; refine wpList_append_src _ rfl _ _ 42 rfl wc.heap.size 2 il (.int .i64 0) 1 8 Tryz.underlying42 hil hzl0 hzl1 hzl2 rfl (by decide) (.slice none 0 0) 0 [] rfl (World.ownsRow_nil _ _ _ _) (some ⟨c.nb, 0, none⟩) 12 12 (S.s.rs.map (Value.int .i64)) rfl HRl.out (fun e => by cases e) HRc.out (ints_one S.s.rs) (by unfold maxLen; omega) (by omega) (Nat.le_refl _) ?_; intro ar cr w7 hown7 hgrow7 _; rw [Nat.zero_add, List.nil_append] at hown7)
      have hb7 : Below wc.heap.size wc w7 := (Below.refl _ wc).grown hgrow7 (Nat.le_refl _) (fun _ h => by simp [Value.ownBlock] at h)
      have HW7 : Hid (LwN w7 wr.heap.size ar S.s.rs) := fun _ => by
       rw [<- HRS.out] at hown7
       obtain ⟨b, cap, e⟩ := row_shape hown7 (by rw [HRS.out]; decide)
       cases e
       have h1 := (row_lt hown7 b rfl)
       refine ⟨b, rfl, Nat.le_trans HJ6.out.2.size h1.1, h1.2, fun i hi => ?_⟩
       have h2 : (S.s.rs.map (Value.int .i64))[i]? = some (.int .i64 (S.s.rs.getD i 0)) := by
        rw [List.getElem?_map, List.getElem?_eq_getElem hi, List.getD_eq_getElem?_getD, List.getElem?_eq_getElem hi]
        rfl
       exact (row_cell hown7 h2).1
      have HJ7 : Hid ((heO c hp).J F S w7 /\ Below wr.heap.size wr w7) := ⟨(heO c hp).below HJ6.out.1 hb7, HJ6.out.2.trans (hb7.mono HJ6.out.2.size)⟩
      have HL7 : Hid (LwN w7 wr.heap.size aw wl /\ LpN w7 wr.heap.size r2 R.1 /\ LnN w7 wr.heap.size na R.2.2 /\ w7.heap[vb]? = some (.cells #[.slice r2 12 d2, .slice na R.2.2.length nc] 52 (0, 0)) /\ wr.heap.size <= vb) := ⟨HL6.out.1.below hb7, HL6.out.2.1.below hb7, HL6.out.2.2.1.below hb7, (hb7.block vb (lt_of_some HL6.out.2.2.2.1)).trans HL6.out.2.2.2.1, HL6.out.2.2.2.2⟩
      obtain ⟨k0, kc0, _⟩ := he_lk HJ7.out.1
      have PU := usedH_any HJ7.out.1
      clear hown7 hgrow7 hb7 HJ6 HL6 HRc HRl q0 qc0 qc3 hil hzl0 hzl1 hzl2
      go_wp2_with fail
      refine PU.mono ?_
      clear PU
      rintro e w8 ⟨rfl, hb8⟩
      have HJ8 : Hid ((heO c hp).J F S w8 /\ Below wr.heap.size wr w8) := ⟨(heO c hp).below HJ7.out.1 hb8, HJ7.out.2.trans (hb8.mono HJ7.out.2.size)⟩
      have HL8 : Hid (LwN w8 wr.heap.size aw wl /\ LpN w8 wr.heap.size r2 R.1 /\ LnN w8 wr.heap.size na R.2.2 /\ w8.heap[vb]? = some (.cells #[.slice r2 12 d2, .slice na R.2.2.length nc] 52 (0, 0)) /\ wr.heap.size <= vb /\ LwN w8 wr.heap.size ar S.s.rs) := ⟨HL7.out.1.below hb8, HL7.out.2.1.below hb8, HL7.out.2.2.1.below hb8, (hb8.block vb (lt_of_some HL7.out.2.2.2.1)).trans HL7.out.2.2.2.1, HL7.out.2.2.2.2, HW7.out.below hb8⟩
      obtain ⟨k0, kc0, _⟩ := he_lk HJ8.out.1
      have kc2 := he_side HJ8.out.1
      obtain ⟨ra, rc, qa, qc, ks0, ks1⟩ := he_lens HJ8.out.1
      clear hb8 HJ7 HL7 HW7
      go_upto_region 15 with fail
      go_quiet (fail)
      have hb9 : Below w8.heap.size w8 (w8.drewN nq) := below_drewN (Below.refl _ _) _
      have HJ9 : Hid ((heO c hp).J F S (w8.drewN nq) /\ Below wr.heap.size wr (w8.drewN nq)) := ⟨(heO c hp).below HJ8.out.1 hb9, HJ8.out.2.trans (hb9.mono HJ8.out.2.size)⟩
      have HL9 : Hid (LwN (w8.drewN nq) wr.heap.size aw wl /\ LpN (w8.drewN nq) wr.heap.size r2 R.1 /\ LnN (w8.drewN nq) wr.heap.size na R.2.2 /\ (w8.drewN nq).heap[vb]? = some (.cells #[.slice r2 12 d2, .slice na R.2.2.length nc] 52 (0, 0)) /\ wr.heap.size <= vb /\ LwN (w8.drewN nq) wr.heap.size ar S.s.rs) := ⟨HL8.out.1.below hb9, HL8.out.2.1.below hb9, HL8.out.2.2.1.below hb9, (hb9.block vb (lt_of_some HL8.out.2.2.2.1)).trans HL8.out.2.2.2.1, HL8.out.2.2.2.2.1, HL8.out.2.2.2.2.2.below hb9⟩
      have PD := doH_any HJ9.out.1 H.out.2.1 (by omega) (l.getD j s60).k (l.getD j s60).R (l.getD j s60).A (l.getD j s60).B (l.getD j s60).I (l.getD j s60).n
      obtain ⟨ok9, _, sm9⟩ := H.out.2.1.hd (he_wbd H.out.1) (l.getD j s60).k (l.getD j s60).R (l.getD j s60).A (l.getD j s60).B (l.getD j s60).I (l.getD j s60).n
      have HOK : Hid (Hok c (S.hd c (l.getD j s60).k (l.getD j s60).R (l.getD j s60).A (l.getD j s60).B (l.getD j s60).I (l.getD j s60).n).2 (j + 1)) := ok9
      have hc9 := HC6.out.1.below HJ9.out.2 (Nat.lt_of_lt_of_le HC6.out.2 (Nat.le_trans hb1.size HB.out.size))
      generalize w8.drewN nq = w9 at *
      generalize S.hd c (l.getD j s60).k (l.getD j s60).R (l.getD j s60).A (l.getD j s60).B (l.getD j s60).I (l.getD j s60).n = D at *
      obtain ⟨cd, S2⟩ := D
      dsimp only at PD HOK sm9
      obtain ⟨z0, z1, z2, z3, z4, z5⟩ := hc9
      generalize l.getD j s60 = st at *
      obtain ⟨sk, sR, sA, sB, sI, sn⟩ := st
      dsimp only at *
      have HX9 : Hid (Below w1.heap.size w1 w9) := HB.out.trans (HJ9.out.2.mono HB.out.size)
      clear hb9 HJ8 HL8 k0 kc0 kc2 ks0 ks1 ok9
      by_cases hcd : cd = 0
      ·subst hcd
       as_aux_lemma =>
       clear sm9
       go_wp2_with fail
       refine PD.mono ?_
       clear PD
       rintro e w10 ⟨F10, rfl, j10, t10⟩
       have H10 : Hid ((heO c hp).J F10 S2 w10 /\ Hok c S2 (j + 1) /\ ∀ b, F10 b -> w1.heap.size <= b) := ⟨j10, HOK.out, fun b d => (t10.sub b d).elim (H.out.2.2 b) (fun e => Nat.le_trans HX9.out.size e)⟩
       have HB10 : Hid (Below w1.heap.size w1 w10) := HX9.out.trans (t10.fr.below HX9.out.size H.out.2.2)
       clear j10 t10
       go_wp2_with fail
       go_roundw
       case rel => exact ⟨j + 1, S2, F10, by omega, by go_num, H10, HB10⟩
       case measure => simp [intOf]; omega
      ·obtain rfl := sm9 hcd
       have cdb : (cd == 0) = false := by simpa using hcd
       clear sm9
       as_aux_lemma =>
       go_wp2_with fail
       refine PD.mono ?_
       clear PD
       rintro e w10 ⟨F10, rfl, j10, t10⟩
       have H10 : Hid ((heO c hp).J F10 S2 w10 /\ ∀ b, F10 b -> w1.heap.size <= b) := ⟨j10, fun b d => (t10.sub b d).elim (H.out.2.2 b) (fun e => Nat.le_trans HX9.out.size e)⟩
       have HB10 : Hid (Below w1.heap.size w1 w10) := HX9.out.trans (t10.fr.below HX9.out.size H.out.2.2)
       have HL10 : Hid (LwN w10 wr.heap.size aw wl /\ LpN w10 wr.heap.size r2 R.1 /\ LnN w10 wr.heap.size na R.2.2 /\ w10.heap[vb]? = some (.cells #[.slice r2 12 d2, .slice na R.2.2.length nc] 52 (0, 0)) /\ LwN w10 wr.heap.size ar S2.s.rs) := ⟨HL9.out.1.fr t10.fr hF0.out, HL9.out.2.1.fr t10.fr hF0.out, HL9.out.2.2.1.fr t10.fr hF0.out, (t10.fr.block vb (lt_of_some HL9.out.2.2.2.1) (fun d => by have := hF0.out vb d; have := HL9.out.2.2.2.2.1; omega)).trans HL9.out.2.2.2.1, HL9.out.2.2.2.2.2.fr t10.fr hF0.out⟩
       obtain ⟨k0, kc0, _⟩ := he_lk j10
       have PU := usedH_any j10
       clear j10 t10 HL9 HJ9 z0 z1 z2 z3 z4 z5
       go_wp2_with fail
       refine PU.mono ?_
       clear PU
       rintro e w11 ⟨rfl, hb11⟩
       have HJ11 : Hid ((heO c hp).J F10 S2 w11 /\ Below w1.heap.size w1 w11) := ⟨(heO c hp).below H10.out.1 hb11, HB10.out.trans (hb11.mono HB10.out.size)⟩
       have HL11 : Hid (LwN w11 wr.heap.size aw wl /\ LpN w11 wr.heap.size r2 R.1 /\ LnN w11 wr.heap.size na R.2.2 /\ w11.heap[vb]? = some (.cells #[.slice r2 12 d2, .slice na R.2.2.length nc] 52 (0, 0)) /\ LwN w11 wr.heap.size ar S2.s.rs) := ⟨HL10.out.1.below hb11, HL10.out.2.1.below hb11, HL10.out.2.2.1.below hb11, (hb11.block vb (lt_of_some HL10.out.2.2.2.1)).trans HL10.out.2.2.2.1, HL10.out.2.2.2.2.below hb11⟩
       obtain ⟨k0, kc0, kc3, _, _, klp, klw, _⟩ := he_lk HJ11.out.1
       have kc2 := he_side HJ11.out.1
       obtain ⟨ra, rc, qa, qc, ks0, ks1⟩ := he_lens HJ11.out.1
       clear hb11 HL10 HB10
       obtain ⟨t0, t1⟩ := cellv HL11.out.2.2.2.1
       have Jd := (heO c hp).below HJ11.out.1 (Below.refl _ w11).drew
       have PW := HPW.out _ _ Jd
       have HS2 : Hid (S2.s.rs.length = 12) := HRS.out
       have HKK : Hid (∀ w', Below w11.heap.size w11 w' -> (w'.cell? ⟨hp, 0, none⟩ = some (.pointer (some ⟨c.pw, 0, none⟩)) /\ w'.cell? ⟨c.pw, 0, none⟩ = some (.pointer (some ⟨c.p, 0, none⟩)) /\ w'.cell? ⟨c.pw, 2, none⟩ = some (.pointer (some ⟨c.sd, 0, none⟩)) /\ w'.cell? ⟨c.pw, 3, none⟩ = some (.slice (some ⟨c.nb, 0, none⟩) 12 12)) /\ w'.cell? ⟨c.sd, 0, none⟩ = some (.slice ra S2.r.length rc) /\ w'.cell? ⟨c.sd, 1, none⟩ = some (.slice qa S2.q.length qc) /\ w'.cell? ⟨vb, 0, none⟩ = some (.slice r2 12 d2) /\ w'.cell? ⟨vb, 1, none⟩ = some (.slice na R.2.2.length nc)) := fun w' hb => by
        have kk : ∀ {a : Addr} {v : Value}, w11.cell? a = some v -> w'.cell? a = some v := fun {a v} e => (hb.cell (p := a) (World.block_lt_of_cell? w11 _ e)).trans e
        exact ⟨⟨kk k0, kk kc0, kk kc2, kk kc3⟩, kk ks0, kk ks1, kk t0, kk t1⟩
       have HSR : Hid (∀ w', Below w11.heap.size w11 w' -> Calls Tryz.prog 35 #[.slice ar 12 cr, .slice (some ⟨c.nb, 0, none⟩) 12 12] w' fun e w'' => e = .returned (.bool true) /\ Below w'.heap.size w' w'') := fun w' hb => by
        have J' := (heO c hp).below HJ11.out.1 hb
        have P := sameLongs_any ar (some ⟨c.nb, 0, none⟩) cr 12 S2.s.rs w' (by rw [HS2.out]; decide) (HL11.out.2.2.2.2.below hb).lies (fun _ => ⟨c.nb, rfl, fun i hi => ((he_lk J').rt i (by rw [<- HS2.out]; exact hi)).1⟩)
        rw [HS2.out] at P
        exact P
       clear Jd
       as_aux_lemma =>
       go_wp2_with fail
       simp only [List.append]
       go_region_held3 (fun w' => w'.cell? ⟨hp, 0, none⟩ = some (.pointer (some ⟨c.pw, 0, none⟩)) /\ w'.cell? ⟨c.pw, 0, none⟩ = some (.pointer (some ⟨c.p, 0, none⟩)) /\ w'.cell? ⟨c.pw, 2, none⟩ = some (.pointer (some ⟨c.sd, 0, none⟩)) /\ w'.cell? ⟨c.pw, 3, none⟩ = some (.slice (some ⟨c.nb, 0, none⟩) 12 12) /\ w'.cell? ⟨c.sd, 0, none⟩ = some (.slice ra S2.r.length rc) /\ w'.cell? ⟨c.sd, 1, none⟩ = some (.slice qa S2.q.length qc) /\ w'.cell? ⟨vb, 0, none⟩ = some (.slice r2 12 d2) /\ w'.cell? ⟨vb, 1, none⟩ = some (.slice na R.2.2.length nc)) (go_keep)
        (first
         | (go_at_call 34; refine PW.mono ?_; clear PW; rintro e w12 ⟨a12, c12, rfl, hw12, hb12⟩; have HB12 : Hid (Below w11.heap.size w11 w12 /\ LwN w12 w11.heap.size a12 wl) := ⟨(Below.refl _ w11).drew.trans (hb12.mono (Nat.le_refl _)), hw12⟩; obtain ⟨⟨k0, kc0, kc2, kc3⟩, ks0, ks1, t0, t1⟩ := HKK.out w12 HB12.out.1; clear hw12 hb12)
         | (go_at_call 35; have mk1 := HB14.out; refine (HSR.out _ mk1).mono ?_; rintro e w14 ⟨rfl, hb14⟩; have HB15 : Hid (Below w11.heap.size w11 w14) := mk1.trans (hb14.mono mk1.size); obtain ⟨⟨k0, kc0, kc2, kc3⟩, ks0, ks1, t0, t1⟩ := HKK.out w14 HB15.out; clear hb14 mk1)
         | (go_at_call 35; refine (sameLongs_any aw a12 cw c12 wl w12 (by have := HWL.out; omega) (HL11.out.1.below HB12.out.1).lies HB12.out.2.lies).mono ?_; rintro e w13 ⟨rfl, hb13⟩; have HB14 : Hid (Below w11.heap.size w11 w13) := HB12.out.1.trans (hb13.mono HB12.out.1.size); obtain ⟨⟨k0, kc0, kc2, kc3⟩, ks0, ks1, t0, t1⟩ := HKK.out w13 HB14.out; clear hb13)
         | (go_at_call 23; refine (HPV.out _ _ ((heO c hp).below HJ11.out.1 HB15.out)).mono ?_; rintro e w15 ⟨r3, d3, na3, nc3, rfl, hp15, hn15, hb15⟩; have HB16 : Hid (Below w11.heap.size w11 w15 /\ Lp w15 r3 R.1 /\ Ln w15 na3 R.2.2) := ⟨HB15.out.trans (hb15.mono HB15.out.size), hp15.1, hn15.ln⟩; obtain ⟨⟨k0, kc0, kc2, kc3⟩, ks0, ks1, t0, t1⟩ := HKK.out w15 HB16.out.1; clear hp15 hn15 hb15)
         | (go_at_call 25; have PS := sameView_eq r2 r3 na na3 d2 d3 nc nc3 R.1 R.2.2 w15 (by have := HVB.out.1; omega) (by have := HVB.out.2.1; omega) (fun nd hnd => by have := HVB.out.2.2 nd hnd; omega) (HL11.out.2.1.below HB16.out.1).1 HB16.out.2.1 (HL11.out.2.2.1.below HB16.out.1).ln HB16.out.2.2; rw [HVB.out.1] at PS; refine PS.mono ?_; clear PS; rintro e w16 ⟨rfl, hb16⟩; have HB17 : Hid (Below w11.heap.size w11 w16) := HB16.out.1.trans (hb16.mono HB16.out.1.size); obtain ⟨⟨k0, kc0, kc2, kc3⟩, ks0, ks1, t0, t1⟩ := HKK.out w16 HB17.out; clear hb16))
       have HF : Hid ((heO c hp).J F10 S2 w16 /\ Below w1.heap.size w1 w16) := ⟨(heO c hp).below HJ11.out.1 HB17.out, HJ11.out.2.trans (HB17.out.mono HJ11.out.2.size)⟩
       clear HB17 k0 kc0 kc2 kc3 ks0 ks1 t0 t1
       go_wp2_with fail
       go_roundw
       case rel => exact ⟨j + 1, S2, F10, by omega, by go_num, ⟨HF.out.1, HOK.out, H10.out.2⟩, HF.out.2⟩
       case measure => simp [intOf]; omega
    ·obtain rfl : j = l.length := by omega
     have hfin : Below w.heap.size w wr := hb1.trans (HB.out.mono hb1.size)
     go_wp2_with fail
     go_ret
     exact ⟨rfl, hfin⟩
end Go.Proofs.YtalgochmjddodaaGreat.HRf

/- HeapRefuses: at whatever two numbers and whatever list of steps it returns true, in whatever memory, without conditions; nothing that was in memory turns. -/
namespace Go.Proofs.YtalgochmjddodaaGreat.HRf
open Go.ChangeShapes Go.WideShapes Go.ChangeAt Go.RowKit Go.Joins W

theorem own : ownKnob Tryz.prog.godebug = none := by kernel_rfl
theorem laidOut : laidOutB Tryz.prog = true := by kernel_rfl

set_option maxRecDepth 100000 in
theorem lifted (os : Os) (started : os.Started) (H : Type) (enc : TypeId × Value → H) :
    ReturnsInHanded {} Tryz.checked os 7 .any (Rows.heapRefusesSpec.pre6 enc Tryz.prog Tryz.f7 Rows.heapRefusesRow.domain false) (Rows.heapRefusesSpec.post enc Tryz.prog Tryz.f7 false true false false) := by
  refine returnsInHanded_of_change (C := Tryz.checked) own started (by kernel_rfl) Tryz.func7
    (ChangeSpec.witness6 (enc := enc) (C := Tryz.checked) false ⟨#[], #[.int .i64 0, .int .i64 0, .slice none 0 0], []⟩ 8 (by kernel_rfl) (by kernel_rfl) (by kernel_rfl) (by kernel_rfl)) ?_
  intro W base args ds gs before hval0 hW hcnd _
  have hval : ∀ (j : Nat) t v, Tryz.f7.params[j]? = some t → args[j]? = some v → Value.okWide Tryz.prog W .any base t v := hval0
  have hW' := hW
  obtain ⟨p, q, hA0, hV, rfl, hfz, hnd⟩ := hW
  have hA : DataW.TrodAll enc Tryz.prog W 0 (fun _ => true) true Tryz.f7.params.toList args.toList ds p := hA0
  rw [Tryz.params7] at hA hval
  obtain ⟨v0, vs0, d0, ds0, p0, q0, hargs, rfl, rfl, h0, r0⟩ := trodAll_cons hA
  obtain ⟨v1, vs1, d1, ds1, p1, q1, rfl, rfl, rfl, h1, r1⟩ := trodAll_cons r0
  obtain ⟨v2, vs2, d2, ds2, p2, q2, rfl, rfl, rfl, h2, r2⟩ := trodAll_cons r1
  obtain ⟨rfl, rfl, rfl⟩ := trodAll_nil r2
  obtain rfl : args = #[v0, v1, v2] := by cases args; simp_all
  obtain ⟨rfl, rfl⟩ := trodVars_none hV
  obtain ⟨a0, rfl, rfl, rfl, w0⟩ := open_int Tryz.underlying3 (hval 0 3 v0 rfl rfl) h0
  obtain ⟨a1, rfl, rfl, rfl, w1⟩ := open_int Tryz.underlying3 (hval 1 3 v1 rfl rfl) h1
  obtain ⟨a2, len2, cap2, rfl⟩ := okWide_slice Tryz.underlying58 (hval 2 58 v2 rfl rfl)
  have k2 := h2
  have lt2 : ∀ x ∈ p2, x.block < W.heap.size := by obtain ⟨m, hm⟩ := k2; exact DataW.trod_lt m _ _ _ hm
  obtain ⟨fuel2, hf2⟩ := h2
  obtain ⟨S2, rfl, st2⟩ := open_heaps hf2
  clear hA0 hval0
  refine (walk a0 a1 a2 cap2 S2 W st2).mono fun e W' ⟨he, bel⟩ => ?_
  subst he
  exact ⟨_, rfl, _, _, _, [], _, [], hW', trodAll_mk1 (shut_bool Tryz.underlying4 _), (trodAll_cons_mk (shut_int Tryz.underlying3 w0) (trodAll_cons_mk (shut_int Tryz.underlying3 w1) (trodAll_cons_mk (Below.trod laidOut (by kernel_rfl) (of_decide_eq_true (by kernel_rfl)) k2 bel lt2) trodAll_mk0))), rfl, bel.frame _, fun h => by cases h⟩

theorem over : Rows.heapRefusesRow.holds Tryz.pinned (OpenSpec.ofChange Rows.heapRefusesSpec) :=
  OpenClaim.holds_of_wide 7 Tryz.f7 rfl rfl rfl rfl rfl rfl rfl ⟨rfl, rfl, rfl, rfl, rfl⟩ rfl rfl rfl rfl rfl (by kernel_rfl) Tryz.func7 (by kernel_rfl)
    (of_decide_eq_true (by kernel_rfl)) (by unfold Func.isWrapper; first | (rw [if_pos (by decide +kernel)]; kernel_rfl) | (rw [if_neg (by decide +kernel)]; exact ⟨rfl, rfl⟩))
    (fun os started H enc _ => lifted os started H enc)

/-- THE STATEMENT. -/
theorem proved : Rows.HeapRefusesSaid :=
  over
#print axioms proved
end Go.Proofs.YtalgochmjddodaaGreat.HRf
