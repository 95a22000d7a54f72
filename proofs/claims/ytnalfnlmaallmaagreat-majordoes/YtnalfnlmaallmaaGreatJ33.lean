/- Joined: Mj23, Mj24, Mj25, Mk1, Mk2. -/
import Derived.Test.YtnalfnlmaallmaaGreatJ32
import Derived.Test.YtnalfnlmaallmaaGreatJ17
import Derived.Test.YtnalfnlmaallmaaGreatJ13
import Derived.Lib.SliceRun
namespace Go.Proofs.YtnalfnlmaallmaaGreat
set_option maxRecDepth 100000
set_option maxHeartbeats 4000000
open Go.RowKit W Kp Stl
theorem Tn.less {X F F' : Nat -> Prop} {w w' : World} (h : Tn X w F w') (hs : ∀ b, F' b -> F b) : Tn X w F' w' := ⟨h.fr, fun b d => h.sub b (hs b d)⟩
theorem obX_in2 {τ : Type} {o : Ob τ} {bx : Nat} {x : Obj} {F : Nat -> Prop} {w : World} {t : τ} (h : (obX o bx x).J F t w) : ∃ F0, o.J F0 t w /\ w.heap[bx]? = some x /\ bx < w.heap.size /\ (∀ F1 t1 w1, o.J F1 t1 w1 -> Tn F0 w F1 w1 -> (obX o bx x).J (fun b => F1 b \/ b = bx) t1 w1 /\ Tn F w (fun b => F1 b \/ b = bx) w1) /\ ∀ b, F0 b -> F b := by
 obtain ⟨F0, h, g2, g3, g4⟩ := h
 refine ⟨F0, h, g2, lt_of_some g2, fun F1 t1 w1 h1 hT => ⟨⟨F1, h1, (hT.fr.block bx (lt_of_some g2) g3).trans g2, fun d => (hT.sub bx d).elim g3 (fun d => by have := lt_of_some g2; omega), fun b => Iff.rfl⟩, ⟨hT.fr.mono (fun b hb => (g4 b).2 (Or.inl hb)), fun b hb => ?_⟩⟩, fun b hb => (g4 b).2 (Or.inl hb)⟩
 rcases hb with hb | hb
 ·exact (hT.sub b hb).imp (fun d => (g4 b).2 (Or.inl d)) id
 ·exact Or.inl ((g4 b).2 (Or.inr hb))
section
variable {c : Jc} {k : Jk} {vt ve : Value} {F : Nat -> Prop} {s : Js} {w : World}
theorem slideJ_any {G : Nat -> Jk × Int -> Prop} (hG : SlG k s G) (hg0 : G 0 (k, 0)) (h : (mjV c k vt ve).J F s w) (hl : k.T.length <= 4000) (hp : ∀ a ∈ k.T, 0 <= a /\ a <= 2000) :
  Calls Tryz.prog 154 #[.pointer (some ⟨c.pk, 0, none⟩)] w fun e w' => ∃ F', e = .returned (.tuple #[]) /\ (mjV c (k.sl s) vt ve).J F' s w' /\ Tn F w F' w' := by
 have hmf : ∀ (fn : Fn) (first cap : Array Value) (w : World), (Instr.makeFunc fn first cap).run Tryz.prog w = .ok (.func fn first cap) w := fun _ _ _ _ => rfl
 have hlT : k.T.length = k.G.length + k.Y.length := by unfold Jk.T; rw [List.length_append]
 have HG : Hid (SlG k s G /\ G 0 (k, 0) /\ (∀ a ∈ k.G, 0 <= a /\ a <= 2000) /\ (∀ a ∈ k.Y, 0 <= a /\ a <= 2000) /\ k.G.length <= 4000 /\ k.Y.length <= 4000) := ⟨hG, hg0, fun a ha => hp a (List.mem_append.2 (Or.inl ha)), fun a ha => hp a (List.mem_append.2 (Or.inr ha)), by omega, by omega⟩
 have nF : ∀ b, F b -> b < w.heap.size := (mjV c k vt ve).lt h
 obtain ⟨w0, hw0⟩ : ∃ w0, w.alloc (boxJ c) = w0 := ⟨_, rfl⟩
 have hb0 : Below w.heap.size w w0 := by rw [<- hw0]; exact (Below.refl w.heap.size w).alloc (Nat.le_refl _) (boxJ c)
 have hs0 : w0.heap.size = w.heap.size + 1 := by rw [<- hw0]; simp
 have hx0 : w0.heap[w.heap.size]? = some (boxJ c) := by rw [<- hw0]; exact heap_alloc_new _ _
 obtain ⟨w1, hw1⟩ : ∃ w1, w0.alloc (boxI 0) = w1 := ⟨_, rfl⟩
 have hb1 : Below w0.heap.size w0 w1 := by rw [<- hw1]; exact (Below.refl w0.heap.size w0).alloc (Nat.le_refl _) (boxI 0)
 have hx1 : w1.heap[w0.heap.size]? = some (boxI 0) := by rw [<- hw1]; exact heap_alloc_new _ _
 have hbA : Below w.heap.size w w1 := hb0.trans (hb1.mono (by omega))
 have hJ1 : (mtO c k s vt ve).J F k w1 := ⟨(mjV c k vt ve).below h hbA, rfl, rfl, rfl⟩
 have hX1 : (obX (mtO c k s vt ve) w.heap.size (boxJ c)).J (fun b => F b \/ b = w.heap.size) k w1 := ⟨F, hJ1, (hb1.block _ (by omega)).trans hx0, fun d => by have := nF _ d; omega, fun b => Iff.rfl⟩
 have hN1 : (obN (obX (mtO c k s vt ve) w.heap.size (boxJ c)) (w.heap.size + 1)).J (fun b => (F b \/ b = w.heap.size) \/ b = w.heap.size + 1) (k, 0) w1 := ⟨_, hX1, by rw [<- hs0]; exact hx1, fun d => d.elim (fun d => by have := nF _ d; omega) (fun d => by omega), fun b => Iff.rfl⟩
 have e2 : w.cell? ⟨c.pk, 2, none⟩ = some c.ov := (mj_cells h).2.2.1
 have lk : c.pk < w.heap.size := (mj_cells h).2.2.2.2.2.2.2.2
 obtain ⟨_, d2o, yr, gr⟩ := mt_lists hJ1
 obtain ⟨ya, yc, ey⟩ := row_slice yr
 obtain ⟨ga, gc, eg⟩ := row_slice gr
 have d2 : w1.cell? ⟨c.pk, 2, none⟩ = some (.slice ga k.G.length gc) := by rw [d2o, eg]
 clear d2o
 rw [eg] at e2
 have EY : Hid (c.yv = .slice ya k.Y.length yc) := ey
 have EG : Hid (c.ov = .slice ga k.G.length gc) := eg
 have x0 : w1.cell? ⟨w.heap.size, 0, none⟩ = some (.pointer (some ⟨c.pk, 0, none⟩)) := by
  have e : w1.heap[w.heap.size]? = some (boxJ c) := (hb1.block _ (by omega)).trans hx0
  simp [World.cell?, e]
 have hd := (Below.refl w1.heap.size w1).drew
 have HN : Hid (Tn F w (fun b => (F b \/ b = w.heap.size) \/ b = w.heap.size + 1) w1.drew) := ⟨(Fr.of (X := F) hbA).trans (Fr.of (X := F) hd) (fun b d => Or.inl d), fun b d => d.elim (fun d => d.imp id (fun e => by omega)) (fun e => Or.inr (by omega))⟩
 have P1 := slideE1_any HG.out.1 HG.out.2.1 ((obN (obX (mtO c k s vt ve) w.heap.size (boxJ c)) (w.heap.size + 1)).below hN1 hd) HG.out.2.2.2.2.1 HG.out.2.2.1 eg
 obtain ⟨t1, ht1⟩ : ∃ t1, ejL (fun _ a => s.f a) (Jk.slS s) (k, 0) k.G = t1 := ⟨_, rfl⟩
 rw [ht1] at P1
 have HS1 : Hid (k.sl1 s = t1.1.ar t1.1.s.y t1.2.toNat t1.1.s.ws) := by
  show k.sl1 s = _
  unfold Jk.sl1 Jk.slL
  rw [ht1]
 have HE : Hid (k.sl s = ((k.sl2 s).ar 0 (k.sl2 s).s.g (k.sl2 s).s.ws).cdc /\ k.sl2 s = (k.sl1 s).cpL s k.Y) := ⟨rfl, rfl⟩
 generalize k.sl s = k9 at HE ⊢
 generalize k.sl2 s = k3 at HE
 generalize k.sl1 s = k2 at HE HS1
 clear hG hg0 h hb0 hx0 hb1 hx1 hbA hJ1 hX1 hN1 yr gr ey eg hd ht1 nF hp hl hlT hs0
 subst hw1
 subst hw0
 have d2' : ((w.alloc (.cells #[.pointer (some ⟨c.pk, 0, none⟩)] 195 (0, 0))).alloc (.cells #[.int .i64 0] 3 (0, 0))).cell? ⟨c.pk, 2, none⟩ = some (.slice ga k.G.length gc) := d2
 go_enter Tryz.func154, Tryz.ntmps154
 go_wp2_with fail
 go_region_held3 (fun w' => w'.cell? ⟨w.heap.size, 0, none⟩ = some (.pointer (some ⟨c.pk, 0, none⟩)) /\ w'.cell? ⟨c.pk, 2, none⟩ = some (.slice ga k.G.length gc)) (go_keep)
  (first
   | (go_at_call 209; refine P1.mono ?_; clear P1; rintro e w3 ⟨F3, rfl, j3, t3, g3⟩; have H3 : Hid ((obN (obX (mtO c k s vt ve) w.heap.size (boxJ c)) (w.heap.size + 1)).J F3 t1 w3 /\ Tn F w F3 w3 /\ 0 <= t1.2 /\ t1.2 <= k.a.O) := ⟨j3, HN.out.trans t3, HG.out.1.2.2 _ g3⟩; obtain ⟨_, q1, _⟩ := obN_in j3; obtain ⟨_, q2, q3, _⟩ := obX_in q1; obtain ⟨_, y2o, _⟩ := mt_lists q2; have y0 : w3.cell? ⟨w.heap.size, 0, none⟩ = some (.pointer (some ⟨c.pk, 0, none⟩)) := (by simp [World.cell?, q3]); have y2 : w3.cell? ⟨c.pk, 2, none⟩ = some (.slice ga k.G.length gc) := (by rw [y2o, EG.out]); clear y2o j3 t3 g3 q1 q2 q3))
 all_goals
  have HP : Hid (∃ F4, (obX (mtO c k s vt ve) w.heap.size (boxJ c)).J F4 t1.1 w3.drew /\ Tn F w F4 w3.drew /\ ¬ F4 (w.heap.size + 1) /\ w.heap.size + 1 < w3.heap.size) := by
   obtain ⟨F4, j4, j5, j6, j7⟩ := H3.out.1
   exact ⟨F4, (obX (mtO c k s vt ve) w.heap.size (boxJ c)).below j4 (Below.refl _ w3).drew, (H3.out.2.1.less (fun b d => (j7 b).2 (Or.inl d))).below (Below.refl _ w3).drew, j6, lt_of_some j5⟩
  obtain ⟨F4, j4, t4, n4, l4⟩ := HP.out
  obtain ⟨F5, j5, hx5, lb5, U5, i5⟩ := obX_in2 j4
  obtain ⟨v0o, _, v5o, _, _⟩ := mt_cells j5
  have v6 := (obN_cell H3.out.1).1
  have PC := mt_cutA j5 t1.2 H3.out.2.2.1 H3.out.2.2.2
  rw [<- HS1.out] at PC
  have v0 : w3.cell? ⟨c.pk, 0, none⟩ = some (.pointer (some ⟨k.a.pw, 0, none⟩)) := v0o
  have v5 : w3.cell? ⟨k.a.pw, 0, none⟩ = some (.pointer (some ⟨k.a.p, 0, none⟩)) := v5o
  clear v0o v5o
  have HU5 : Hid (∀ F1 t1 w1, (mtO c k s vt ve).J F1 t1 w1 -> Tn F5 w3.drew F1 w1 -> (obX (mtO c k s vt ve) w.heap.size (boxJ c)).J (fun b => F1 b \/ b = w.heap.size) t1 w1 /\ Tn F w (fun b => F1 b \/ b = w.heap.size) w1) := fun F1 t1 w1 h1 h2 => ⟨(U5 F1 t1 w1 h1 h2).1, t4.trans (U5 F1 t1 w1 h1 h2).2⟩
  have l6 : w.heap.size + 1 < w3.heap.size /\ ¬ F5 (w.heap.size + 1) := ⟨l4, fun d => n4 (i5 _ d)⟩
  clear j4 t4 j5 hx5 lb5 U5 HP n4 l4 i5
  go_wp2_with fail
  go_region_held3 (fun w' => w'.cell? ⟨w.heap.size, 0, none⟩ = some (.pointer (some ⟨c.pk, 0, none⟩)) /\ w'.cell? ⟨c.pk, 0, none⟩ = some (.pointer (some ⟨k.a.pw, 0, none⟩)) /\ w'.cell? ⟨k.a.pw, 0, none⟩ = some (.pointer (some ⟨k.a.p, 0, none⟩)) /\ w'.cell? ⟨w.heap.size + 1, 0, none⟩ = some (.int .i64 t1.2)) (go_keep)
   (first
    | (go_at_call 215; refine PC.mono ?_; clear PC; rintro e w4 ⟨F6, rfl, j6, t6⟩; obtain ⟨r0, _, r5, _, _⟩ := mt_cells j6; obtain ⟨j7, t7⟩ := HU5.out F6 _ w4 j6 t6; obtain ⟨_, _, e7, _⟩ := obX_in j7; have r1 : w4.cell? ⟨w.heap.size, 0, none⟩ = some (.pointer (some ⟨c.pk, 0, none⟩)) := (by simp [World.cell?, e7]); have r2 : w4.cell? ⟨w.heap.size + 1, 0, none⟩ = some (.int .i64 t1.2) := (World.cell?_of_block (a := ⟨w.heap.size + 1, 0, none⟩) (t6.fr.block _ (by simpa using l6.1) l6.2)).trans v6; have H7 : Hid ((obX (mtO c k s vt ve) w.heap.size (boxJ c)).J (fun b => F6 b \/ b = w.heap.size) k2 w4 /\ Tn F w (fun b => F6 b \/ b = w.heap.size) w4) := ⟨j7, t7⟩; clear j6 t6 j7 t7 e7))
  all_goals
   clear r5 r2 v0 v5 v6 y0 y2 l6 HU5 H3
   have HP : Hid ((obX (mtO c k s vt ve) w.heap.size (boxJ c)).J (fun b => F6 b \/ b = w.heap.size) k2 w4.drew /\ Tn F w (fun b => F6 b \/ b = w.heap.size) w4.drew) := ⟨(obX (mtO c k s vt ve) w.heap.size (boxJ c)).below H7.out.1 (Below.refl _ w4).drew, H7.out.2.below (Below.refl _ w4).drew⟩
   have PE := slideE2_any HP.out.1 HG.out.2.2.2.2.2 HG.out.2.2.2.1 EY.out
   rw [<- HE.out.2] at PE
   have f1 : w4.cell? ⟨c.pk, 1, none⟩ = some (.slice ya k.Y.length yc) := by
    obtain ⟨_, q2, _⟩ := obX_in H7.out.1
    exact (mt_lists q2).1.trans (by rw [EY.out])
   clear H7 r0
   go_wp2_with fail
   go_region_held3 (fun w' => w'.cell? ⟨w.heap.size, 0, none⟩ = some (.pointer (some ⟨c.pk, 0, none⟩)) /\ w'.cell? ⟨c.pk, 1, none⟩ = some (.slice ya k.Y.length yc)) (go_keep)
    (first
     | (go_at_call 209; refine PE.mono ?_; clear PE; rintro e w5 ⟨F8, rfl, j8, t8⟩; obtain ⟨_, q2, q3, _⟩ := obX_in j8; have m0 : w5.cell? ⟨w.heap.size, 0, none⟩ = some (.pointer (some ⟨c.pk, 0, none⟩)) := (by simp [World.cell?, q3]); have m1 : w5.cell? ⟨c.pk, 1, none⟩ = some (.slice ya k.Y.length yc) := (mt_lists q2).1.trans (by rw [EY.out]); have H8 : Hid ((obX (mtO c k s vt ve) w.heap.size (boxJ c)).J F8 k3 w5 /\ Tn F w F8 w5) := ⟨j8, HP.out.2.trans t8⟩; clear j8 t8 q2 q3))
   all_goals
    clear f1 r1 m1 HP
    obtain ⟨F9, j9, hx9, lb9, U9⟩ := obX_in H8.out.1
    obtain ⟨v0, _, v5, _, _⟩ := mt_cells j9
    have PC := mt_clear j9
    have HU9 : Hid (∀ F1 t1 w1, (mtO c k s vt ve).J F1 t1 w1 -> Tn F9 w5 F1 w1 -> (obX (mtO c k s vt ve) w.heap.size (boxJ c)).J (fun b => F1 b \/ b = w.heap.size) t1 w1 /\ Tn F w (fun b => F1 b \/ b = w.heap.size) w1) := fun F1 t1 w1 h1 h2 => ⟨(U9 F1 t1 w1 h1 h2).1, H8.out.2.trans (U9 F1 t1 w1 h1 h2).2⟩
    clear j9 hx9 lb9 U9 H8
    go_wp2_with fail
    refine PC.mono ?_
    clear PC
    rintro e w6 ⟨F10, rfl, j10, t10⟩
    obtain ⟨j11, t11⟩ := HU9.out F10 _ w6 j10 t10
    obtain ⟨F12, j12, hx12, lb12, U12⟩ := obX_in j11
    have z0 : w6.cell? ⟨w.heap.size, 0, none⟩ = some (.pointer (some ⟨c.pk, 0, none⟩)) := by simp [World.cell?, hx12]
    obtain ⟨z1, _, _, _, _⟩ := mt_cells j12
    obtain ⟨z2, PD⟩ := mt_cards j12
    rw [<- HE.out.1] at PD
    have HU12 : Hid (∀ F1 t1 w1, (mtO c k s vt ve).J F1 t1 w1 -> Tn F12 w6 F1 w1 -> (obX (mtO c k s vt ve) w.heap.size (boxJ c)).J (fun b => F1 b \/ b = w.heap.size) t1 w1 /\ Tn F w (fun b => F1 b \/ b = w.heap.size) w1) := fun F1 t1 w1 h1 h2 => ⟨(U12 F1 t1 w1 h1 h2).1, t11.trans (U12 F1 t1 w1 h1 h2).2⟩
    clear j10 t10 j11 t11 j12 hx12 lb12 U12 HU9 v0 v5 m0
    go_wp2_with fail
    refine PD.mono ?_
    clear PD
    rintro e w7 ⟨F13, rfl, j13, t13⟩
    have HF : Hid ((mjV c k9 vt ve).J F13 s w7 /\ Tn F w F13 w7) := ⟨j13.1, (HU12.out F13 _ w7 j13 t13).2.less (fun b d => Or.inl d)⟩
    clear j13 t13 HU12 z0 z1 z2
    go_wp2_with fail
    go_end0
    exact ⟨F13, rfl, HF.out.1, HF.out.2⟩
end
end Go.Proofs.YtnalfnlmaallmaaGreat

namespace Go.Proofs.YtnalfnlmaallmaaGreat
set_option maxRecDepth 100000
set_option maxHeartbeats 400000
open Go.RowKit W Kp Stl
theorem indexFI_any (f : Nat) (c : Array Value) (p : Int -> Bool) (hf : Ent f) (w : World) (l : List Int)
  (hl : ∀ (w' : World) (x : Int), x ∈ l -> Below w.heap.size w w' -> Calls Tryz.prog f (#[.int .i64 x] ++ c) w' fun r w'' => r = .returned (.bool (p x)) /\ Below w'.heap.size w' w'')
  (ad : Option Addr) (cap : Nat) (hm : l.length <= 100000) (hp : Ls w ad l) :
  Calls Tryz.prog 251 #[.slice ad l.length cap, .func (.func f) #[] c] w fun r w' => Below w.heap.size w w' /\ ((r = .returned (.int .i64 (-1)) /\ ∀ e ∈ l, p e = false) \/ ∃ i : Nat, r = .returned (.int .i64 i) /\ i < l.length /\ p (l.getD i 0) = true /\ ∀ e ∈ l.take i, p e = false) := by
 have HL : Hid (∀ (w' : World) (x : Int), x ∈ l -> Below w.heap.size w w' -> Calls Tryz.prog f (#[.int .i64 x] ++ c) w' fun r w'' => r = .returned (.bool (p x)) /\ Below w'.heap.size w' w'') := hl
 have HP : Hid (Ls w ad l) := hp
 have hcf : ∀ (args : Array Value) (w : World), (callFunc f args).run Tryz.prog w = .ok (.enter f args) w := hf
 clear hl hp hf
 go_enter Tryz.func251, Tryz.ntmps251
 go_wp2_with fail
 go_loopw [8] (fun iv wr => ∃ j : Nat, j <= l.length /\ iv = .int .i64 j /\ Hid (∀ e ∈ l.take j, p e = false) /\ Below w.heap.size w wr) (fun iv _ => l.length - (intOf iv).toNat)
 case atStart => exact ⟨0, Nat.zero_le _, rfl, by simp [Hid], Below.refl _ _⟩
 case round =>
  obtain ⟨j, hj, rfl, HE, hb⟩ := hrel
  by_cases hlt : j < l.length
  ·obtain ⟨b0, o0, e0, hb0, hc⟩ := HP.out.below hb (by omega)
   have x1 := hc j hlt
   have hd : l.getD j 0 ∈ l := by rw [List.getD_eq_getElem?_getD, List.getElem?_eq_getElem hlt]; exact List.getElem_mem hlt
   obtain ⟨x, hx⟩ : ∃ x, l.getD j 0 = x := ⟨_, rfl⟩
   have HG : Hid (l.getD j 0 = x) := hx
   rw [hx] at x1 hd
   have P := HL.out wr x hd hb
   clear hc hx hd
   subst e0
   go_wp2_with fail
   refine P.mono ?_
   clear P
   rintro r w1 ⟨rfl, hb1⟩
   have hb2 := hb.trans (hb1.mono hb.size)
   clear hb hb1
   cases hp : p x
   ·have HE' : Hid (∀ e ∈ l.take (j + 1), p e = false) := fun e he => by
     rw [take_snoc l j hlt 0, List.mem_append, List.mem_singleton] at he
     rcases he with he | he
     ·exact HE.out e he
     ·rw [he, HG.out]; exact hp
    clear hp
    go_wp2_with fail
    go_roundw
    case rel => exact ⟨j + 1, by omega, by go_num, HE', hb2⟩
    case measure => simp [intOf]; omega
   ·have HPt : Hid (p (l.getD j 0) = true) := by show _ = _; rw [HG.out]; exact hp
    clear hp
    go_wp2_with fail
    go_ret
    exact ⟨hb2, Or.inr ⟨j, rfl, hlt, HPt.out, HE.out⟩⟩
  ·obtain rfl : j = l.length := by omega
   rw [List.take_length] at HE
   go_wp2_with fail
   go_ret
   exact ⟨hb, Or.inl ⟨rfl, HE.out⟩⟩
theorem ent_wh1 : Ent 235 := ent_of Tryz.func235 (by kernel_rfl) rfl
theorem whole1J_any {pk pw p q N O y g bx be : Nat} {ws : List Int} {e : Int} (w : World) (hA : At w p q N O y g ws) (c0 : w.cell? ⟨bx, 0, none⟩ = some (.pointer (some ⟨pk, 0, none⟩))) (c1 : w.cell? ⟨pk, 0, none⟩ = some (.pointer (some ⟨pw, 0, none⟩))) (c2 : w.cell? ⟨pw, 0, none⟩ = some (.pointer (some ⟨p, 0, none⟩))) (c3 : w.cell? ⟨be, 0, none⟩ = some (.int .i64 e)) (a : Int) (ha : 0 <= a /\ a <= 100000) :
  Calls Tryz.prog 235 #[.int .i64 a, .pointer (some ⟨bx, 0, none⟩), .pointer (some ⟨be, 0, none⟩)] w fun r w' => r = .returned (.bool (decide (e <= a + pf (ld N y g ws a)))) /\ Below w.heap.size w w' := by
 have P := thing_any a w hA
 have hf := pf_bd (ld N y g ws a)
 have lb := World.block_lt_of_cell? w _ c3
 generalize pf (ld N y g ws a) = m at P hf ⊢
 generalize W.pk (ld N y g ws a) = m1 at P
 generalize pc (ld N y g ws a) = m2 at P
 clear hA
 go_enter Tryz.func235, Tryz.ntmps235
 go_wp2_with fail
 refine P.mono ?_
 clear P
 rintro r w1 ⟨rfl, hb1⟩
 have d3 := (hb1.cell (p := ⟨be, 0, none⟩) lb).trans c3
 clear c0 c1 c2 c3
 go_wp2_with fail
 go_ret
 exact ⟨by first | rfl | (congr 2; simp; done) | (congr 2; simp; omega), hb1⟩
end Go.Proofs.YtnalfnlmaallmaaGreat

namespace Go.Proofs.YtnalfnlmaallmaaGreat
set_option maxRecDepth 100000
set_option maxHeartbeats 2000000
open Go.RowKit W Kp Stl
def kpL (p : Int -> Bool) (l : List Int) : List Int := l.filter (fun x => !p x)
theorem kpL_snoc (p : Int -> Bool) (l : List Int) (x : Int) : kpL p (l ++ [x]) = if p x = true then kpL p l else kpL p l ++ [x] := by
 unfold kpL
 rw [List.filter_append]
 cases h : p x <;> simp [h]
theorem kpL_none {p : Int -> Bool} {l : List Int} (h : ∀ e ∈ l, p e = false) : kpL p l = l := by
 unfold kpL
 rw [List.filter_eq_self]
 intro a ha
 rw [h a ha]
 rfl
theorem row_sets {base size n g cap i : Nat} {e : TypeId} : ∀ (vs : List Value) (o : Nat) {w : World} {xs : List Value}, w.ownsRow base e size (.slice (some ⟨g, 0, none⟩) n cap) n xs -> i <= o -> ∃ xs', (w.setCells g o vs).ownsRow base e size (.slice (some ⟨g, 0, none⟩) n cap) n xs' /\ xs'.take i = xs.take i
 | [], o, w, xs, h, _ => ⟨xs, h, rfl⟩
 | v :: vs, o, w, xs, h, hi => by
  obtain ⟨xs', h1, h2⟩ := row_sets vs (o + 1) (row_set h o v) (by omega : i <= o + 1)
  refine ⟨xs', h1, h2.trans ?_⟩
  rw [List.take_set_of_le hi]
theorem fr_sets {g : Nat} : ∀ (vs : List Value) (o : Nat) (w : World), Fr (fun b => b = g) w (w.setCells g o vs)
 | [], _, w => Fr.refl _ w
 | v :: vs, o, w => ((Fr.refl (fun b => b = g) w).set g o v rfl).trans (fr_sets vs (o + 1) _) (fun _ e => Or.inl e)
theorem delFI_any (f : Nat) (c : Array Value) (p : Int -> Bool) (hf : Ent f) (w : World) (l : List Int) (g cap B : Nat)
  (hl : ∀ (w' : World) (x : Int), x ∈ l -> Fr (fun b => b = g) w w' -> Calls Tryz.prog f (#[.int .i64 x] ++ c) w' fun r w'' => r = .returned (.bool (p x)) /\ Below w'.heap.size w' w'')
  (hm : l.length <= 100000) (hr : w.ownsRow B 3 1 (.slice (some ⟨g, 0, none⟩) l.length cap) l.length (l.map (Value.int .i64))) :
  Calls Tryz.prog 234 #[.slice (some ⟨g, 0, none⟩) l.length cap, .func (.func f) #[] c] w fun r w' => r = .returned (.slice (some ⟨g, 0, none⟩) (kpL p l).length cap) /\ w'.ownsRow B 3 1 (.slice (some ⟨g, 0, none⟩) (kpL p l).length cap) (kpL p l).length ((kpL p l).map (Value.int .i64)) /\ Fr (fun b => b = g) w w' := by
 have HL : Hid (∀ (w' : World) (x : Int), x ∈ l -> Fr (fun b => b = g) w w' -> Calls Tryz.prog f (#[.int .i64 x] ++ c) w' fun r w'' => r = .returned (.bool (p x)) /\ Below w'.heap.size w' w'') := hl
 have P := indexFI_any f c p hf w l (fun w' x hx hb => HL.out w' x hx (Fr.of hb)) (some ⟨g, 0, none⟩) cap hm (row_ints hr)
 have HR : Hid (w.ownsRow B 3 1 (.slice (some ⟨g, 0, none⟩) l.length cap) l.length (l.map (Value.int .i64))) := hr
 have hcp := row_caps hr
 have hcf : ∀ (args : Array Value) (w : World), (callFunc f args).run Tryz.prog w = .ok (.enter f args) w := hf
 clear hl hr hf
 go_enter Tryz.func234, Tryz.ntmps234
 go_wp2_with fail
 refine P.mono ?_
 clear P
 rintro r w1 ⟨hb1, ⟨rfl, hn⟩ | ⟨i0, rfl, hi0, hpi, hn⟩⟩
 ·have HF : Hid (kpL p l = l /\ w1.ownsRow B 3 1 (.slice (some ⟨g, 0, none⟩) l.length cap) l.length (l.map (Value.int .i64)) /\ Fr (fun b => b = g) w w1) := ⟨kpL_none hn, row_keep HR.out (fun b e => hb1.block b (row_lt HR.out b e).2), Fr.of hb1⟩
  clear hb1 hn
  go_wp2_with fail
  go_ret
  rw [HF.out.1]
  exact ⟨rfl, HF.out.2⟩
 ·have i0' : (i0 : Int) < l.length := by omega
  have HE0 : Hid (kpL p (l.take (i0 + 1)) = l.take i0 /\ w1.ownsRow B 3 1 (.slice (some ⟨g, 0, none⟩) l.length cap) l.length (l.map (Value.int .i64)) /\ Fr (fun b => b = g) w w1) := by
   refine ⟨?_, row_keep HR.out (fun b e => hb1.block b (row_lt HR.out b e).2), Fr.of hb1⟩
   rw [take_snoc l i0 hi0 0, kpL_snoc, if_pos hpi, kpL_none hn]
  clear hn hpi hb1
  go_wp2_with fail
  have e12 : ((i0 : Int) == -1) = false := by rw [beq_eq_false_iff_ne]; omega
  rw [e12]
  clear e12
  go_loopw [5, 6] (fun iv jv wr => ∃ (i j : Nat), i < j /\ j <= l.length /\ iv = .int .i64 i /\ jv = .int .i64 j /\ Hid ((kpL p (l.take j)).length = i /\ wr.ownsRow B 3 1 (.slice (some ⟨g, 0, none⟩) l.length cap) l.length ((kpL p (l.take j) ++ l.drop i).map (Value.int .i64)) /\ Fr (fun b => b = g) w wr)) (fun _ jv _ => l.length - (intOf jv).toNat)
  case atStart =>
   refine ⟨i0, i0 + 1, by omega, by omega, rfl, by go_num, ?_⟩
   obtain ⟨h1, h2, h3⟩ := HE0.out
   refine ⟨by rw [h1, List.length_take]; omega, ?_, h3⟩
   rw [h1, List.take_append_drop]
   exact h2
  case round =>
   clear HE0 hi0 i0'
   obtain ⟨i, j, hij, hj, rfl, rfl, HI⟩ := hrel
   by_cases hlt : j < l.length
   ·have hd : l.getD j 0 ∈ l := by rw [List.getD_eq_getElem?_getD, List.getElem?_eq_getElem hlt]; exact List.getElem_mem hlt
    have hx : ((kpL p (l.take j) ++ l.drop i).map (Value.int .i64))[j]? = some (.int .i64 (l.getD j 0)) := by
     have e := HI.out.1
     rw [List.getElem?_map, List.getElem?_append_right (by omega), List.getElem?_drop, e, show i + (j - i) = j from by omega, List.getElem?_eq_getElem hlt, List.getD_eq_getElem?_getD, List.getElem?_eq_getElem hlt]
     rfl
    have x1 := (row_cell HI.out.2.1 hx).1
    have P := HL.out wr (l.getD j 0) hd HI.out.2.2
    have HT : Hid (l.take (j + 1) = l.take j ++ [l.getD j 0]) := take_snoc l j hlt 0
    generalize l.getD j 0 = x at x1 P HT
    have j0 : (0 : Int) <= (j : Int) := by omega
    have j1 : (j : Int) < l.length := by omega
    have i0 : (0 : Int) <= (i : Int) := by omega
    have i1 : (i : Int) < l.length := by omega
    clear hx hd
    go_wp2_with fail
    refine P.mono ?_
    clear P x1
    rintro r w2 ⟨rfl, hb2⟩
    have HR2 : Hid (w2.ownsRow B 3 1 (.slice (some ⟨g, 0, none⟩) l.length cap) l.length ((kpL p (l.take j) ++ l.drop i).map (Value.int .i64)) /\ Fr (fun b => b = g) w w2) := ⟨row_keep HI.out.2.1 (fun b e => hb2.block b (row_lt HI.out.2.1 b e).2), HI.out.2.2.trans (Fr.of (X := fun b => b = g) hb2) (fun _ d => Or.inl d)⟩
    clear hb2
    cases hp : p x
    ·have hy : ∃ y, ((kpL p (l.take j) ++ l.drop i).map (Value.int .i64))[i]? = some (Value.int .i64 y) := by
      have e := HI.out.1
      have hil : i < l.length := by omega
      refine ⟨l[i], ?_⟩
      rw [List.getElem?_map, List.getElem?_append_right (by omega), List.getElem?_drop, e, Nat.sub_self, Nat.add_zero, List.getElem?_eq_getElem hil]
      rfl
     obtain ⟨y, hy⟩ := hy
     obtain ⟨y1, y2⟩ := row_cell HR2.out.1 hy
     have HI' : Hid ((kpL p (l.take (j + 1))).length = i + 1 /\ (w2.setCell ⟨g, i, none⟩ (.int .i64 x)).ownsRow B 3 1 (.slice (some ⟨g, 0, none⟩) l.length cap) l.length ((kpL p (l.take (j + 1)) ++ l.drop (i + 1)).map (Value.int .i64)) /\ Fr (fun b => b = g) w (w2.setCell ⟨g, i, none⟩ (.int .i64 x))) := by
      have e := HI.out.1
      have hil : i < l.length := by omega
      have ek : kpL p (l.take (j + 1)) = kpL p (l.take j) ++ [x] := by rw [HT.out, kpL_snoc, hp]; rfl
      refine ⟨by rw [ek, List.length_append, e]; rfl, ?_, HR2.out.2.trans ((Fr.refl (fun b => b = g) w2).set g i _ rfl) (fun _ d => Or.inl d)⟩
      have h5 := row_set HR2.out.1 i (Value.int .i64 x)
      have e6 : ((kpL p (l.take j) ++ l.drop i).map (Value.int .i64)).set i (.int .i64 x) = (kpL p (l.take (j + 1)) ++ l.drop (i + 1)).map (Value.int .i64) := by
       rw [ek, <- List.map_set, List.set_append_right _ _ (by omega), e, Nat.sub_self, List.drop_eq_getElem_cons hil, List.set_cons_zero, List.append_assoc]
       rfl
      rw [e6] at h5
      exact h5
     clear hp hy HI HR2 HT
     go_wp2_with fail
     go_roundw
     case rel => exact ⟨i + 1, j + 1, by omega, by omega, by go_num, by go_num, HI'⟩
     case measure => simp [intOf]; omega
    ·have HI' : Hid ((kpL p (l.take (j + 1))).length = i /\ w2.ownsRow B 3 1 (.slice (some ⟨g, 0, none⟩) l.length cap) l.length ((kpL p (l.take (j + 1)) ++ l.drop i).map (Value.int .i64)) /\ Fr (fun b => b = g) w w2) := by
      have ek : kpL p (l.take (j + 1)) = kpL p (l.take j) := by rw [HT.out, kpL_snoc, hp]; rfl
      rw [ek]
      exact ⟨HI.out.1, HR2.out⟩
     clear hp HI HR2 HT
     go_wp2_with fail
     go_roundw
     case rel => exact ⟨i, j + 1, by omega, by omega, rfl, by go_num, HI'⟩
     case measure => simp [intOf]; omega
   ·obtain rfl : j = l.length := by omega
    have hlen : ((kpL p (l.take l.length) ++ l.drop i).map (Value.int .i64)).length = l.length := by
     have e := HI.out.1
     rw [List.length_map, List.length_append, e, List.length_drop]
     omega
    have hcl : ∀ ty, (Builtin.clear_ #[81] ty #[.slice (some ⟨g, i, none⟩) (l.length - i) (cap - i)]).run Tryz.prog wr = .ok (.tuple #[]) (wr.setCells g i (List.replicate (l.length - i) (.int .i64 0))) := fun ty =>
     Lib.run_clear_slice wr _ _ ty _ Tryz.underlying81 (fun w => zeroI w) rfl rfl g i _ _ (by omega) (fun k hk => by
      rw [(row_cell HI.out.2.1 (List.getElem?_eq_getElem (by rw [hlen]; omega : i + k < _))).1]; rfl) (fun k hk => (row_cell HI.out.2.1 (List.getElem?_eq_getElem (by rw [hlen]; omega : i + k < _))).2)
    have HZ : Hid ((kpL p l).length = i /\ (wr.setCells g i (List.replicate (l.length - i) (.int .i64 0))).ownsRow B 3 1 (.slice (some ⟨g, 0, none⟩) i cap) i ((kpL p l).map (Value.int .i64)) /\ Fr (fun b => b = g) w (wr.setCells g i (List.replicate (l.length - i) (.int .i64 0)))) := by
     obtain ⟨h1, h2, h3⟩ := HI.out
     rw [List.take_length] at h1 h2
     refine ⟨h1, ?_, h3.trans (fr_sets _ _ _) (fun _ d => Or.inl d)⟩
     obtain ⟨xs, h4, h5⟩ := row_sets (i := i) (List.replicate (l.length - i) (Value.int .i64 0)) i h2 (Nat.le_refl _)
     have h6 := row_front h4 i (by omega)
     rw [h5, List.map_append, List.take_append_of_le_length (by simp; omega), List.take_of_length_le (by simp; omega)] at h6
     exact h6
    have i0 : (0 : Int) <= (i : Int) := by omega
    have i1 : (i : Int) < l.length := by omega
    clear hlt HI hlen
    go_wp2_with fail
    go_ret
    rw [HZ.out.1]
    exact ⟨rfl, HZ.out.2⟩
end Go.Proofs.YtnalfnlmaallmaaGreat

namespace Go.Proofs.YtnalfnlmaallmaaGreat
open Go.RowKit W Kp Stl
def Wst.j0 (a : Wc) (s : Wst) : Jk := ⟨a, s, kpL (fun x => decide ((s.y : Int) <= x + pf (ld a.N s.y s.g s.ws x))) (thY a.N s.y s.g s.ws), kpL (fun x => decide ((a.N : Int) + s.g <= x + pf (ld a.N s.y s.g s.ws x))) (thO a.N s.y s.g s.ws)⟩
def js0 : Js := ⟨fun _ => -1, [], []⟩
def Ww.j2 (a : Wc) (S : Ww) : Js × List En := (S.s.j0 a).sp ((S.s.j0 a).kr js0 12, S.q)
def Ww.j3 (a : Wc) (S : Ww) : Js := ((S.s.j0 a).sS (S.j2 a) S.r).1
def Ww.r3 (a : Wc) (S : Ww) : List En := (S.s.j0 a).sR (S.j2 a) S.r
def Ww.q3 (a : Wc) (S : Ww) : List En := (S.s.j0 a).sQ (S.j2 a) S.r
def Ww.j4 (a : Wc) (S : Ww) : Js := ((S.s.j0 a).pl (S.j3 a)).1
def Ww.n4 (a : Wc) (S : Ww) : Int := ((S.s.j0 a).pl (S.j3 a)).2 - a.N
def Ww.jfull (a : Wc) (S : Ww) : Bool := decide ((a.O : Int) < S.n4 a)
def Ww.k5 (a : Wc) (S : Ww) : Jk := (S.s.j0 a).tlA (S.j4 a)
def Ww.j5 (a : Wc) (S : Ww) : Js := ((S.k5 a).tS (S.j4 a, S.q3 a) (S.r3 a)).1
def Ww.k6 (a : Wc) (S : Ww) : Jk := (S.k5 a).sl (S.j5 a)
def Ww.gcut (a : Wc) (S : Ww) : Ww := if S.jfull a = true then S else ⟨(S.k6 a).s, (S.k5 a).tR (S.j4 a, S.q3 a) (S.r3 a), (S.k5 a).tQ (S.j4 a, S.q3 a) (S.r3 a)⟩
def Ww.gcode (a : Wc) (S : Ww) : Int := if S.jfull a = true then 3 else 0
section
variable {a : Wc} {s : Wst}
theorem kpL_sub {p : Int -> Bool} {l : List Int} {x : Int} (h : x ∈ kpL p l) : x ∈ l := (List.mem_filter.1 h).1
theorem kpL_le (p : Int -> Bool) (l : List Int) : (kpL p l).length <= l.length := List.length_filter_le _ _
theorem JI.start (hN : a.N <= 256) (hO : a.O <= 1024) (hy : s.y <= a.N) (hg : s.g <= a.O) : JI (s.j0 a) js0 := by
 have bY : ∀ x ∈ (s.j0 a).Y, 0 <= x /\ x < s.y := fun x hx => by
  have h1 := thY_bd x (kpL_sub hx)
  omega
 have bG : ∀ x ∈ (s.j0 a).G, (a.N : Int) <= x /\ x < (a.N : Int) + s.g := fun x hx => by
  have h1 := ths_bd _ _ x (kpL_sub hx)
  omega
 have nd : (s.j0 a).T.Nodup := by
  unfold Jk.T
  rw [List.nodup_append]
  refine ⟨(ths_nd 2000 _).filter _, (ths_nd 2000 0).filter _, fun x hx z hz e => ?_⟩
  have h1 := bG x hx
  have h2 := bY z hz
  omega
 have tl : (s.j0 a).T.length <= 4000 := by
  unfold Jk.T
  rw [List.length_append]
  have h1 : (s.j0 a).G.length <= 2000 := Nat.le_trans (kpL_le _ _) (ths_le _ _)
  have h2 : (s.j0 a).Y.length <= 2000 := Nat.le_trans (kpL_le _ _) (ths_le _ _)
  omega
 refine ⟨nd, fun x hx => ?_, fun x hx => by simp [js0] at hx, fun x hx => by simp [js0] at hx, tl, ?_⟩
 ·rcases List.mem_append.1 hx with d | d
  ·have := bG x d
   omega
  ·have := bY x d
   omega
 ·show ((s.j0 a).T.filter (fun _ => _)).length + 0 + 0 <= _
  exact List.length_filter_le _ _
end
end Go.Proofs.YtnalfnlmaallmaaGreat

namespace Go.Proofs.YtnalfnlmaallmaaGreat
open Go.RowKit W Kp Stl
def Jk.k12 (k : Jk) : Prop := ∀ a ∈ k.T, pk (k.ld a) = 1 \/ pk (k.ld a) = 2
def Jk.flt (k : Jk) (s : Js) (a : Int) : Prop := ∀ i : Nat, (i : Int) < pf (k.ld a) -> k.jl s (k.ld (a + 1 + i)) = false
structure Mk (k : Jk) (C X : Int -> Prop) (s : Js) : Prop where
  ji : JI k s
  snd : ∀ a ∈ k.T, s.f a ≠ -1 -> C a
  self : ∀ a ∈ k.T, s.f a ≠ -1 -> s.f a = a
  td : ∀ a ∈ s.td, s.f a ≠ -1
  cmp : ∀ a ∈ k.T, s.f a ≠ -1 -> a ∈ s.td \/ X a \/ k.flt s a
  ep : s.ep = []
structure Jcl (k : Jk) (C : Int -> Prop) : Prop where
  rt : ∀ i, i < 12 -> k.jt (k.s.rs.getD i 0) = true -> C (aV (k.s.rs.getD i 0))
  fd : ∀ a ∈ k.T, C a -> ∀ i : Nat, (i : Int) < pf (k.ld a) -> k.jt (k.ld (a + 1 + i)) = true -> C (aV (k.ld (a + 1 + i)))
section
variable {k : Jk} {C X : Int -> Prop} {s : Js}
theorem Jk.jl_no {x : Int} (h : k.jt x = true) : k.jl s x = false ↔ s.f (aV x) ≠ -1 := by
 unfold Jk.jl
 rw [h, Bool.true_and, beq_eq_false_iff_ne]
theorem jt_mem {x : Int} (h : k.jt x = true) : aV x ∈ k.T := by
 unfold Jk.jt at h
 rw [Bool.and_eq_true] at h
 exact List.contains_iff_mem.1 h.2
structure Mle (k : Jk) (s t : Js) : Prop where
  f : ∀ b, s.f b ≠ -1 -> t.f b = s.f b
theorem Mle.jl {t : Js} (h : Mle k s t) {y : Int} (hy : k.jl s y = false) : k.jl t y = false := by
 cases hj : k.jt y
 ·unfold Jk.jl
  rw [hj]
  rfl
 ·rw [Jk.jl_no hj] at hy ⊢
  rw [h.f _ hy]
  exact hy
theorem Mle.refl (s : Js) : Mle k s s := ⟨fun _ _ => rfl⟩
theorem Mle.trans {t u : Js} (h : Mle k s t) (j : Mle k t u) : Mle k s u := ⟨fun b hb => by
 have e := h.f b hb
 rw [j.f b (by rw [e]; exact hb), e]⟩
theorem Mle.flt {t : Js} (h : Mle k s t) {a : Int} (ha : k.flt s a) : k.flt t a := fun i hi => h.jl (ha i hi)
theorem Mk.ma (h : Mk k C X s) (x : Int) (hx : k.jt x = true -> C (aV x)) : Mk k C X (k.ma s x) /\ Mle k s (k.ma s x) /\ k.jl (k.ma s x) x = false := by
 by_cases c : k.jl s x = true
 ·obtain ⟨h1, h2, h3⟩ := Jk.jl_yes c
  have hp := (h.ji.ps _ h2).1
  have hj : k.jt x = true := by
   unfold Jk.jl at c
   rw [Bool.and_eq_true] at c
   exact c.1
  have e : k.ma s x = { s with f := upf s.f (aV x) (aV x), td := s.td ++ [aV x] } := by unfold Jk.ma; rw [if_pos c]
  have ef : ∀ b, (k.ma s x).f b = if b = aV x then aV x else s.f b := fun b => by rw [e]; rfl
  have et : (k.ma s x).td = s.td ++ [aV x] := by rw [e]
  have le : Mle k s (k.ma s x) := ⟨fun b hb => by
   rw [ef, if_neg (fun e => hb (by rw [e]; exact h3))]⟩
  refine ⟨⟨(h.ji.ma x).1, fun b hb hf => ?_, fun b hb hf => ?_, fun b hb => ?_, fun b hb hf => ?_, by rw [e]; exact h.ep⟩, le, ?_⟩
  ·rw [ef] at hf
   by_cases d : b = aV x
   ·rw [d]; exact hx hj
   ·rw [if_neg d] at hf; exact h.snd b hb hf
  ·rw [ef] at hf ⊢
   by_cases d : b = aV x
   ·rw [if_pos d, d]
   ·rw [if_neg d] at hf ⊢; exact h.self b hb hf
  ·rw [et] at hb
   rw [ef]
   by_cases d : b = aV x
   ·rw [if_pos d]; omega
   ·rw [if_neg d]
    rcases List.mem_append.1 hb with hb | hb
    ·exact h.td b hb
    ·exact absurd (List.mem_singleton.1 hb) d
  ·rw [et]
   by_cases d : b = aV x
   ·exact Or.inl (by rw [d]; simp)
   ·rw [ef, if_neg d] at hf
    rcases h.cmp b hb hf with q | q | q
    ·exact Or.inl (List.mem_append_left _ q)
    ·exact Or.inr (Or.inl q)
    ·exact Or.inr (Or.inr (le.flt q))
  ·rw [Jk.jl_no hj, ef, if_pos rfl]
   omega
 ·have e : k.ma s x = s := by unfold Jk.ma; rw [if_neg c]
  rw [e]
  exact ⟨h, Mle.refl _, by simpa using c⟩
theorem Mk.mas (h : Mk k C X s) (a : Int) : ∀ n : Nat, (∀ i : Nat, i < n -> k.jt (k.ld (a + 1 + i)) = true -> C (aV (k.ld (a + 1 + i)))) -> Mk k C X (k.mas s a n) /\ Mle k s (k.mas s a n) /\ ∀ i : Nat, i < n -> k.jl (k.mas s a n) (k.ld (a + 1 + i)) = false
 | 0, _ => ⟨h, Mle.refl _, fun i hi => by omega⟩
 | n + 1, hC => by
  obtain ⟨h1, h2, h3⟩ := Mk.mas h a n (fun i hi => hC i (by omega))
  obtain ⟨j1, j2, j3⟩ := h1.ma (k.ld (a + 1 + n)) (hC n (by omega))
  refine ⟨j1, h2.trans j2, fun i hi => ?_⟩
  by_cases e : i = n
  ·rw [e]; exact j3
  ·exact j2.jl (h3 i (by omega))
theorem Mk.l1 (h : Mk k C (fun _ => False) s) (hk : k.k12) (hC : Jcl k C) (hl : 0 < s.td.length) : Mk k C (fun _ => False) (k.l1 s) /\ Mle k s (k.l1 s) := by
 obtain ⟨x, hx⟩ : ∃ x, s.td.getD (s.td.length - 1) 0 = x := ⟨_, rfl⟩
 have hm : x ∈ s.td := by
  rw [<- hx, List.getD_eq_getElem?_getD, List.getElem?_eq_getElem (by omega)]
  exact List.getElem_mem _
 have hT := h.ji.td x hm
 have hf := h.td x hm
 have htd : ∀ b, b ∈ s.td -> b ∈ s.td.take (s.td.length - 1) \/ b = x := fun b hb => by
  have e := take_snoc s.td (s.td.length - 1) (by omega) 0
  rw [show s.td.length - 1 + 1 = s.td.length from by omega, List.take_length, hx] at e
  have hb2 : b ∈ s.td.take (s.td.length - 1) ++ [x] := by
   rw [<- e]
   exact hb
  rcases List.mem_append.1 hb2 with hb | hb
  ·exact Or.inl hb
  ·exact Or.inr (List.mem_singleton.1 hb)
 have hs := h.ji.sum
 have el : (s.td.take (s.td.length - 1)).length = s.td.length - 1 := by rw [List.length_take]; omega
 have j0 : JI k { s with td := s.td.take (s.td.length - 1) } := ⟨h.ji.nd, h.ji.ps, fun a ha => h.ji.td a (List.mem_of_mem_take ha), h.ji.ep, h.ji.tl, by
  show k.lost s + (s.td.take (s.td.length - 1)).length + s.ep.length <= _
  omega⟩
 have h0 : Mk k C (fun b => b = x) { s with td := s.td.take (s.td.length - 1) } := ⟨j0, h.snd, h.self, fun a ha => h.td a (List.mem_of_mem_take ha), fun a ha hfa => by
  rcases h.cmp a ha hfa with q | q | q
  ·exact (htd a q).imp id Or.inl
  ·exact absurd q id
  ·exact Or.inr (Or.inr q), h.ep⟩
 have e1 : k.l1 s = k.mas { s with td := s.td.take (s.td.length - 1) } x (pf (k.ld x)).toNat := by
  unfold Jk.l1
  rw [hx]
  unfold Jk.lk
  rw [if_pos (hk x hT)]
 obtain ⟨m1, m2, m3⟩ := h0.mas x (pf (k.ld x)).toNat (fun i hi => hC.fd x hT (h.snd x hT hf) i (by omega))
 rw [e1]
 refine ⟨⟨m1.ji, m1.snd, m1.self, m1.td, fun a ha hfa => ?_, m1.ep⟩, ⟨fun b hb => m2.f b hb⟩⟩
 rcases m1.cmp a ha hfa with q | q | q
 ·exact Or.inl q
 ·rw [q]
  exact Or.inr (Or.inr (fun i hi => m3 i (by omega)))
 ·exact Or.inr (Or.inr q)
theorem Mk.lm (hk : k.k12) (hC : Jcl k C) : ∀ (n : Nat) {s : Js}, Mk k C (fun _ => False) s -> Mk k C (fun _ => False) (k.lm n s) /\ Mle k s (k.lm n s)
 | 0, s, h => ⟨h, Mle.refl _⟩
 | n + 1, s, h => by
  unfold Jk.lm
  by_cases c : 0 < s.td.length
  ·rw [if_pos c]
   obtain ⟨h1, h2⟩ := h.l1 hk hC c
   obtain ⟨j1, j2⟩ := Mk.lm hk hC n h1
   exact ⟨j1, h2.trans j2⟩
  ·rw [if_neg c]
   exact ⟨h, Mle.refl _⟩
theorem Mk.kr (h : Mk k C X s) (hC : Jcl k C) : ∀ n, n <= 12 -> Mk k C X (k.kr s n) /\ Mle k s (k.kr s n) /\ ∀ i, i < n -> k.jl (k.kr s n) (k.s.rs.getD i 0) = false
 | 0, _ => ⟨h, Mle.refl _, fun i hi => by omega⟩
 | n + 1, hn => by
  obtain ⟨h1, h2, h3⟩ := Mk.kr h hC n (by omega)
  obtain ⟨j1, j2, j3⟩ := h1.ma (k.s.rs.getD n 0) (hC.rt n (by omega))
  refine ⟨j1, h2.trans j2, fun i hi => ?_⟩
  by_cases e : i = n
  ·rw [e]; exact j3
  ·exact j2.jl (h3 i (by omega))
theorem Mk.start (h : JI k js0) : Mk k C X js0 := ⟨h, fun _ _ hf => absurd rfl hf, fun _ _ hf => absurd rfl hf, fun _ ha => by simp [js0] at ha, fun _ _ hf => absurd rfl hf, rfl⟩
structure Mkd (k : Jk) (C : Int -> Prop) (s : Js) : Prop where
  ji : JI k s
  snd : ∀ a ∈ k.T, s.f a ≠ -1 -> C a
  self : ∀ a ∈ k.T, s.f a ≠ -1 -> s.f a = a
  flt : ∀ a ∈ k.T, s.f a ≠ -1 -> k.flt s a
  rt : ∀ i, i < 12 -> k.jl s (k.s.rs.getD i 0) = false
theorem sp_empty {s : Js} (h : (k.LM s).ep = []) : k.sp (s, []) = (k.LM s, []) := by
 have e1 : k.kv (k.LM s) = (false, k.LM s) := by
  unfold Jk.kv Jk.kvf
  rw [h]
  simp only [List.foldl_nil, List.length_nil, Nat.lt_irrefl, decide_false]
  cases hs : k.LM s
  rw [hs] at h
  simp at h
  rw [h]
 unfold Jk.sp Jk.spr
 dsimp only
 rw [e1]
 rw [if_neg (by simp)]
 have e2 : k.wa (k.LM s, []) = ((k.LM s, []), false) := rfl
 rw [e2]
 simp
theorem Mk.done (hI : JI k js0) (hk : k.k12) (hC : Jcl k C) : k.sp (k.kr js0 12, []) = (k.LM (k.kr js0 12), []) /\ Mkd k C (k.LM (k.kr js0 12)) := by
 obtain ⟨h1, _, h3⟩ := (Mk.start (C := C) (X := fun _ => False) hI).kr hC 12 (Nat.le_refl _)
 obtain ⟨j1, j2⟩ := Mk.lm hk hC (k.lost (k.kr js0 12) + (k.kr js0 12).td.length + 1) h1
 have j1 : Mk k C (fun _ => False) (k.LM (k.kr js0 12)) := j1
 have j2 : Mle k (k.kr js0 12) (k.LM (k.kr js0 12)) := j2
 have ht := LM_td h1.ji
 refine ⟨sp_empty j1.ep, j1.ji, j1.snd, j1.self, fun a ha hf => ?_, fun i hi => j2.jl (h3 i hi)⟩
 rcases j1.cmp a ha hf with q | q | q
 ·rw [ht] at q; cases q
 ·exact absurd q id
 ·exact q
end
end Go.Proofs.YtnalfnlmaallmaaGreat
