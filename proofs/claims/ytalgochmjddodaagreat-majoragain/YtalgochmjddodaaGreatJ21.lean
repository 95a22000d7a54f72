/- Joined: Mj23, Mj24, Vw6, Vw7. -/
import Derived.Test.YtalgochmjddodaaGreatJ20
import Derived.Test.YtalgochmjddodaaGreatJ11
namespace Go.Proofs.YtalgochmjddodaaGreat
set_option maxRecDepth 100000
set_option maxHeartbeats 4000000
open Go.RowKit W Kp Stl
theorem Tn.less {X F F' : Nat -> Prop} {w w' : World} (h : Tn X w F w') (hs : ∀ b, F' b -> F b) : Tn X w F' w' := ⟨h.fr, fun b d => h.sub b (hs b d)⟩
theorem obX_in2 {τ : Type} {o : Ob τ} {bx : Nat} {x : Obj} {F : Nat -> Prop} {w : World} {t : τ} (h : (obX o bx x).J F t w) : ∃ F0, o.J F0 t w /\ w.heap[bx]? = some x /\ bx < w.heap.size /\ (∀ F1 t1 w1, o.J F1 t1 w1 -> Tn F0 w F1 w1 -> (obX o bx x).J (fun b => F1 b \/ b = bx) t1 w1 /\ Tn F w (fun b => F1 b \/ b = bx) w1) /\ ∀ b, F0 b -> F b := by
 obtain ⟨F0, h, g2, g3, g4⟩ := h
 refine ⟨F0, h, g2, lt_of_some g2, fun F1 t1 w1 h1 hT => ⟨⟨F1, h1, (hT.fr.block bx (lt_of_some g2) g3).trans g2, fun d => (hT.sub bx d).elim g3 (fun d => by have := lt_of_some g2; omega), fun b => Iff.rfl⟩, ⟨hT.fr.mono (fun b hb => (g4 b).2 (Or.inl hb)), fun b hb => ?_⟩⟩, fun b hb => (g4 b).2 (Or.inl hb)⟩
 rcases hb with hb | hb
 ·exact (hT.sub b hb).imp (fun d => (g4 b).2 (Or.inl d)) id
 ·exact Or.inl ((g4 b).2 (Or.inr hb))
section
variable {c : Jc} {k : Jk} {vt ve : Value} {F : Nat -> Prop} {s : Js} {w : World}
theorem slideJ_any {G : Nat -> Jk × Int -> Prop} (hG : SlG k s G) (hg0 : G 0 (k, 0)) (h : (mjV c k vt ve).J F s w) (hl : k.T.length <= 4000) (hp : ∀ a ∈ k.T, 0 <= a /\ a <= 2000) :
  Calls Tryz.prog 80 #[.pointer (some ⟨c.pk, 0, none⟩)] w fun e w' => ∃ F', e = .returned (.tuple #[]) /\ (mjV c (k.sl s) vt ve).J F' s w' /\ Tn F w F' w' := by
 have hmf : ∀ (fn : Fn) (first cap : Array Value) (w : World), (Instr.makeFunc fn first cap).run Tryz.prog w = .ok (.func fn first cap) w := fun _ _ _ _ => rfl
 have hlT : k.T.length = k.G.length + k.Y.length := by unfold Jk.T; rw [List.length_append]
 have HG : Hid (SlG k s G /\ G 0 (k, 0) /\ (∀ a ∈ k.G, 0 <= a /\ a <= 2000) /\ (∀ a ∈ k.Y, 0 <= a /\ a <= 2000) /\ k.G.length <= 4000 /\ k.Y.length <= 4000) := ⟨hG, hg0, fun a ha => hp a (List.mem_append.2 (Or.inl ha)), fun a ha => hp a (List.mem_append.2 (Or.inr ha)), by omega, by omega⟩
 have nF : ∀ b, F b -> b < w.heap.size := (mjV c k vt ve).lt h
 obtain ⟨w0, hw0⟩ : ∃ w0, w.alloc (boxJ c) = w0 := ⟨_, rfl⟩
 have hb0 : Below w.heap.size w w0 := by rw [<- hw0]; exact (Below.refl w.heap.size w).alloc (Nat.le_refl _) (boxJ c)
 have hs0 : w0.heap.size = w.heap.size + 1 := by rw [<- hw0]; simp
 have hx0 : w0.heap[w.heap.size]? = some (boxJ c) := by rw [<- hw0]; exact heap_alloc_new _ _
 obtain ⟨w1, hw1⟩ : ∃ w1, w0.alloc (boxI 0) = w1 := ⟨_, rfl⟩
 have hb1 : Below w0.heap.size w0 w1 := by rw [<- hw1]; exact (Below.refl w0.heap.size w0).alloc (Nat.le_refl _) (boxI 0)
 have hx1 : w1.heap[w0.heap.size]? = some (boxI 0) := by rw [<- hw1]; exact heap_alloc_new _ _
 have hbA : Below w.heap.size w w1 := hb0.trans (hb1.mono (by omega))
 have hJ1 : (mtO c k s vt ve).J F k w1 := ⟨(mjV c k vt ve).below h hbA, rfl, rfl, rfl⟩
 have hX1 : (obX (mtO c k s vt ve) w.heap.size (boxJ c)).J (fun b => F b \/ b = w.heap.size) k w1 := ⟨F, hJ1, (hb1.block _ (by omega)).trans hx0, fun d => by have := nF _ d; omega, fun b => Iff.rfl⟩
 have hN1 : (obN (obX (mtO c k s vt ve) w.heap.size (boxJ c)) (w.heap.size + 1)).J (fun b => (F b \/ b = w.heap.size) \/ b = w.heap.size + 1) (k, 0) w1 := ⟨_, hX1, by rw [<- hs0]; exact hx1, fun d => d.elim (fun d => by have := nF _ d; omega) (fun d => by omega), fun b => Iff.rfl⟩
 have e2 : w.cell? ⟨c.pk, 2, none⟩ = some c.ov := (mj_cells h).2.2.1
 have lk : c.pk < w.heap.size := (mj_cells h).2.2.2.2.2.2.2.2
 obtain ⟨_, d2o, yr, gr⟩ := mt_lists hJ1
 obtain ⟨ya, yc, ey⟩ := row_slice yr
 obtain ⟨ga, gc, eg⟩ := row_slice gr
 have d2 : w1.cell? ⟨c.pk, 2, none⟩ = some (.slice ga k.G.length gc) := by rw [d2o, eg]
 clear d2o
 rw [eg] at e2
 have EY : Hid (c.yv = .slice ya k.Y.length yc) := ey
 have EG : Hid (c.ov = .slice ga k.G.length gc) := eg
 have x0 : w1.cell? ⟨w.heap.size, 0, none⟩ = some (.pointer (some ⟨c.pk, 0, none⟩)) := by
  have e : w1.heap[w.heap.size]? = some (boxJ c) := (hb1.block _ (by omega)).trans hx0
  simp [World.cell?, e]
 have hd := (Below.refl w1.heap.size w1).drew
 have HN : Hid (Tn F w (fun b => (F b \/ b = w.heap.size) \/ b = w.heap.size + 1) w1.drew) := ⟨(Fr.of (X := F) hbA).trans (Fr.of (X := F) hd) (fun b d => Or.inl d), fun b d => d.elim (fun d => d.imp id (fun e => by omega)) (fun e => Or.inr (by omega))⟩
 have P1 := slideE1_any HG.out.1 HG.out.2.1 ((obN (obX (mtO c k s vt ve) w.heap.size (boxJ c)) (w.heap.size + 1)).below hN1 hd) HG.out.2.2.2.2.1 HG.out.2.2.1 eg
 obtain ⟨t1, ht1⟩ : ∃ t1, ejL (fun _ a => s.f a) (Jk.slS s) (k, 0) k.G = t1 := ⟨_, rfl⟩
 rw [ht1] at P1
 have HS1 : Hid (k.sl1 s = t1.1.ar t1.1.s.y t1.2.toNat t1.1.s.ws) := by
  show k.sl1 s = _
  unfold Jk.sl1 Jk.slL
  rw [ht1]
 have HE : Hid (k.sl s = ((k.sl2 s).ar 0 (k.sl2 s).s.g (k.sl2 s).s.ws).cdc /\ k.sl2 s = (k.sl1 s).cpL s k.Y) := ⟨rfl, rfl⟩
 generalize k.sl s = k9 at HE ⊢
 generalize k.sl2 s = k3 at HE
 generalize k.sl1 s = k2 at HE HS1
 clear hG hg0 h hb0 hx0 hb1 hx1 hbA hJ1 hX1 hN1 yr gr ey eg hd ht1 nF hp hl hlT hs0
 subst hw1
 subst hw0
 have d2' : ((w.alloc (.cells #[.pointer (some ⟨c.pk, 0, none⟩)] 130 (0, 0))).alloc (.cells #[.int .i64 0] 3 (0, 0))).cell? ⟨c.pk, 2, none⟩ = some (.slice ga k.G.length gc) := d2
 go_enter Tryz.func80, Tryz.ntmps80
 go_wp2_with fail
 go_region_held3 (fun w' => w'.cell? ⟨w.heap.size, 0, none⟩ = some (.pointer (some ⟨c.pk, 0, none⟩)) /\ w'.cell? ⟨c.pk, 2, none⟩ = some (.slice ga k.G.length gc)) (go_keep)
  (first
   | (go_at_call 159; refine P1.mono ?_; clear P1; rintro e w3 ⟨F3, rfl, j3, t3, g3⟩; have H3 : Hid ((obN (obX (mtO c k s vt ve) w.heap.size (boxJ c)) (w.heap.size + 1)).J F3 t1 w3 /\ Tn F w F3 w3 /\ 0 <= t1.2 /\ t1.2 <= k.a.O) := ⟨j3, HN.out.trans t3, HG.out.1.2.2 _ g3⟩; obtain ⟨_, q1, _⟩ := obN_in j3; obtain ⟨_, q2, q3, _⟩ := obX_in q1; obtain ⟨_, y2o, _⟩ := mt_lists q2; have y0 : w3.cell? ⟨w.heap.size, 0, none⟩ = some (.pointer (some ⟨c.pk, 0, none⟩)) := (by simp [World.cell?, q3]); have y2 : w3.cell? ⟨c.pk, 2, none⟩ = some (.slice ga k.G.length gc) := (by rw [y2o, EG.out]); clear y2o j3 t3 g3 q1 q2 q3))
 all_goals
  have HP : Hid (∃ F4, (obX (mtO c k s vt ve) w.heap.size (boxJ c)).J F4 t1.1 w3.drew /\ Tn F w F4 w3.drew /\ ¬ F4 (w.heap.size + 1) /\ w.heap.size + 1 < w3.heap.size) := by
   obtain ⟨F4, j4, j5, j6, j7⟩ := H3.out.1
   exact ⟨F4, (obX (mtO c k s vt ve) w.heap.size (boxJ c)).below j4 (Below.refl _ w3).drew, (H3.out.2.1.less (fun b d => (j7 b).2 (Or.inl d))).below (Below.refl _ w3).drew, j6, lt_of_some j5⟩
  obtain ⟨F4, j4, t4, n4, l4⟩ := HP.out
  obtain ⟨F5, j5, hx5, lb5, U5, i5⟩ := obX_in2 j4
  obtain ⟨v0o, _, v5o, _, _⟩ := mt_cells j5
  have v6 := (obN_cell H3.out.1).1
  have PC := mt_cutA j5 t1.2 H3.out.2.2.1 H3.out.2.2.2
  rw [<- HS1.out] at PC
  have v0 : w3.cell? ⟨c.pk, 0, none⟩ = some (.pointer (some ⟨k.a.pw, 0, none⟩)) := v0o
  have v5 : w3.cell? ⟨k.a.pw, 0, none⟩ = some (.pointer (some ⟨k.a.p, 0, none⟩)) := v5o
  clear v0o v5o
  have HU5 : Hid (∀ F1 t1 w1, (mtO c k s vt ve).J F1 t1 w1 -> Tn F5 w3.drew F1 w1 -> (obX (mtO c k s vt ve) w.heap.size (boxJ c)).J (fun b => F1 b \/ b = w.heap.size) t1 w1 /\ Tn F w (fun b => F1 b \/ b = w.heap.size) w1) := fun F1 t1 w1 h1 h2 => ⟨(U5 F1 t1 w1 h1 h2).1, t4.trans (U5 F1 t1 w1 h1 h2).2⟩
  have l6 : w.heap.size + 1 < w3.heap.size /\ ¬ F5 (w.heap.size + 1) := ⟨l4, fun d => n4 (i5 _ d)⟩
  clear j4 t4 j5 hx5 lb5 U5 HP n4 l4 i5
  go_wp2_with fail
  go_region_held3 (fun w' => w'.cell? ⟨w.heap.size, 0, none⟩ = some (.pointer (some ⟨c.pk, 0, none⟩)) /\ w'.cell? ⟨c.pk, 0, none⟩ = some (.pointer (some ⟨k.a.pw, 0, none⟩)) /\ w'.cell? ⟨k.a.pw, 0, none⟩ = some (.pointer (some ⟨k.a.p, 0, none⟩)) /\ w'.cell? ⟨w.heap.size + 1, 0, none⟩ = some (.int .i64 t1.2)) (go_keep)
   (first
    | (go_at_call 165; refine PC.mono ?_; clear PC; rintro e w4 ⟨F6, rfl, j6, t6⟩; obtain ⟨r0, _, r5, _, _⟩ := mt_cells j6; obtain ⟨j7, t7⟩ := HU5.out F6 _ w4 j6 t6; obtain ⟨_, _, e7, _⟩ := obX_in j7; have r1 : w4.cell? ⟨w.heap.size, 0, none⟩ = some (.pointer (some ⟨c.pk, 0, none⟩)) := (by simp [World.cell?, e7]); have r2 : w4.cell? ⟨w.heap.size + 1, 0, none⟩ = some (.int .i64 t1.2) := (World.cell?_of_block (a := ⟨w.heap.size + 1, 0, none⟩) (t6.fr.block _ (by simpa using l6.1) l6.2)).trans v6; have H7 : Hid ((obX (mtO c k s vt ve) w.heap.size (boxJ c)).J (fun b => F6 b \/ b = w.heap.size) k2 w4 /\ Tn F w (fun b => F6 b \/ b = w.heap.size) w4) := ⟨j7, t7⟩; clear j6 t6 j7 t7 e7))
  all_goals
   clear r5 r2 v0 v5 v6 y0 y2 l6 HU5 H3
   have HP : Hid ((obX (mtO c k s vt ve) w.heap.size (boxJ c)).J (fun b => F6 b \/ b = w.heap.size) k2 w4.drew /\ Tn F w (fun b => F6 b \/ b = w.heap.size) w4.drew) := ⟨(obX (mtO c k s vt ve) w.heap.size (boxJ c)).below H7.out.1 (Below.refl _ w4).drew, H7.out.2.below (Below.refl _ w4).drew⟩
   have PE := slideE2_any HP.out.1 HG.out.2.2.2.2.2 HG.out.2.2.2.1 EY.out
   rw [<- HE.out.2] at PE
   have f1 : w4.cell? ⟨c.pk, 1, none⟩ = some (.slice ya k.Y.length yc) := by
    obtain ⟨_, q2, _⟩ := obX_in H7.out.1
    exact (mt_lists q2).1.trans (by rw [EY.out])
   clear H7 r0
   go_wp2_with fail
   go_region_held3 (fun w' => w'.cell? ⟨w.heap.size, 0, none⟩ = some (.pointer (some ⟨c.pk, 0, none⟩)) /\ w'.cell? ⟨c.pk, 1, none⟩ = some (.slice ya k.Y.length yc)) (go_keep)
    (first
     | (go_at_call 159; refine PE.mono ?_; clear PE; rintro e w5 ⟨F8, rfl, j8, t8⟩; obtain ⟨_, q2, q3, _⟩ := obX_in j8; have m0 : w5.cell? ⟨w.heap.size, 0, none⟩ = some (.pointer (some ⟨c.pk, 0, none⟩)) := (by simp [World.cell?, q3]); have m1 : w5.cell? ⟨c.pk, 1, none⟩ = some (.slice ya k.Y.length yc) := (mt_lists q2).1.trans (by rw [EY.out]); have H8 : Hid ((obX (mtO c k s vt ve) w.heap.size (boxJ c)).J F8 k3 w5 /\ Tn F w F8 w5) := ⟨j8, HP.out.2.trans t8⟩; clear j8 t8 q2 q3))
   all_goals
    clear f1 r1 m1 HP
    obtain ⟨F9, j9, hx9, lb9, U9⟩ := obX_in H8.out.1
    obtain ⟨v0, _, v5, _, _⟩ := mt_cells j9
    have PC := mt_clear j9
    have HU9 : Hid (∀ F1 t1 w1, (mtO c k s vt ve).J F1 t1 w1 -> Tn F9 w5 F1 w1 -> (obX (mtO c k s vt ve) w.heap.size (boxJ c)).J (fun b => F1 b \/ b = w.heap.size) t1 w1 /\ Tn F w (fun b => F1 b \/ b = w.heap.size) w1) := fun F1 t1 w1 h1 h2 => ⟨(U9 F1 t1 w1 h1 h2).1, H8.out.2.trans (U9 F1 t1 w1 h1 h2).2⟩
    clear j9 hx9 lb9 U9 H8
    go_wp2_with fail
    refine PC.mono ?_
    clear PC
    rintro e w6 ⟨F10, rfl, j10, t10⟩
    obtain ⟨j11, t11⟩ := HU9.out F10 _ w6 j10 t10
    obtain ⟨F12, j12, hx12, lb12, U12⟩ := obX_in j11
    have z0 : w6.cell? ⟨w.heap.size, 0, none⟩ = some (.pointer (some ⟨c.pk, 0, none⟩)) := by simp [World.cell?, hx12]
    obtain ⟨z1, _, _, _, _⟩ := mt_cells j12
    obtain ⟨z2, PD⟩ := mt_cards j12
    rw [<- HE.out.1] at PD
    have HU12 : Hid (∀ F1 t1 w1, (mtO c k s vt ve).J F1 t1 w1 -> Tn F12 w6 F1 w1 -> (obX (mtO c k s vt ve) w.heap.size (boxJ c)).J (fun b => F1 b \/ b = w.heap.size) t1 w1 /\ Tn F w (fun b => F1 b \/ b = w.heap.size) w1) := fun F1 t1 w1 h1 h2 => ⟨(U12 F1 t1 w1 h1 h2).1, t11.trans (U12 F1 t1 w1 h1 h2).2⟩
    clear j10 t10 j11 t11 j12 hx12 lb12 U12 HU9 v0 v5 m0
    go_wp2_with fail
    refine PD.mono ?_
    clear PD
    rintro e w7 ⟨F13, rfl, j13, t13⟩
    have HF : Hid ((mjV c k9 vt ve).J F13 s w7 /\ Tn F w F13 w7) := ⟨j13.1, (HU12.out F13 _ w7 j13 t13).2.less (fun b d => Or.inl d)⟩
    clear j13 t13 HU12 z0 z1 z2
    go_wp2_with fail
    go_end0
    exact ⟨F13, rfl, HF.out.1, HF.out.2⟩
end
end Go.Proofs.YtalgochmjddodaaGreat

namespace Go.Proofs.YtalgochmjddodaaGreat
set_option maxRecDepth 100000
set_option maxHeartbeats 400000
open Go.RowKit W Kp Stl
theorem indexFI_any (f : Nat) (c : Array Value) (p : Int -> Bool) (hf : Ent f) (w : World) (l : List Int)
  (hl : ∀ (w' : World) (x : Int), x ∈ l -> Below w.heap.size w w' -> Calls Tryz.prog f (#[.int .i64 x] ++ c) w' fun r w'' => r = .returned (.bool (p x)) /\ Below w'.heap.size w' w'')
  (ad : Option Addr) (cap : Nat) (hm : l.length <= 100000) (hp : Ls w ad l) :
  Calls Tryz.prog 236 #[.slice ad l.length cap, .func (.func f) #[] c] w fun r w' => Below w.heap.size w w' /\ ((r = .returned (.int .i64 (-1)) /\ ∀ e ∈ l, p e = false) \/ ∃ i : Nat, r = .returned (.int .i64 i) /\ i < l.length /\ p (l.getD i 0) = true /\ ∀ e ∈ l.take i, p e = false) := by
 have HL : Hid (∀ (w' : World) (x : Int), x ∈ l -> Below w.heap.size w w' -> Calls Tryz.prog f (#[.int .i64 x] ++ c) w' fun r w'' => r = .returned (.bool (p x)) /\ Below w'.heap.size w' w'') := hl
 have HP : Hid (Ls w ad l) := hp
 have hcf : ∀ (args : Array Value) (w : World), (callFunc f args).run Tryz.prog w = .ok (.enter f args) w := hf
 clear hl hp hf
 go_enter Tryz.func236, Tryz.ntmps236
 go_wp2_with fail
 go_loopw [8] (fun iv wr => ∃ j : Nat, j <= l.length /\ iv = .int .i64 j /\ Hid (∀ e ∈ l.take j, p e = false) /\ Below w.heap.size w wr) (fun iv _ => l.length - (intOf iv).toNat)
 case atStart => exact ⟨0, Nat.zero_le _, rfl, by simp [Hid], Below.refl _ _⟩
 case round =>
  obtain ⟨j, hj, rfl, HE, hb⟩ := hrel
  by_cases hlt : j < l.length
  ·obtain ⟨b0, o0, e0, hb0, hc⟩ := HP.out.below hb (by omega)
   have x1 := hc j hlt
   have hd : l.getD j 0 ∈ l := by rw [List.getD_eq_getElem?_getD, List.getElem?_eq_getElem hlt]; exact List.getElem_mem hlt
   obtain ⟨x, hx⟩ : ∃ x, l.getD j 0 = x := ⟨_, rfl⟩
   have HG : Hid (l.getD j 0 = x) := hx
   rw [hx] at x1 hd
   have P := HL.out wr x hd hb
   clear hc hx hd
   subst e0
   go_wp2_with fail
   refine P.mono ?_
   clear P
   rintro r w1 ⟨rfl, hb1⟩
   have hb2 := hb.trans (hb1.mono hb.size)
   clear hb hb1
   cases hp : p x
   ·have HE' : Hid (∀ e ∈ l.take (j + 1), p e = false) := fun e he => by
     rw [take_snoc l j hlt 0, List.mem_append, List.mem_singleton] at he
     rcases he with he | he
     ·exact HE.out e he
     ·rw [he, HG.out]; exact hp
    clear hp
    go_wp2_with fail
    go_roundw
    case rel => exact ⟨j + 1, by omega, by go_num, HE', hb2⟩
    case measure => simp [intOf]; omega
   ·have HPt : Hid (p (l.getD j 0) = true) := by show _ = _; rw [HG.out]; exact hp
    clear hp
    go_wp2_with fail
    go_ret
    exact ⟨hb2, Or.inr ⟨j, rfl, hlt, HPt.out, HE.out⟩⟩
  ·obtain rfl : j = l.length := by omega
   rw [List.take_length] at HE
   go_wp2_with fail
   go_ret
   exact ⟨hb, Or.inl ⟨rfl, HE.out⟩⟩
theorem ent_wh1 : Ent 214 := ent_of Tryz.func214 (by kernel_rfl) rfl
theorem whole1J_any {pk pw p q N O y g bx be : Nat} {ws : List Int} {e : Int} (w : World) (hA : At w p q N O y g ws) (c0 : w.cell? ⟨bx, 0, none⟩ = some (.pointer (some ⟨pk, 0, none⟩))) (c1 : w.cell? ⟨pk, 0, none⟩ = some (.pointer (some ⟨pw, 0, none⟩))) (c2 : w.cell? ⟨pw, 0, none⟩ = some (.pointer (some ⟨p, 0, none⟩))) (c3 : w.cell? ⟨be, 0, none⟩ = some (.int .i64 e)) (a : Int) (ha : 0 <= a /\ a <= 100000) :
  Calls Tryz.prog 214 #[.int .i64 a, .pointer (some ⟨bx, 0, none⟩), .pointer (some ⟨be, 0, none⟩)] w fun r w' => r = .returned (.bool (decide (e <= a + pf (ld N y g ws a)))) /\ Below w.heap.size w w' := by
 have P := thing_any a w hA
 have hf := pf_bd (ld N y g ws a)
 have lb := World.block_lt_of_cell? w _ c3
 generalize pf (ld N y g ws a) = m at P hf ⊢
 generalize W.pk (ld N y g ws a) = m1 at P
 generalize pc (ld N y g ws a) = m2 at P
 clear hA
 go_enter Tryz.func214, Tryz.ntmps214
 go_wp2_with fail
 refine P.mono ?_
 clear P
 rintro r w1 ⟨rfl, hb1⟩
 have d3 := (hb1.cell (p := ⟨be, 0, none⟩) lb).trans c3
 clear c0 c1 c2 c3
 go_wp2_with fail
 go_ret
 exact ⟨by first | rfl | (congr 2; simp; done) | (congr 2; simp; omega), hb1⟩
end Go.Proofs.YtalgochmjddodaaGreat

namespace Go.Proofs.YtalgochmjddodaaGreat
set_option maxRecDepth 100000
set_option maxHeartbeats 1000000
open Go.RowKit W Kp Stl
def Lq (w : World) (ad : Option Addr) (l : List Int) : Prop := Ls w ad l /\ (0 < l.length -> ∃ b o cs, ad = some ⟨b, o, none⟩ /\ w.heap[b]? = some (.cells cs 2 (0, 0)))
theorem Lq.kf {B : Nat} {w w' : World} {ad : Option Addr} {l : List Int} (h : Lq w ad l) (k : Kf B w w') : Lq w' ad l := by
 have hk : 0 < l.length -> ∀ b, ad = some b -> w'.heap[b.block]? = w.heap[b.block]? := fun hp b e => by
  obtain ⟨b0, o0, cs, e0, hb⟩ := h.2 hp
  rw [e0] at e
  cases e
  exact k.oth _ _ _ _ hb (by decide) (by decide)
 refine ⟨h.1.keep k.size hk, fun hp => ?_⟩
 obtain ⟨b0, o0, cs, e0, hb⟩ := h.2 hp
 exact ⟨b0, o0, cs, e0, (hk hp _ e0).trans hb⟩
theorem Lq.of {w : World} {base cap : Nat} {ad : Option Addr} {l : List Int} (h : w.ownsRow base 2 1 (.slice ad l.length cap) l.length (l.map (Value.int .i64))) : Lq w ad l := by
 refine ⟨row_ints h, fun hp => ?_⟩
 obtain ⟨b0, c0, e0⟩ := row_shape h hp
 obtain ⟨cs, hc⟩ := row_type h b0 (by rw [e0]; rfl)
 cases e0
 exact ⟨b0, 0, cs, rfl, hc⟩
section
variable {w0 w : World} {kb mq pw n : Nat} {T : List Int} {kd : Int -> Int} {sh : Int -> List Int} {M : Vst -> Int -> Vst} {s : Vst} {vn : Value} {m : List Vnd}
theorem values_any (hM : Meets w0 kb mq pw T M n) (hV : Vmet T kd sh n M) (h : Wk w0 w kb mq pw T s vn m) (ho : VOk T s) (hn : T.length <= s.1.length + n) (l : List Int) (ad : Option Addr) (cap : Nat) (hl : Lq w ad l) (hm : l.length <= 100000) :
  Calls Tryz.prog 82 #[.pointer (some ⟨kb, 0, none⟩), .slice ad l.length cap] w fun e w' => ∃ vn' m' a2 c2, e = .returned (.slice a2 l.length c2) /\ w'.ownsRow w.heap.size 95 2 (.slice a2 l.length c2) l.length (ev (vls M T s l).1) /\ Wk w0 w' kb mq pw T (vls M T s l).2 vn' m' /\ Kv w0 w m w' m' /\ (∀ k, Fb m' k -> some k ≠ (Value.slice a2 l.length c2).ownBlock) := by
 obtain ⟨i0, hi, hz0, hz1, hz2⟩ := info_parts infoVal
 have HM : Hid (Meets w0 kb mq pw T M n) := hM
 have HV : Hid (Vmet T kd sh n M) := hV
 have HL : Hid (Lq w ad l) := hl
 have HW : Hid (Wk w0 w kb mq pw T s vn m) := h
 have HO : Hid (VOk T s) := ho
 clear hM hV hl h ho
 go_enter Tryz.func82, Tryz.ntmps82
 go_wp2_with (at_make; refine wpList_make_own _ rfl _ _ 49 rfl w.heap.size 95 i0 (.agg #[.int .i64 0, .int .i64 0]) 2 Tryz.underlying49 hi hz0 hz1 .i64 .i64 _ l.length rfl rfl rfl (by rw [hz2]; omega) (by unfold maxLen; omega) (Nat.le_refl _) ?_; intro w1 hown1 hgrow1)
 have hb1 : Below w.heap.size w w1 := (Below.refl w.heap.size w).grown hgrow1 (Nat.le_refl _) (fun k e => by cases e)
 go_loopw [5, 13] (fun tv iv wr => ∃ (j : Nat) (V : List (Int × Int)) (s1 : Vst) (vn1 : Value) (m1 : List Vnd) (a2 : Option Addr) (c2 : Nat), j <= l.length /\ iv = .int .i64 j /\ Hid (vls M T s (l.take j) = (V, s1)) /\ tv = .slice a2 j c2 /\ wr.ownsRow w.heap.size 95 2 (.slice a2 j c2) j (ev V) /\ Hid (Wk w0 wr kb mq pw T s1 vn1 m1) /\ Hid (Kv w0 w m wr m1) /\ Hid (∀ k, Fb m1 k -> some k ≠ (Value.slice a2 j c2).ownBlock) /\ Hid (VOk T s1 /\ T.length <= s1.1.length + n)) (fun _ iv _ => l.length - (intOf iv).toNat)
 case atStart => exact ⟨0, [], s, vn, m, _, _, Nat.zero_le _, rfl, rfl, rfl, hown1, HW.out.below hb1, Kv.of hb1, fun k hk e => by
  have := HW.out.fb k hk
  simp [Value.ownBlock] at e
  omega, ⟨HO.out, hn⟩⟩
 case round =>
  obtain ⟨j, V, s1, vn1, m1, a2, c2, hj, rfl, HE, rfl, hT, HW1, HK1, HF1, HO1⟩ := hrel
  clear hown1 hgrow1 hb1
  by_cases hlt : j < l.length
  ·obtain ⟨b0, o0, e0, hb0, hc⟩ := (HL.out.kf HK1.out.1).1 (by omega)
   have x1 := hc j hlt
   subst e0
   clear hc
   have HS := vls_snoc M T s (l.take j) (l.getD j 0)
   rw [<- take_snoc l j hlt 0, HE.out] at HS
   have HS : Hid (vls M T s (l.take (j + 1)) = (V ++ [(vst M T s1 (l.getD j 0)).1], (vst M T s1 (l.getD j 0)).2)) := HS
   generalize l.getD j 0 = x at x1 HS
   have P := value_any HM.out HW1.out HO1.out.1 HO1.out.2 x
   have G := vst_go HV.out HO1.out.1 HO1.out.2 x
   have HO2 : Hid (VOk T (vst M T s1 x).2 /\ T.length <= (vst M T s1 x).2.1.length + n) := ⟨G.ok, by have := G.le; have := HO1.out.2; omega⟩
   clear G
   generalize (vst M T s1 x).2 = s2 at P HS HO2
   obtain ⟨u, v, huv⟩ : ∃ u v, (vst M T s1 x).1 = (u, v) := ⟨_, _, rfl⟩
   rw [huv] at P HS
   clear huv
   go_wp2_with fail
   refine P.mono ?_
   clear P
   rintro e w2 ⟨vn2, m2, rfl, hW2, hK2⟩
   have hT2 := row_keep hT (fun k hk => by
    obtain ⟨cs, hcs⟩ := row_type hT k hk
    exact hK2.1.oth k _ _ _ hcs (by decide) (by decide))
   have HF2 : Hid (∀ k, Fb m2 k -> some k ≠ (Value.slice a2 j c2).ownBlock) := fun k hk e => (hK2.2 k hk).elim (fun c => HF1.out k c e) (fun c => by have := (row_lt hT k e).2; omega)
   have HK2 : Hid (Kv w0 w m w2 m2) := HK1.out.trans hK2
   have hs2 := HK2.out.1.size
   have HW2 : Hid (Wk w0 w2 kb mq pw T s2 vn2 m2) := hW2
   clear hT hK2 HK1 HF1 HW1 HO1 x1 hW2
   have HT2 : Hid (w2.ownsRow w.heap.size 95 2 (.slice a2 j c2) j (ev V)) := hT2
   go_wp2_with (at_builtin; refine wpList_append_own_at _ rfl _ _ 49 rfl w.heap.size 95 i0 (.agg #[.int .i64 0, .int .i64 0]) 2 16 Tryz.underlying49 hi hz0 hz1 hz2 rfl (by decide) (.slice a2 j c2) j (ev V) rfl (row_alloc hT2 _) ⟨w2.heap.size, 0, none⟩ 1 1 [.int .i64 u, .int .i64 v] rfl rfl ?_ ?_ ?_ ?_ ?_ ?_; (intro j u hj; match j, hj with | 0, hj => (simp at hj; subst hj; simp [Addr.add]) | 1, hj => (simp at hj; subst hj; simp [Addr.add])); (intro u hu; simp at hu; rcases hu with hu | hu <;> (subst hu; rfl)); (unfold maxLen; omega); omega; (simp; omega); intro v' w4 hown4 hgrow4 _ hloc4; obtain ⟨b4, cap4, ev4⟩ := row_shape hown4 (Nat.succ_pos _); subst ev4)
   have hT4 : w4.ownsRow w.heap.size 95 2 (.slice (some ⟨b4, 0, none⟩) (j + 1) cap4) (j + 1) (ev (V ++ [(u, v)])) := by
    rw [ev_append]
    simpa [ev] using hown4
   have hba := (Below.refl w2.heap.size w2).alloc (Nat.le_refl _) (.cells #[.int .i64 u, .int .i64 v] 95)
   have hfr : Fr (fun k => some k = (Value.slice a2 j c2).ownBlock) (w2.alloc (.cells #[.int .i64 u, .int .i64 v] 95)) w4 := (Fr.refl _ _).grown hgrow4 (fun k e => Or.inl e.symm)
   have HW4 : Hid (Wk w0 w4 kb mq pw T s2 vn2 m2) := (HW2.out.below hba).but hfr (fun k _ e => by
    obtain ⟨cs, hcs⟩ := row_type HT2.out k e
    exact ⟨⟨cs, (hba.block k (row_lt HT2.out k e).2).trans hcs⟩, fun c => HF2.out k c e, Nat.le_trans HW.out.bel.size (row_lt HT2.out k e).1⟩)
   have HK4 : Hid (Kv w0 w m w4 m2) := (HK2.out.trans (Kv.of hba)).new hfr (fun k e => (row_lt HT2.out k e).1)
   have hbl4 : some b4 = (Value.slice a2 j c2).ownBlock \/ b4 = w2.heap.size + 1 := hloc4.imp id (fun e => by simpa [Value.ownBlock] using e)
   have HF4 : Hid (∀ k, Fb m2 k -> some k ≠ some b4) := fun k hk e => hbl4.elim (fun c => HF2.out k hk (e.trans c)) (fun c => by have := HW2.out.fb k hk; simp at e; omega)
   clear hown4 hgrow4 hloc4 hbl4 hba hfr HT2 hT2 HF2 HK2 HW2
   go_wp2_with fail
   go_roundw
   case rel => exact ⟨j + 1, V ++ [(u, v)], s2, vn2, m2, some ⟨b4, 0, none⟩, cap4, by omega, by go_num, HS, rfl, hT4, HW4, HK4, HF4, HO2⟩
   case measure => simp [intOf]; omega
  ·obtain rfl : j = l.length := by omega
   rw [List.take_length] at HE
   go_wp2_with fail
   go_ret
   rw [HE.out]
   exact ⟨vn1, m1, a2, c2, rfl, hT, HW1.out, HK1.out, HF1.out⟩
end
end Go.Proofs.YtalgochmjddodaaGreat

namespace Go.Proofs.YtalgochmjddodaaGreat
set_option maxRecDepth 100000
set_option maxHeartbeats 2000000
open Go.RowKit W Kp Stl
theorem infoNode : (Tryz.prog.info? 147).map (fun i => (i.zero, i.size, i.bytes)) = some (some (.agg #[.int .i64 0, .slice none 0 0]), 2, 32) := by kernel_rfl
section
variable {w0 w w' w'' : World} {kb mq pw n : Nat} {T : List Int} {s : Vst} {vn : Value} {m : List Vnd}
theorem Wk.turned (h : Wk w0 w kb mq pw T s vn m) (f : Fr (fun k => k = mq) w w') : Kf w0.heap.size w w' /\ w'.heap[kb]? = some (.cells #[.pointer (some ⟨pw, 0, none⟩), .map (some mq), vn] 140 (0, 0)) /\ w'.ownsRow w0.heap.size 147 2 vn m.length (nv m) /\ (∀ x ∈ m, Lv w' x.2.1 x.2.2.2) /\ Below w0.heap.size w0 w' := by
 obtain ⟨D, o1, _⟩ := h.mp
 obtain ⟨es, clock, hb, _⟩ := o1
 have hk : Kf w0.heap.size w w' := ⟨f.os, f.tape, f.output, f.size, fun k hk hl => f.block k hk (fun e => by have e : k = mq := e; have := h.lo.2; omega), fun k cs e mm hk _ _ => f.block k (lt_of_some hk) (fun c => by
  have c : k = mq := c
  rw [c, hb] at hk
  simp at hk)⟩
 refine ⟨hk, (f.block kb (lt_of_some h.blk) (fun c => ?_)).trans h.blk, row_keep h.row (fun k e => f.block k (row_lt h.row k e).2 (fun c => ?_)), fun x hx => (h.fl x hx).kf hk, h.bel.trans (hk.below h.bel.size)⟩
 ·have c : kb = mq := c
  have := h.blk
  rw [c, hb] at this
  simp at this
 ·have c : k = mq := c
  obtain ⟨cur, hcur⟩ := row_type h.row k e
  rw [c, hb] at hcur
  simp at hcur
end
theorem Wk.grown {w0 w w3 w4 : World} {kb mq pw : Nat} {T : List Int} {ms : List Int} {ns : List (Int × List (Int × Int))} {vn v4 : Value} {m : List Vnd} {kd : Int}
  (hk : w.heap[kb]? = some (.cells #[.pointer (some ⟨pw, 0, none⟩), .map (some mq), vn] 140 (0, 0))) (lo : w0.heap.size <= kb /\ w0.heap.size <= mq) (hm : Nm w mq T ms) (hr : w.ownsRow w0.heap.size 147 2 vn m.length (nv m)) (hnd : nds m = ns) (hf : ∀ x ∈ m, Lv w x.2.1 x.2.2.2) (hb : Below w0.heap.size w0 w)
  (h3 : Below w.heap.size w w3) (h4 : w4.ownsRow w0.heap.size 147 2 v4 (m.length + 1) (nv m ++ [.int .i64 kd, .slice none 0 0])) (g4 : w3.grownBy w4 vn.ownBlock) :
  Wk w0 (w4.setCell ⟨kb, 2, none⟩ v4) kb mq pw T (ms, ns ++ [(kd, [])]) v4 (m ++ [(kd, none, 0, [])]) /\ Kv w0 w m (w4.setCell ⟨kb, 2, none⟩ v4) (m ++ [(kd, none, 0, [])]) /\ w4.heap[kb]? = some (.cells #[.pointer (some ⟨pw, 0, none⟩), .map (some mq), vn] 140 (0, 0)) := by
 have hmN := hm
 obtain ⟨D, o1, _⟩ := hm
 obtain ⟨es, clock, hmb, _⟩ := o1
 have kf4 : Kf w0.heap.size w w4 := (Kf.of h3).trans (Kf.grown g4 (fun k e => ⟨(row_lt hr k e.symm).1, fun cs ty mm hc => by
  obtain ⟨cur, hcur⟩ := row_type hr k e.symm
  have := (h3.block k (lt_of_some hcur)).trans hcur
  rw [this] at hc
  simp at hc
  exact Or.inr hc.2.1.symm⟩))
 have hk4 : w4.heap[kb]? = some (.cells #[.pointer (some ⟨pw, 0, none⟩), .map (some mq), vn] 140 (0, 0)) := (g4.block kb (Nat.lt_of_lt_of_le (lt_of_some hk) h3.size) (fun e => by
  obtain ⟨cur, hcur⟩ := row_type hr kb e
  rw [hk] at hcur
  simp at hcur)).trans ((h3.block kb (lt_of_some hk)).trans hk)
 have kf5 : Kf w0.heap.size w (w4.setCell ⟨kb, 2, none⟩ v4) := kf4.trans (Kf.set hk4 (Or.inl rfl) lo.1)
 have nmk : mq ≠ kb := fun e => by rw [e, hk] at hmb; simp at hmb
 have e5 : (nv (m ++ [(kd, none, 0, [])] : List Vnd)) = nv m ++ [.int .i64 kd, .slice none 0 0] := by rw [nv_append]; rfl
 refine ⟨⟨?_, lo, ?_, ?_, ?_, fun x hx => ?_, hb.trans (kf5.below hb.size)⟩, ⟨kf5, fun k hk => ?_⟩, hk4⟩
 ·simp only [World.setCell, Array.getElem?_modify, if_true, hk4, Option.map_some]
  rfl
 ·refine hmN.same ((Below.heap_setCell _ _ _ _ nmk).trans ((g4.block mq (Nat.lt_of_lt_of_le (lt_of_some hmb) h3.size) (fun e => ?_)).trans (h3.block mq (lt_of_some hmb))))
  obtain ⟨cur, hcur⟩ := row_type hr mq e
  rw [hmb] at hcur
  simp at hcur
 ·rw [e5, List.length_append]
  refine row_keep h4 (fun k e => Below.heap_setCell _ _ _ _ (fun c => ?_))
  have c : k = kb := c
  obtain ⟨cur, hcur⟩ := row_type h4 k e
  rw [c, hk4] at hcur
  simp at hcur
 ·simp [nds] at hnd ⊢
  exact hnd
 ·rcases List.mem_append.1 hx with hx | hx
  ·exact (hf x hx).kf kf5
  ·simp at hx
   subst hx
   exact Lv.nil
 ·obtain ⟨x, hx, hl, o, e⟩ := hk
  rcases List.mem_append.1 hx with hx | hx
  ·exact Or.inl ⟨x, hx, hl, o, e⟩
  ·simp at hx
   subst hx
   simp at hl
theorem row_cell {w : World} {base size n g cap : Nat} {e : TypeId} {xs : List Value} (h : w.ownsRow base e size (.slice (some ⟨g, 0, none⟩) n cap) n xs) {i : Nat} {u : Value} (hi : xs[i]? = some u) : w.cell? ⟨g, i, none⟩ = some u /\ w.frozen? ⟨g, i, none⟩ = false := by
 rcases h.2 with ⟨hv, _⟩ | ⟨g', cap', cur, hv, hb, hg, h1, h2, h3, h4⟩
 ·simp at hv
 ·simp at hv
  obtain ⟨rfl, rfl⟩ := hv
  rw [<- h4] at hi
  have hlt : i < n * size := by
   rcases Nat.lt_or_ge i (n * size) with c | c
   ·exact c
   ·rw [List.getElem?_take, if_neg (by omega)] at hi
    simp at hi
  rw [List.getElem?_take_of_lt hlt] at hi
  constructor
  ·simp [World.cell?, hg]
   simpa using hi
  ·simp [World.frozen?, hg]
theorem Wk.filled {w0 w : World} {kb mq pw g cap len : Nat} {T : List Int} {s : Vst} {m : List Vnd} (h : Wk w0 w kb mq pw T s (.slice (some ⟨g, 0, none⟩) len cap) m) {i : Nat} {k0 : Int} {v0 : List (Int × Int)} (hi : s.2[i]? = some (k0, v0)) {base c2 : Nat} {a2 : Option Addr} {vs : List (Int × Int)}
  (hr : w.ownsRow base 95 2 (.slice a2 vs.length c2) vs.length (ev vs)) :
  Wk w0 (w.setCell ⟨g, i * 2 + 1, none⟩ (.slice a2 vs.length c2)) kb mq pw T (s.1, s.2.set i (k0, vs)) (.slice (some ⟨g, 0, none⟩) len cap) (m.set i (k0, a2, c2, vs)) /\ Kf w0.heap.size w (w.setCell ⟨g, i * 2 + 1, none⟩ (.slice a2 vs.length c2)) /\ (∀ k, Fb (m.set i (k0, a2, c2, vs)) k -> Fb m k \/ base <= k) := by
 obtain ⟨cur, hcur⟩ := row_type h.row g rfl
 have hg := (row_lt h.row g rfl).1
 have hkf : Kf w0.heap.size w (w.setCell ⟨g, i * 2 + 1, none⟩ (.slice a2 vs.length c2)) := Kf.set hcur (Or.inr rfl) hg
 obtain ⟨x, hx, hxe⟩ : ∃ x : Vnd, m[i]? = some x /\ (x.1, x.2.2.2) = (k0, v0) := by
  have := hi
  rw [<- h.nd, nds, List.getElem?_map] at this
  obtain ⟨x, hx, e⟩ := Option.map_eq_some_iff.1 this
  exact ⟨x, hx, e⟩
 have e1 : x.1 = k0 := congrArg Prod.fst hxe
 have hlen : len = m.length := by
  rcases h.row.2 with ⟨hv, _⟩ | ⟨g', cap', cur', hv, _⟩
  ·simp at hv
  ·simp at hv
   exact hv.2.1
 refine ⟨⟨(Below.heap_setCell _ _ _ _ (fun c => ?_)).trans h.blk, h.lo, h.mp.same (Below.heap_setCell _ _ _ _ (fun c => ?_)), ?_, ?_, fun y hy => ?_, h.bel.trans (hkf.below h.bel.size)⟩, hkf, fun k hk => ?_⟩
 ·have c : kb = g := c
  have := h.blk
  rw [c, hcur] at this
  simp at this
 ·have c : mq = g := c
  obtain ⟨D, ⟨es, clock, hb, _⟩, _⟩ := h.mp
  rw [c, hcur] at hb
  simp at hb
 ·rw [List.length_set, <- e1, nv_set m i x a2 c2 vs hx]
  have := h.row
  rw [<- hlen] at this ⊢
  exact row_put this _ _
 ·rw [nds, List.map_set]
  show ((nds m).set i (k0, vs)) = _
  rw [h.nd]
 ·rcases List.mem_or_eq_of_mem_set hy with hy | hy
  ·exact (h.fl y hy).kf hkf
  ·subst hy
   exact (Lv.of hr).kf hkf
 ·obtain ⟨y, hy, hl, o, e⟩ := hk
  rcases List.mem_or_eq_of_mem_set hy with hy | hy
  ·exact Or.inl ⟨y, hy, hl, o, e⟩
  ·subst hy
   have e : a2 = some ⟨k, o, none⟩ := e
   exact Or.inr (row_lt hr k (by rw [e]; rfl)).1
section
variable {w0 : World} {kb mq pw p q N O y g : Nat} {ws : List Int} {sd : Nat} {v0 : Value} {a1 : Option Addr} {k1 : Nat} {Q : List En} {T : List Int}
theorem meet_next (hq : Wq w0 pw p q N O y g ws sd v0 a1 k1 Q) (hT : ∀ a ∈ T, 0 <= a /\ a < 2000) (hTl : T.length <= 100000) (n : Nat) (M : Vst -> Int -> Vst) (hM : Meets w0 kb mq pw T M n) (hV : Vmet T (fun a => pk (ld N y g ws a)) (shL N y g ws Q) n M) :
    Meets w0 kb mq pw T (fun s a => ((vls M T (s.1 ++ [a], s.2 ++ [(pk (ld N y g ws a), [])]) (shL N y g ws Q a)).2.1, (vls M T (s.1 ++ [a], s.2 ++ [(pk (ld N y g ws a), [])]) (shL N y g ws Q a)).2.2.set s.1.length (pk (ld N y g ws a), (vls M T (s.1 ++ [a], s.2 ++ [(pk (ld N y g ws a), [])]) (shL N y g ws Q a)).1))) (n + 1) := by
  intro w s vn m a h ho ha hn hl
  obtain ⟨i0, hi, hz0, hz1, hz2⟩ := info_parts infoNode
  have hlt := ho.lt ha hn
  have hbd := hT a ha
  have hml : m.length = s.1.length := by rw [h.len, ho.len]
  have ho2 := ho.more ha hn (pk (ld N y g ws a), [])
  have hlen := vls_len M T (s.1 ++ [a], s.2 ++ [(pk (ld N y g ws a), [])]) (shL N y g ws Q a)
  have G := vls_go hV ho2 (by simp; omega) (shL N y g ws Q a)
  have hsl := shL_len N y g ws Q a
  have hQ := hq.hm
  have hGo : (vls M T (s.1 ++ [a], s.2 ++ [(pk (ld N y g ws a), [])]) (shL N y g ws Q a)).2.2[s.1.length]? = some (pk (ld N y g ws a), []) := by
    rw [G.old s.1.length (by simp), List.getElem?_append_right (by rw [ho.len]; exact Nat.le_refl _), ho.len]
    simp
  have hGl : s.1.length < (vls M T (s.1 ++ [a], s.2 ++ [(pk (ld N y g ws a), [])]) (shL N y g ws Q a)).2.1.length := by
    have := G.le
    simp at this
    omega
  have hGk : (vls M T (s.1 ++ [a], s.2 ++ [(pk (ld N y g ws a), [])]) (shL N y g ws Q a)).2.2.length = (vls M T (s.1 ++ [a], s.2 ++ [(pk (ld N y g ws a), [])]) (shL N y g ws Q a)).2.1.length := G.ok.len
  have KV : Hid (∀ (w5 : World) (vn5 : Value) (m5 : List Vnd) (ad : Option Addr) (cap : Nat), Wk w0 w5 kb mq pw T (s.1 ++ [a], s.2 ++ [(pk (ld N y g ws a), [])]) vn5 m5 -> Lq w5 ad (shL N y g ws Q a) ->
      Calls Tryz.prog 82 #[.pointer (some ⟨kb, 0, none⟩), .slice ad (shL N y g ws Q a).length cap] w5 fun e w' => ∃ vn' m' a2 c2, e = .returned (.slice a2 (shL N y g ws Q a).length c2) /\ w'.ownsRow w5.heap.size 95 2 (.slice a2 (shL N y g ws Q a).length c2) (shL N y g ws Q a).length (ev (vls M T (s.1 ++ [a], s.2 ++ [(pk (ld N y g ws a), [])]) (shL N y g ws Q a)).1) /\ Wk w0 w' kb mq pw T (vls M T (s.1 ++ [a], s.2 ++ [(pk (ld N y g ws a), [])]) (shL N y g ws Q a)).2 vn' m' /\ Kv w0 w5 m5 w' m' /\ (∀ k, Fb m' k -> some k ≠ (Value.slice a2 (shL N y g ws Q a).length c2).ownBlock)) :=
    fun w5 vn5 m5 ad cap h5 hl5 => values_any hM hV h5 ho2 (by simp; omega) _ ad cap hl5 (by omega)
  have KT : Hid (∀ w1, Below w0.heap.size w0 w1 -> Calls Tryz.prog 123 #[.pointer (some ⟨p, 0, none⟩), .int .i64 a] w1 fun e w' => e = .returned (.tuple #[.int .i64 (pk (ld N y g ws a)), .int .i64 (pf (ld N y g ws a)), .int .i64 (pc (ld N y g ws a))]) /\ Below w1.heap.size w1 w') := fun w1 hb => thing_any a w1 (hq.low hb).ar
  have KS : Hid (∀ w1, Below w0.heap.size w0 w1 -> w1.cell? ⟨kb, 0, none⟩ = some (.pointer (some ⟨pw, 0, none⟩)) -> Calls Tryz.prog 249 #[.pointer (some ⟨kb, 0, none⟩), .int .i64 a, .int .i64 (pk (ld N y g ws a)), .int .i64 (pf (ld N y g ws a))] w1 fun e w' => ∃ ad cap, e = .returned (.slice ad (shL N y g ws Q a).length cap) /\ w'.ownsRow w1.heap.size 2 1 (.slice ad (shL N y g ws Q a).length cap) (shL N y g ws Q a).length ((shL N y g ws Q a).map (Value.int .i64)) /\ Below w1.heap.size w1 w') :=
    fun w1 hb hc => shown_any (hq.low hb) kb hc a hbd.1 (by omega)
  have lpw := World.block_lt_of_cell? w0 _ hq.c0
  have cpw : Hid (∀ w1, Below w0.heap.size w0 w1 -> w1.cell? ⟨pw, 0, none⟩ = some (.pointer (some ⟨p, 0, none⟩))) := fun w1 hb => (hq.low hb).c0
  have hky := keyI (a := a) (by omega) (by omega)
  have hvl := elI (s.1.length : Int) (WalkArith.wf_i64 ⟨by omega, by omega⟩)
  clear hM hV G ho2 hsl hQ hq hT
  dsimp only
  generalize hvv : vls M T (s.1 ++ [a], s.2 ++ [(pk (ld N y g ws a), [])]) (shL N y g ws Q a) = R at *
  clear hvv
  generalize shL N y g ws Q a = SL at *
  obtain ⟨vs, s7⟩ := R
  dsimp only at *
  generalize pk (ld N y g ws a) = kd at *
  generalize pf (ld N y g ws a) = f at *
  generalize pc (ld N y g ws a) = cc at *
  have H : Hid (Wk w0 w kb mq pw T s vn m) := h
  obtain ⟨nA, nC, hvn⟩ := row_slice h.row
  subst hvn
  obtain ⟨c0, c1, c2, lk⟩ := h.cells
  obtain ⟨D, o1, o2, o3⟩ := h.mp
  have hlo := h.lo
  have HN : Hid (∀ (w1 : World) (k : Nat), w1.ownsMap Tryz.prog 3 (plainElem Tryz.prog 3) mq k (D.put (.int .i64 a) (.lit (.int .i64 (s.1.length : Int)))) -> Nm w1 mq T (s.1 ++ [a])) := fun w1 k h4 => Nm.put o1 o2 o3 ha hn h4
  have HD : Hid (nds m = s.2) := h.nd
  clear h o2 o3 ho ha hn
  generalize s.1.length = L at *
  subst hml
  go_enter Tryz.func238, Tryz.ntmps238
  go_wp2_with (at_mapUpdate; refine wpList_mapUpdate_own _ rfl _ _ _ 104 rfl 3 3 lawI Tryz.underlying104 (plainElem (H := Unit) Tryz.prog 3) mq T.length D rfl o1 (by unfold maxLen; omega) _ _ _ rfl rfl hky _ [] hvl ?_; intro w1 hown1 hgrow1; (have hfr1 : Fr (fun k => k = mq) w w1 := (Fr.refl _ _).grown hgrow1 (fun k e => Or.inl (by cases e; rfl))); (have TR : Hid (_ /\ _ /\ _ /\ _ /\ _) := H.out.turned hfr1); (have N1 : Hid (Nm w1 mq T (s.1 ++ [a])) := HN.out w1 _ hown1); (have y0 : w1.cell? ⟨kb, 0, none⟩ = some (.pointer (some ⟨pw, 0, none⟩)) := by simp [World.cell?, TR.out.2.1]); (have y1 := cpw.out w1 TR.out.2.2.2.2); clear hown1 hgrow1 hfr1 c0 c1 c2 o1 HN)
  refine (KT.out w1 TR.out.2.2.2.2).mono ?_
  clear KT
  rintro e w2 ⟨rfl, hb2⟩
  have hk2 := (hb2.block kb (lt_of_some TR.out.2.1)).trans TR.out.2.1
  have z2 : w2.cell? ⟨kb, 2, none⟩ = some (.slice nA m.length nC) := by simp [World.cell?, hk2]
  have HK2 : Hid (_ = _) := hk2
  have N2 : Hid (Nm w2 mq T (s.1 ++ [a])) := N1.out.same (by obtain ⟨D', o', _⟩ := N1.out; exact hb2.block mq o'.lt)
  have R2 := row_keep TR.out.2.2.1 (fun k hk => hb2.block k (row_lt TR.out.2.2.1 k hk).2)
  have HR2 : Hid (_) := R2
  have F2 : Hid (∀ x ∈ m, Lv w2 x.2.1 x.2.2.2) := fun x hx => (TR.out.2.2.2.1 x hx).kf (Kf.of (B := 0) hb2)
  have B2 : Hid (Below w0.heap.size w0 w2) := TR.out.2.2.2.2.trans (hb2.mono TR.out.2.2.2.2.size)
  have K2 : Hid (Kv w0 w m w2 m) := (show Kv w0 w m w1 m from ⟨TR.out.1, fun k h => Or.inl h⟩).trans (Kv.of hb2)
  have hs2 := B2.out.size
  clear TR N1 hk2 y0 y1 hb2 lk
  go_wp2_with (at_builtin; refine wpList_append_own_at _ rfl _ _ 50 rfl w0.heap.size 147 i0 (.agg #[.int .i64 0, .slice none 0 0]) 2 32 Tryz.underlying50 hi hz0 hz1 hz2 rfl (by decide) (.slice nA m.length nC) m.length (nv m) rfl (row_alloc R2 _) ⟨w2.heap.size, 0, none⟩ 1 1 [.int .i64 kd, .slice none 0 0] rfl rfl ?_ ?_ ?_ ?_ ?_ ?_; (intro j u hj; match j, hj with | 0, hj => (simp at hj; subst hj; simp [Addr.add]) | 1, hj => (simp at hj; subst hj; simp [Addr.add])); (intro u hu; simp at hu; rcases hu with hu | hu <;> (subst hu; rfl)); (unfold maxLen; omega); omega; (simp; omega); intro v' w4 hown4 hgrow4 _ hloc4; obtain ⟨b4, cap4, ev4⟩ := row_shape hown4 (Nat.succ_pos _); subst ev4; (have WG : Hid (_ /\ _ /\ _) := Wk.grown HK2.out hlo N2.out HR2.out HD.out F2.out B2.out ((Below.refl w2.heap.size w2).alloc (Nat.le_refl _) _) hown4 hgrow4); (have u0 : w4.cell? ⟨kb, 2, none⟩ = some (.slice nA m.length nC) := by simp [World.cell?, WG.out.2.2]); (have u1 : w4.frozen? ⟨kb, 2, none⟩ = false := by simp [World.frozen?, WG.out.2.2]); clear hown4 hgrow4 hloc4 z2 R2 HK2 N2 HR2 HD F2 B2)
  obtain ⟨WG1, WG2, _⟩ := WG.out
  have KK5 : Hid (Kv w0 w m (w4.setCell ⟨kb, 2, none⟩ (.slice (some ⟨b4, 0, none⟩) (m.length + 1) cap4)) (m ++ [(kd, none, 0, [])])) := K2.out.trans WG2
  have W5 : Hid (Wk w0 (w4.setCell ⟨kb, 2, none⟩ (.slice (some ⟨b4, 0, none⟩) (m.length + 1) cap4)) kb mq pw T (s.1 ++ [a], s.2 ++ [(kd, [])]) (.slice (some ⟨b4, 0, none⟩) (m.length + 1) cap4) (m ++ [(kd, none, 0, [])])) := WG1
  clear WG WG1 WG2 u0 u1 K2
  generalize w4.setCell ⟨kb, 2, none⟩ (.slice (some ⟨b4, 0, none⟩) (m.length + 1) cap4) = w5 at KK5 W5 ⊢
  refine (KS.out w5 W5.out.bel W5.out.cells.1).mono ?_
  clear KS
  rintro e w6 ⟨ad, cap, rfl, hr6, hb6⟩
  go_wp2_with fail
  refine (KV.out w6 _ _ ad cap (W5.out.below hb6) (Lq.of hr6)).mono ?_
  clear KV
  rintro e w7 ⟨vn7, m7, a2, c7, rfl, hr7, hW7, hK7, hF7⟩
  have hm7 : m7.length = s7.1.length := hW7.len.trans hGk
  obtain ⟨g7, cap7, e7⟩ := row_shape hW7.row (by omega)
  subst e7
  have z2 := hW7.cells.2.2.1
  have hlt7 : m.length < m7.length := by omega
  obtain ⟨zc, zf⟩ := row_cell hW7.row ((nv_get m7 m.length _ (List.getElem?_eq_getElem hlt7)).2)
  rw [<- hlen] at hr7
  have FI : Hid (_ /\ _ /\ _) := hW7.filled hGo hr7
  have K7 : Hid (Kv w0 w m w7 m7) := (KK5.out.trans (Kv.of hb6)).trans hK7
  have hs7 := ((KK5.out.trans (Kv.of hb6)).1).size
  generalize (m7[m.length]).2.1 = q1 at zc
  generalize (m7[m.length]).2.2.2.length = q2 at zc
  generalize (m7[m.length]).2.2.1 = q3 at zc
  rw [hlen] at FI
  clear hr6 hb6 hr7 hW7 hK7 hF7 KK5 W5 hGo hlen hvl hky
  go_wp2_with fail
  go_ret
  exact ⟨_, _, rfl, FI.out.1, K7.out.1.trans FI.out.2.1, fun k hk => (FI.out.2.2 k hk).elim (K7.out.2 k) (fun c => Or.inr (Nat.le_trans hs7 c))⟩
theorem meet_any (hq : Wq w0 pw p q N O y g ws sd v0 a1 k1 Q) (hT : ∀ a ∈ T, 0 <= a /\ a < 2000) (hTl : T.length <= 100000) : ∀ n, Meets w0 kb mq pw T (met T (fun a => pk (ld N y g ws a)) (shL N y g ws Q) n) n
 | 0 => fun w s vn m a _ ho ha hn hl => by
  have := ho.lt ha hn
  omega
 | n + 1 => meet_next hq hT hTl n _ (meet_any hq hT hTl n) (met_go n)
end
end Go.Proofs.YtalgochmjddodaaGreat
